/- MakerLook once the value of the kind is known that should be looked at, no more makers are possible, at the worst, than with any other one, nor as many if that one comes before it; none should be looked at just if fewer than two are possible; for every book and every number; no condition. Law: MakerLook. Law: MakerLook. Law: MakerLook. Slices that are built, and appended to, within a tree. Mathematics of maker: a mark that stands for all of its kind. Mathematics of maker: what is told of two makers, and lists of values. -/
import Derived.Test.YthaplmohhbdfeaaGa15
import Derived.Test.YthaplmohhbdfeaaZj04
import Derived.Test.YthaplmohhbdfeaaZj05
import Derived.Test.YthaplmohhbdfeaaZj07
import Derived.Test.YthaplmohhbdfeaaZj06
import Derived.Test.YthaplmohhbdfeaaGa16
namespace Go.Proofs.Ythaplmohhbdfeaa.Mk
open Go.RowKit Ls
theorem both_iff {b : MBook} (h : okC b) {o u : Nat} : bothB b o u = true ↔ bothP b o u := by
  have h6 := h.2.1.2
  have key : ∀ c1 c2, (!lackB fun q => valA (unseenB b) o c1 q &&& valA (unseenB b) u c2 q) = true ↔ ∀ k, k < nK b → valN (unseenB b) o c1 k &&& valN (unseenB b) u c2 k ≠ 0 := fun c1 c2 => by
    rw [Bool.not_eq_true', Bool.eq_false_iff, ne_eq, lack_iff]
    constructor
    · intro H k hk he
      refine H ⟨k, by omega, ?_⟩
      unfold valA
      rw [if_pos (show k < nK (unseenB b) from hk), if_pos (show k < nK (unseenB b) from hk)]
      exact he
    · rintro H ⟨k, hk, he⟩
      unfold valA at he
      by_cases hn : k < nK b
      · rw [if_pos (show k < nK (unseenB b) from hn), if_pos (show k < nK (unseenB b) from hn)] at he
        exact H k hn he
      · rw [if_neg (show ¬ k < nK (unseenB b) from hn), if_neg (show ¬ k < nK (unseenB b) from hn)] at he
        cases he
  unfold bothB bothP
  rw [List.any_eq_true]
  constructor
  · rintro ⟨c1, h1, h2⟩
    obtain ⟨c2, h3, h4⟩ := List.any_eq_true.1 h2
    exact ⟨c1, h1, c2, h3, (key c1 c2).1 h4⟩
  · rintro ⟨c1, h1, c2, h3, h4⟩
    exact ⟨c1, h1, List.any_eq_true.2 ⟨c2, h3, (key c1 c2).2 h4⟩⟩
theorem bothP_comm {b : MBook} {o u : Nat} (h : bothP b o u) : bothP b u o := by
  obtain ⟨c1, h1, c2, h2, h3⟩ := h
  exact ⟨c2, h2, c1, h1, fun k hk => by rw [Nat.and_comm]; exact h3 k hk⟩
theorem bothB_comm {b : MBook} (h : okC b) (o u : Nat) : bothB b o u = bothB b u o := by
  rw [Bool.eq_iff_iff, both_iff h, both_iff h]
  exact ⟨bothP_comm, bothP_comm⟩
/-- Marks of which each one tells the value of its kind. -/
def exL (l : List Int) (j : Nat) : List (Int × Int) := (List.range j).map fun (k : Nat) => ((k : Int), 2 ^ exV l k)
theorem exactB_eq (b : MBook) (l : List Int) : exactB b l = { b with seen := exL l l.length } := rfl
theorem exL_next (l : List Int) (j : Nat) : exL l (j + 1) = exL l j ++ [((j : Int), 2 ^ exV l j)] := by
  unfold exL
  rw [List.range_succ, List.map_append]
  rfl
theorem exV_get {l : List Int} (h : fiveL l) {j : Nat} (hj : j < l.length) : l[j] = (exV l j : Int) := by
  have := h _ (List.getElem_mem hj)
  unfold exV
  rw [List.getD_eq_getElem?_getD, List.getElem?_eq_getElem hj]
  show l[j] = ((l[j]).toNat : Int)
  omega
theorem exL_len (l : List Int) (j : Nat) : (exL l j).length = j := by simp [exL]
theorem exact_ok {b : MBook} (h : okBook b) {l : List Int} (hf : fiveL l) (hl : l.length = nK b) : okBook (exactB b l) := by
  obtain ⟨⟨h1, h2, h3, h4, h5⟩, h8⟩ := h
  refine ⟨⟨h1, h2, h3, ?_, h5⟩, ?_⟩
  · intro m hm
    obtain ⟨k, hk, rfl⟩ := List.mem_map.1 hm
    have hk2 := List.mem_range.1 hk
    have h9 := ex_five hf k
    have hp : (2 : Int) ^ (l.getD k 0).toNat = ((2 ^ exV l k : Nat) : Int) := by
      unfold exV
      norm_cast
    have hle : 2 ^ exV l k ≤ 16 := Nat.pow_le_pow_right (n := 2) (by decide) (show exV l k ≤ 4 by omega)
    have hge : 1 ≤ 2 ^ exV l k := Nat.one_le_two_pow
    show (0 ≤ (k : Int) ∧ (k : Int) < (nK b : Int)) ∧ 1 ≤ (2 : Int) ^ (l.getD k 0).toNat ∧ (2 : Int) ^ (l.getD k 0).toNat ≤ 31
    rw [hp]
    omega
  · show (exL l l.length).length ≤ 8
    rw [exL_len]
    omega
def pickI (b : MBook) (o u k : Nat) : Int := (listI (pickN b o u k : Nat) 5).getD 0 0
def pickL (b : MBook) (o u j : Nat) : List Int := (List.range j).map (pickI b o u)
theorem pickL_next (b : MBook) (o u j : Nat) : (pickL b o u (j + 1)).map (fun x => [pi x]) = (pickL b o u j).map (fun x => [pi x]) ++ [[pi (pickI b o u j)]] := by
  unfold pickL
  rw [List.range_succ, List.map_append, List.map_append]
  rfl
theorem pick_pos {b : MBook} (h : okC b) {o u k : Nat} (ho : o < b.makers.length) (hu : u < b.makers.length) (hk : k < nK b) : 1 ≤ pickN b o u k ∧ pickN b o u k < 32 := by
  have h1 := h.mk ho hk
  have h2 := h.mk hu hk
  unfold pickN
  split
  · split <;> omega
  · rename_i hd
    unfold dK at hd
    rw [decide_eq_true_eq] at hd
    have := Nat.and_le_left (n := mkN b o k) (m := mkN b u k)
    omega
theorem pick_head {s : Nat} (h : 1 ≤ s ∧ s < 32) : ∃ h0 : 0 < (listI (s : Nat) 5).length, ∃ v : Nat, (listI (s : Nat) 5)[0] = (v : Int) ∧ v < 5 ∧ s.testBit v = true := by
  obtain ⟨i, hi⟩ := ne_bit.1 (show s ≠ 0 by omega)
  have hi5 : i < 5 := bit_lt (n := 5) (by omega) hi
  have hm : (i : Int) ∈ listI (s : Nat) 5 := (mem_listI hi5).2 (by rw [of_bit (by omega)]; exact hi)
  have h0 : 0 < (listI (s : Nat) 5).length := List.length_pos_of_mem hm
  have hx := List.getElem_mem h0
  unfold listI at hx
  obtain ⟨v, hv, ev⟩ := List.mem_map.1 hx
  obtain ⟨hv5, hb⟩ := List.mem_filter.1 hv
  have hv6 := List.mem_range.1 hv5
  rw [of_bit (by omega)] at hb
  exact ⟨h0, v, ev.symm, hv6, hb⟩
theorem pick_get {b : MBook} (h : okC b) {o u k : Nat} (ho : o < b.makers.length) (hu : u < b.makers.length) (hk : k < nK b) : ∃ h0 : 0 < (listI (pickN b o u k : Nat) 5).length, (listI (pickN b o u k : Nat) 5)[0] = pickI b o u k ∧ ∃ v : Nat, pickI b o u k = (v : Int) ∧ v < 5 ∧ (pickN b o u k).testBit v = true := by
  obtain ⟨h0, v, ev, hv, hb⟩ := pick_head (pick_pos h ho hu hk)
  have e : pickI b o u k = (listI (pickN b o u k : Nat) 5)[0] := by
    unfold pickI
    rw [List.getD_eq_getElem?_getD, List.getElem?_eq_getElem h0]
    rfl
  exact ⟨h0, e.symm, v, e.trans ev, hv, hb⟩
theorem pickL_len (b : MBook) (o u j : Nat) : (pickL b o u j).length = j := by simp [pickL]
theorem pickL_five {b : MBook} (h : okC b) {o u : Nat} (ho : o < b.makers.length) (hu : u < b.makers.length) : fiveL (pickL b o u (nK b)) := by
  intro x hx
  obtain ⟨k, hk, rfl⟩ := List.mem_map.1 hx
  obtain ⟨-, -, v, e, hv, -⟩ := pick_get h ho hu (List.mem_range.1 hk)
  rw [e]
  omega
theorem pickL_bit {b : MBook} (h : okC b) {o u : Nat} (ho : o < b.makers.length) (hu : u < b.makers.length) {k : Nat} (hk : k < nK b) : (pickN b o u k).testBit (exV (pickL b o u (nK b)) k) = true := by
  obtain ⟨-, -, v, e, hv, hb⟩ := pick_get h ho hu hk
  have : exV (pickL b o u (nK b)) k = v := by
    unfold exV pickL
    simp [List.getD_eq_getElem?_getD, hk, e]
  rw [this]
  exact hb
def anyL (bits : List Int) (j : Nat) : List Int := (List.range j).map fun (k : Nat) => rndI (takeL bits k) 5
theorem anyL_next (bits : List Int) (j : Nat) : (anyL bits (j + 1)).map (fun x => [pi x]) = (anyL bits j).map (fun x => [pi x]) ++ [[pi (rndI (takeL bits j) 5)]] := by
  unfold anyL
  rw [List.range_succ, List.map_append, List.map_append]
  rfl
theorem anyL_len (bits : List Int) (j : Nat) : (anyL bits j).length = j := by simp [anyL]
theorem anyL_five (bits : List Int) (j : Nat) : fiveL (anyL bits j) := by
  intro x hx
  obtain ⟨k, hk, rfl⟩ := List.mem_map.1 hx
  have := rndI_range (n := takeL bits k) (m := 5) (by decide)
  omega
theorem two_ne {len : Nat} {o : Nat} {r : Int} (ho : o < len) (h2 : 2 ≤ len) (hr : 0 ≤ r ∧ r < (len : Int) - 1) : ∃ u : Nat, rndI ((o : Int) + 1 + r) len = u ∧ u < len ∧ u ≠ o := by
  unfold rndI
  rw [if_neg (by omega)]
  by_cases h : (o : Int) + 1 + r < len
  · rw [Int.emod_eq_of_lt (by omega) h]
    exact ⟨((o : Int) + 1 + r).toNat, by omega, by omega, by omega⟩
  · have : ((o : Int) + 1 + r) / len = 1 ∧ ((o : Int) + 1 + r) % len = (o : Int) + 1 + r - len := (Int.ediv_emod_unique (by omega)).2 ⟨by omega, by omega, by omega⟩
    rw [this.2]
    exact ⟨((o : Int) + 1 + r - len).toNat, by omega, by omega, by omega⟩
end Go.Proofs.Ythaplmohhbdfeaa.Mk
namespace Go.Proofs.Ythaplmohhbdfeaa.Mk
open Go.RowKit Ls
theorem who_ext {x y : MBook} (h1 : x.makers = y.makers) (h2 : x.repairs = y.repairs) (h3 : x.fixed = y.fixed) (h4 : ∀ p, seenN x p = seenN y p) : whoL x = whoL y := by
  have s1 : Sub x y := ⟨h1, fun p i h => by rw [← h4]; exact h, by omega, h3⟩
  have s2 : Sub y x := ⟨h1.symm, fun p i h => by rw [h4]; exact h, by omega, h3.symm⟩
  unfold whoL
  rw [h1]
  refine List.filter_congr fun m _ => ?_
  rw [Bool.eq_iff_iff]
  exact ⟨s1.poss, s2.poss⟩
def moreB (b : MBook) (m : Int × Int) : MBook := { b with seen := b.seen ++ [m] }
/-- All marks but those of a kind. -/
def otherL (l : List (Int × Int)) (q : Nat) : List (Int × Int) := l.filter fun m => decide (¬ m.1 = (q : Int))
def otherB (b : MBook) (q : Nat) : MBook := { b with seen := otherL b.seen q }
def onlyB (b : MBook) (q v : Nat) : MBook := moreB (otherB b q) ((q : Int), ((2 ^ v : Nat) : Int))
theorem mem_other {l : List (Int × Int)} {q : Nat} {m : Int × Int} : m ∈ otherL l q ↔ m ∈ l ∧ ¬ m.1 = (q : Int) := by
  unfold otherL
  rw [List.mem_filter, decide_eq_true_eq]
theorem other_next {l : List (Int × Int)} {q j : Nat} (hj : j < l.length) : otherL (l.take (j + 1)) q = otherL (l.take j) q ++ if l[j].1 = (q : Int) then [] else [l[j]] := by
  unfold otherL
  rw [List.take_succ_eq_append_getElem hj, List.filter_append]
  congr 1
  by_cases h : l[j].1 = (q : Int)
  · simp [h]
  · simp [h]
theorem other_len (l : List (Int × Int)) (q : Nat) : (otherL l q).length ≤ l.length := List.length_filter_le ..
theorem only_seen {b : MBook} {q v : Nat} (hv : (seenN b q).testBit v = true) (p i : Nat) : (seenN (onlyB b q v) p).testBit i = true ↔ (seenN b p).testBit i = true ∧ (p = q → i = v) := by
  rw [seen_bit, seen_bit]
  have hv2 := seen_bit.1 hv
  constructor
  · rintro ⟨h1, h2⟩
    by_cases e : p = q
    · subst e
      have h3 := h2 ((p : Int), ((2 ^ v : Nat) : Int)) (List.mem_append_right _ (List.mem_singleton.2 rfl)) rfl
      rw [Int.toNat_natCast, Nat.testBit_two_pow, decide_eq_true_eq] at h3
      subst h3
      exact ⟨hv2, fun _ => rfl⟩
    · refine ⟨⟨h1, fun m hm he => h2 m (List.mem_append_left _ (mem_other.2 ⟨hm, fun h => ?_⟩)) he⟩, fun h => absurd h e⟩
      omega
  · rintro ⟨⟨h1, h2⟩, h3⟩
    refine ⟨h1, fun m hm he => ?_⟩
    rcases List.mem_append.1 hm with hm | hm
    · exact h2 m (mem_other.1 hm).1 he
    · have := List.mem_singleton.1 hm
      subst this
      have e : p = q := by
        have he2 : (q : Int) = (p : Int) := he
        omega
      rw [h3 e, Int.toNat_natCast, Nat.testBit_two_pow_self]
theorem know_seen {b : MBook} {q v : Nat} (p i : Nat) : (seenN (knowB b q v) p).testBit i = true ↔ (seenN b p).testBit i = true ∧ (p = q → i = v) := by
  rw [seen_bit, seen_bit]
  have ee : ((2 : Int) ^ v).toNat = 2 ^ v := by
    have : ((2 : Int) ^ v) = ((2 ^ v : Nat) : Int) := by norm_cast
    rw [this, Int.toNat_natCast]
  constructor
  · rintro ⟨h1, h2⟩
    refine ⟨⟨h1, fun m hm he => h2 m (List.mem_append_left _ hm) he⟩, fun e => ?_⟩
    subst e
    have h3 := h2 ((p : Int), 2 ^ v) (List.mem_append_right _ (List.mem_singleton.2 rfl)) rfl
    rw [ee, Nat.testBit_two_pow, decide_eq_true_eq] at h3
    exact h3.symm
  · rintro ⟨⟨h1, h2⟩, h3⟩
    refine ⟨h1, fun m hm he => ?_⟩
    rcases List.mem_append.1 hm with hm | hm
    · exact h2 m hm he
    · have := List.mem_singleton.1 hm
      subst this
      have e : p = q := by
        have he2 : (q : Int) = (p : Int) := he
        omega
      rw [h3 e, ee, Nat.testBit_two_pow_self]
theorem values_seen {b : MBook} {q v : Nat} (h : v ∈ valuesL b q) : v < 5 ∧ (seenN b q).testBit v = true := by
  unfold valuesL at h
  obtain ⟨h1, h2⟩ := List.mem_filter.1 h
  obtain ⟨m, c, -, -, hb⟩ := can_bit.1 h2
  exact ⟨List.mem_range.1 h1, val_seen hb⟩
theorem only_who {b : MBook} {q v : Nat} (h : v ∈ valuesL b q) : whoL (onlyB b q v) = whoL (knowB b q v) := by
  refine who_ext rfl rfl rfl fun p => ?_
  refine Nat.eq_of_testBit_eq fun i => ?_
  rw [Bool.eq_iff_iff, only_seen (values_seen h).2, know_seen]
theorem only_right {b : MBook} {q v : Nat} (h : v ∈ valuesL b q) (hr : rightB b = true) : rightB (onlyB b q v) = true := by
  refine List.all_eq_true.2 fun p hp => decide_eq_true (ne_bit.2 ?_)
  have h0 : seenN b p ≠ 0 := of_decide_eq_true (List.all_eq_true.1 hr p hp)
  by_cases e : p = q
  · subst e
    exact ⟨v, (only_seen (values_seen h).2 p v).2 ⟨(values_seen h).2, fun _ => rfl⟩⟩
  · obtain ⟨i, hi⟩ := ne_bit.1 h0
    exact ⟨i, (only_seen (values_seen h).2 p i).2 ⟨hi, fun h => absurd h e⟩⟩
theorem other_ok {b : MBook} (h : okBook b) (q : Nat) : okBook (otherB b q) := ⟨h.1.unseen _ fun _ hm => (mem_other.1 hm).1, Nat.le_trans (other_len b.seen q) h.2⟩
theorem more_ok {b : MBook} (h : okBook b) {q v : Nat} (hq : q < nK b) (hv : v < 5) (h8 : b.seen.length < 8) : okBook (moreB b ((q : Int), ((2 ^ v : Nat) : Int))) := by
  obtain ⟨⟨h1, h2, h3, h4, h5⟩, -⟩ := h
  have hle : 2 ^ v ≤ 16 := Nat.pow_le_pow_right (n := 2) (by decide) (show v ≤ 4 by omega)
  have hge : 1 ≤ 2 ^ v := Nat.one_le_two_pow
  refine ⟨⟨h1, h2, h3, fun m hm => ?_, h5⟩, ?_⟩
  · rcases List.mem_append.1 hm with hm | hm
    · exact h4 m hm
    · have := List.mem_singleton.1 hm
      subst this
      show (0 ≤ (q : Int) ∧ (q : Int) < (nK b : Int)) ∧ 1 ≤ ((2 ^ v : Nat) : Int) ∧ ((2 ^ v : Nat) : Int) ≤ 31
      omega
  · show (b.seen ++ [_]).length ≤ 8
    rw [List.length_append]
    simp only [List.length_cons, List.length_nil]
    omega
def worstF (b : MBook) (q j : Nat) : Nat := ((valuesL b q).take j).foldl (fun m v => max m (whoL (knowB b q v)).length) 0
theorem worstF_next {b : MBook} {q j : Nat} (hj : j < (valuesL b q).length) : worstF b q (j + 1) = max (worstF b q j) (whoL (knowB b q (valuesL b q)[j])).length := by
  unfold worstF
  rw [List.take_succ_eq_append_getElem hj, List.foldl_append]
  rfl
theorem worstF_end (b : MBook) (q : Nat) : worstF b q (valuesL b q).length = worstN b q := by
  unfold worstF worstN
  rw [List.take_length]
theorem worstF_le {b : MBook} (h : okC b) {q : Nat} : ∀ j, j ≤ (valuesL b q).length → worstF b q j ≤ 5
  | 0, _ => by simp [worstF]
  | j + 1, hj => by
    have h1 := worstF_le h (q := q) j (by omega)
    have h2 := who_len (knowB b q (valuesL b q)[j])
    have h3 : (knowB b q (valuesL b q)[j]).makers.length ≤ 5 := h.1.2
    rw [worstF_next hj]
    omega
def fullB (b : MBook) (q : Nat) : Bool := decide (valuesL b q ≠ [] ∧ (otherL b.seen q).length = 8)
end Go.Proofs.Ythaplmohhbdfeaa.Mk
namespace Go.Proofs.Ythaplmohhbdfeaa
open Go.RowKit
section
variable {C : Con} {rd : List Nat} {d : Option Nat} {i : Nat} {tk lst : Bool} {s : AS} {K : List Nat → AS → Prop}
def bslG2 (v : Option (List PV)) (sz n : Nat) (d : Option Nat) (s : AS) (K : AS → Prop) : Prop :=
  match v with
  | some l => K (s.put d (.p (.sl .full sz (rows sz n l))))
  | none => False
def bslG (v : Option (List AV)) (sz n : Nat) (d : Option Nat) (s : AS) (K : AS → Prop) : Prop :=
  match v with
  | some cs => bslG2 (pures cs) sz n d s K
  | none => False
theorem gs_bsl {e : TypeId} {sz n : Nat} {z : List PV} {ps : List (Nat × Nat × AX)} : gstep C rd ⟨d, .bslice false e sz n z ps, none, i, tk, lst⟩ s K = bslG (fillA s ps ((repl n z).map .p)) sz n d s (K (bif lst then [] else rd)) := by
  rw [gs_eff rfl]
  simp only [effQ, bslG]
  cases fillA s ps ((repl n z).map .p) with
  | none => rfl
  | some cs =>
    simp only [bslG2]
    cases pures cs <;> rfl
theorem bslG_some {sz n : Nat} {cs : List AV} {K : AS → Prop} : bslG (some cs) sz n d s K = bslG2 (pures cs) sz n d s K := rfl
theorem bslG2_some {sz n : Nat} {l : List PV} {K : AS → Prop} : bslG2 (some l) sz n d s K = K (s.put d (.p (.sl .full sz (rows sz n l)))) := rfl
def appG (v u : AV) (e : TypeId) (sz : Nat) (d : Option Nat) (s : AS) (K : AS → Prop) : Prop :=
  match v, u with
  | .p (.sl k sz1 es), .p (.sl _ sz2 news) => (sz1 = sz ∨ es = []) ∧ (sz2 = sz ∨ news = []) ∧ es.length + news.length ≤ 1000000 ∧ canApp s.live e sz k ∧ ∀ t, t ∉ s.live → K (({ s with live := t :: liveApp s.live k } : AS).put d (.p (.sl (.own t e sz) sz (es ++ news))))
  | _, _ => False
theorem gs_app {e : TypeId} {sz q : Nat} {z : List PV} {x y : AX} : gstep C rd ⟨d, .app false e sz q z x y, none, i, tk, lst⟩ s K = appG (x.ev s) (y.ev s) e sz d s (K (bif lst then [] else rd)) := by
  rw [gs_eff rfl]
  simp only [effQ, appG]
  cases x.ev s with
  | p v =>
    cases v with
    | sl k sz1 es =>
      cases y.ev s with
      | p u => cases u <;> rfl
      | _ => rfl
    | _ => rfl
  | _ => rfl
theorem appG_sl {k k2 : SK} {sz1 sz2 : Nat} {es news : List (List PV)} {e : TypeId} {sz : Nat} {K : AS → Prop} : appG (.p (.sl k sz1 es)) (.p (.sl k2 sz2 news)) e sz d s K = ((sz1 = sz ∨ es = []) ∧ (sz2 = sz ∨ news = []) ∧ es.length + news.length ≤ 1000000 ∧ canApp s.live e sz k ∧ ∀ t, t ∉ s.live → K (({ s with live := t :: liveApp s.live k } : AS).put d (.p (.sl (.own t e sz) sz (es ++ news))))) := rfl
end
end Go.Proofs.Ythaplmohhbdfeaa
namespace Go.Proofs.Ythaplmohhbdfeaa.Mk
open Go.RowKit Ls
def ac46 : AC := (AC.seq (AC.ops [(AOp.mk (some 2) (AK.box 4 (AX.t 0)) none 0 false true), (AOp.mk (some 3) (AK.box 2 (AX.t 1)) none 1 false true), (AOp.mk (some 4) (AK.new (PV.agg [(PV.sl SK.full 0 []), (PV.sl SK.full 0 []), (PV.val (Value.int IntKind.i64 0)), (PV.val (Value.int IntKind.i64 0))])) none 2 false true)]) (AC.seq (AC.ops [(AOp.mk (some 6) (AK.ld (some 4) (AX.t 2)) none 0 false true), (AOp.mk (some 5) (AK.new (PV.agg [(PV.sl SK.full 0 []), (PV.sl SK.full 0 []), (PV.val (Value.int IntKind.i64 0)), (PV.val (Value.int IntKind.i64 0))])) none 1 false true), (AOp.mk none (AK.st 4 (AX.t 5) (AX.t 6)) none 2 false true)]) (AC.seq (AC.tree (AT.op (AOp.mk (some 8) (AK.fadr 1 (AX.t 2)) none 1 true false) (AT.op (AOp.mk (some 9) (AK.ld none (AX.t 8)) none 2 true false) (AT.op (AOp.mk (some 11) (AK.ld (some 2) (AX.t 3)) none 4 true false) (AT.fk (AOp.mk (some 7) (AK.bslice false 59 2 0 [(PV.val (Value.int IntKind.i64 0)), (PV.val (Value.int IntKind.i64 0))] []) none 0 false false) (AOp.mk (some 12) (AK.bslice false 59 2 1 [(PV.val (Value.int IntKind.i64 0)), (PV.val (Value.int IntKind.i64 0))] [(0, (2, (AX.t 11)))]) none 5 false false) (AT.fk (AOp.mk (some 10) (AK.app false 59 2 16 [(PV.val (Value.int IntKind.i64 0)), (PV.val (Value.int IntKind.i64 0))] (AX.t 7) (AX.t 9)) none 3 false false) (AOp.mk (some 12) (AK.bslice false 59 2 1 [(PV.val (Value.int IntKind.i64 0)), (PV.val (Value.int IntKind.i64 0))] [(0, (2, (AX.t 11)))]) none 5 false false) (AT.op (AOp.mk (some 12) (AK.bslice false 59 2 1 [(PV.val (Value.int IntKind.i64 0)), (PV.val (Value.int IntKind.i64 0))] [(0, (2, (AX.t 11)))]) none 5 false false) (AT.op (AOp.mk (some 13) (AK.app false 59 2 16 [(PV.val (Value.int IntKind.i64 0)), (PV.val (Value.int IntKind.i64 0))] (AX.t 10) (AX.t 12)) none 6 false true) (AT.op (AOp.mk (some 14) (AK.fadr 1 (AX.t 5)) none 7 true false) (AT.op (AOp.mk none (AK.st 1 (AX.t 14) (AX.t 13)) none 8 false true) AT.fin)))) (AT.op (AOp.mk (some 10) (AK.app false 59 2 16 [(PV.val (Value.int IntKind.i64 0)), (PV.val (Value.int IntKind.i64 0))] (AX.t 7) (AX.t 9)) none 3 false false) (AT.op (AOp.mk (some 13) (AK.app false 59 2 16 [(PV.val (Value.int IntKind.i64 0)), (PV.val (Value.int IntKind.i64 0))] (AX.t 10) (AX.t 12)) none 6 false true) (AT.op (AOp.mk (some 14) (AK.fadr 1 (AX.t 5)) none 7 true false) (AT.op (AOp.mk none (AK.st 1 (AX.t 14) (AX.t 13)) none 8 false true) AT.fin))))) (AT.op (AOp.mk (some 7) (AK.bslice false 59 2 0 [(PV.val (Value.int IntKind.i64 0)), (PV.val (Value.int IntKind.i64 0))] []) none 0 false false) (AT.op (AOp.mk (some 10) (AK.app false 59 2 16 [(PV.val (Value.int IntKind.i64 0)), (PV.val (Value.int IntKind.i64 0))] (AX.t 7) (AX.t 9)) none 3 false false) (AT.op (AOp.mk (some 13) (AK.app false 59 2 16 [(PV.val (Value.int IntKind.i64 0)), (PV.val (Value.int IntKind.i64 0))] (AX.t 10) (AX.t 12)) none 6 false true) (AT.op (AOp.mk (some 14) (AK.fadr 1 (AX.t 5)) none 7 true false) (AT.op (AOp.mk none (AK.st 1 (AX.t 14) (AX.t 13)) none 8 false true) AT.fin)))))))))) (AC.seq (AC.ops [(AOp.mk (some 15) (AK.ld (some 4) (AX.t 5)) none 0 false true), (AOp.mk none (AK.st 4 (AX.t 4) (AX.t 15)) none 1 false true)]) AC.ret))))
theorem ac46_ok : cCode Try.prog (fun _ => false) Try.f46.ntmps (Try.f46.body.getD .skip) = some ac46 := by kernel_rfl
theorem lwith_sem (k k2 : SK) (b : MBook) (m : Int × Int) (hl : b.seen.length ≤ 1000) : Sem1 46 [.agg (bookC k k2 b), .agg [pi m.1, pi m.2]] (.agg (bookC k .sh (moreB b m))) := by
  have hx : PV.agg (bookC k .sh (moreB b m)) = .agg [.sl k 1 (rowsC b.makers), .sl .sh 2 (seenC b.seen ++ [[pi m.1, pi m.2]]), pi b.repairs, pi b.fixed] := by simp [moreB]
  have hsl : (seenC b.seen).length ≤ 1000 := by simpa using hl
  rw [hx]
  refine semC_of_exec' mixed Try.func46 (by kernel_rfl) (by kernel_rfl) ac46_ok 2 rfl (by decide) [(.cell 4 25)] (by kernel_rfl) ?_
  intro hr C hC hI
  unfold ac46
  simp only [go_sem, Nat.reduceBEq, Nat.reduceAdd, Nat.reduceLeDiff, putCells, gs_stA, stG_loc, stGB_cells, gs_bsl, bslG_some, bslG2_some, gs_app, appG_sl, List.map_cons, List.map_nil, true_or, true_and]
  all_goals skip
  have key : ∀ (t1 : Nat), PVle (.agg [.sl k 1 (rowsC b.makers), .sl (.own t1 59 2) 2 (seenC b.seen ++ [[pi m.1, pi m.2]]), pi b.repairs, pi b.fixed]) (.agg [.sl k 1 (rowsC b.makers), .sl .sh 2 (seenC b.seen ++ [[pi m.1, pi m.2]]), pi b.repairs, pi b.fixed]) := fun t1 =>
    PVle.agg (show PVleL [_, _, _, _] [_, _, _, _] from ⟨PVle.refl _, PVle.sh _ _ _, PVle.refl _, PVle.refl _, trivial⟩)
  refine ⟨⟨⟨by omega, fun t _ => ⟨by omega, fun t1 _ => ?_⟩⟩, by omega, fun t _ => ⟨by omega, fun t1 _ => ?_⟩⟩, by omega, fun t _ => ⟨by omega, fun t1 _ => ?_⟩⟩
  · exact retQ_cell_le (n := some 4) (by kernel_rfl) rfl (key _) rfl
  · exact retQ_cell_le (n := some 4) (by kernel_rfl) rfl (key _) rfl
  · exact retQ_cell_le (n := some 4) (by kernel_rfl) rfl (key _) rfl
end Go.Proofs.Ythaplmohhbdfeaa.Mk
namespace Go.Proofs.Ythaplmohhbdfeaa.Mk
open Go.RowKit Ls
def ac50 : AC := (AC.seq (AC.ops [(AOp.mk (some 2) (AK.box 4 (AX.t 0)) none 0 false true), (AOp.mk (some 4) (AK.mv (AX.c (PV.val (Value.int IntKind.i64 0)))) none 1 false true)]) (AC.seq (AC.ops [(AOp.mk (some 14) (AK.ld (some 4) (AX.t 2)) none 0 false true), (AOp.mk (some 15) (AK.mv (AX.t 1)) none 1 false true), (AOp.mk (some 16) (AK.call 28 [(AX.t 14), (AX.t 15)]) none 2 false true), (AOp.mk (some 13) (AK.mv (AX.t 16)) none 3 false true), (AOp.mk (some 17) (AK.ext (AX.t 13) 0) none 4 false true), (AOp.mk (some 18) (AK.ext (AX.t 13) 1) none 5 false true), (AOp.mk (some 5) (AK.mv (AX.t 17)) none 6 false true), (AOp.mk (some 6) (AK.mv (AX.t 18)) none 7 false true)]) (AC.seq (AC.seq (AC.ops [(AOp.mk (some 19) (AK.mv (AX.t 6)) none 0 false true), (AOp.mk (some 20) (AK.bin false BinOp.neq (AX.t 19) (AX.c (PV.val (Value.int IntKind.i64 0)))) none 1 false true)]) (AC.cond (AX.t 20) (AC.seq (AC.ops [(AOp.mk (some 4) (AK.mv (AX.c (PV.val (Value.int IntKind.i64 (-1))))) none 0 false true)]) AC.ret) AC.skip)) (AC.seq (AC.ops [(AOp.mk (some 7) (AK.mv (AX.c (PV.val (Value.int IntKind.i64 0)))) none 0 false true)]) (AC.seq (AC.seq (AC.ops [(AOp.mk (some 8) (AK.mv (AX.c (PV.val (Value.int IntKind.i64 0)))) none 0 false true)]) (AC.block 0 (AC.loop (AC.seq (AC.seq (AC.ops [(AOp.mk (some 21) (AK.mv (AX.t 8)) none 0 false true), (AOp.mk (some 22) (AK.mv (AX.t 5)) none 1 false true), (AOp.mk (some 23) (AK.len (AX.t 22)) none 2 false true), (AOp.mk (some 24) (AK.bin false BinOp.lss (AX.t 21) (AX.t 23)) none 3 false true)]) (AC.cond (AX.t 24) AC.skip (AC.exit 0))) (AC.seq (AC.block 1 (AC.seq (AC.ops [(AOp.mk (some 27) (AK.ld (some 4) (AX.t 2)) none 0 false true), (AOp.mk (some 9) (AK.new (PV.agg [(PV.sl SK.full 0 []), (PV.sl SK.full 0 []), (PV.val (Value.int IntKind.i64 0)), (PV.val (Value.int IntKind.i64 0))])) none 1 false true), (AOp.mk none (AK.st 4 (AX.t 9) (AX.t 27)) none 2 false true)]) (AC.seq (AC.ops [(AOp.mk (some 28) (AK.fadr 1 (AX.t 9)) none 0 false true), (AOp.mk none (AK.st 1 (AX.t 28) (AX.c (PV.sl SK.full 0 []))) none 1 false true)]) (AC.seq (AC.seq (AC.ops [(AOp.mk (some 10) (AK.mv (AX.c (PV.val (Value.int IntKind.i64 0)))) none 0 false true)]) (AC.block 2 (AC.loop (AC.seq (AC.seq (AC.ops [(AOp.mk (some 29) (AK.mv (AX.t 10)) none 0 false true), (AOp.mk (some 30) (AK.fadr 1 (AX.t 2)) none 1 false true), (AOp.mk (some 31) (AK.ld none (AX.t 30)) none 2 false true), (AOp.mk (some 32) (AK.len (AX.t 31)) none 3 false true), (AOp.mk (some 33) (AK.bin false BinOp.lss (AX.t 29) (AX.t 32)) none 4 false true)]) (AC.cond (AX.t 33) AC.skip (AC.exit 2))) (AC.seq (AC.block 3 (AC.seq (AC.ops [(AOp.mk (some 36) (AK.fadr 1 (AX.t 2)) none 0 false true), (AOp.mk (some 37) (AK.ld none (AX.t 36)) none 1 false true), (AOp.mk (some 38) (AK.mv (AX.t 10)) none 2 false true), (AOp.mk (some 39) (AK.iadrS 2 (AX.t 37) (AX.t 38)) none 3 false true), (AOp.mk (some 40) (AK.fadr 0 (AX.t 39)) none 4 false true), (AOp.mk (some 41) (AK.ld none (AX.t 40)) none 5 false true), (AOp.mk (some 42) (AK.mv (AX.t 1)) none 6 false true), (AOp.mk (some 43) (AK.bin false BinOp.neq (AX.t 41) (AX.t 42)) none 7 false true)]) (AC.cond (AX.t 43) (AC.ops [(AOp.mk (some 44) (AK.fadr 1 (AX.t 9)) none 0 true false), (AOp.mk (some 45) (AK.ld none (AX.t 44)) none 1 true false), (AOp.mk (some 46) (AK.fadr 1 (AX.t 2)) none 2 true false), (AOp.mk (some 47) (AK.ld none (AX.t 46)) none 3 true false), (AOp.mk (some 48) (AK.mv (AX.t 10)) none 4 true false), (AOp.mk (some 49) (AK.iadrS 2 (AX.t 47) (AX.t 48)) none 5 true false), (AOp.mk (some 50) (AK.ld (some 2) (AX.t 49)) none 6 true false), (AOp.mk (some 51) (AK.bslice false 59 2 1 [(PV.val (Value.int IntKind.i64 0)), (PV.val (Value.int IntKind.i64 0))] [(0, (2, (AX.t 50)))]) none 7 false false), (AOp.mk (some 52) (AK.app false 59 2 16 [(PV.val (Value.int IntKind.i64 0)), (PV.val (Value.int IntKind.i64 0))] (AX.t 45) (AX.t 51)) none 8 false true), (AOp.mk (some 53) (AK.fadr 1 (AX.t 9)) none 9 true true), (AOp.mk none (AK.st 1 (AX.t 53) (AX.t 52)) none 10 false true)]) AC.skip))) (AC.ops [(AOp.mk (some 34) (AK.mv (AX.t 10)) none 0 false true), (AOp.mk (some 35) (AK.bin false BinOp.add (AX.t 34) (AX.c (PV.val (Value.int IntKind.i64 1)))) none 1 false true), (AOp.mk (some 10) (AK.mv (AX.t 35)) none 2 false true)])))))) (AC.seq (AC.seq (AC.ops [(AOp.mk (some 54) (AK.fadr 1 (AX.t 9)) none 0 false true), (AOp.mk (some 55) (AK.ld none (AX.t 54)) none 1 false true), (AOp.mk (some 56) (AK.len (AX.t 55)) none 2 false true), (AOp.mk (some 57) (AK.bin false BinOp.eql (AX.t 56) (AX.c (PV.val (Value.int IntKind.i64 8)))) none 3 false true)]) (AC.cond (AX.t 57) (AC.seq (AC.ops [(AOp.mk (some 4) (AK.mv (AX.c (PV.val (Value.int IntKind.i64 (-2))))) none 0 false true)]) AC.ret) AC.skip)) (AC.seq (AC.ops [(AOp.mk (some 59) (AK.ld (some 4) (AX.t 9)) none 0 true false), (AOp.mk (some 60) (AK.mv (AX.t 1)) none 1 true false), (AOp.mk (some 61) (AK.mv (AX.t 5)) none 2 true false), (AOp.mk (some 62) (AK.mv (AX.t 8)) none 3 true false), (AOp.mk (some 63) (AK.iadrS 1 (AX.t 61) (AX.t 62)) none 4 true false), (AOp.mk (some 64) (AK.ld none (AX.t 63)) none 5 true false), (AOp.mk (some 65) (AK.bin false BinOp.shl (AX.c (PV.val (Value.int IntKind.i64 1))) (AX.t 64)) none 6 true false), (AOp.mk (some 66) (AK.call 57 [(AX.t 60), (AX.t 65)]) none 7 false false), (AOp.mk (some 67) (AK.call 46 [(AX.t 59), (AX.t 66)]) none 8 false true), (AOp.mk (some 68) (AK.call 20 [(AX.t 67)]) none 9 false true), (AOp.mk (some 58) (AK.mv (AX.t 68)) none 10 true true), (AOp.mk (some 69) (AK.ext (AX.t 58) 0) none 11 true false), (AOp.mk (some 70) (AK.ext (AX.t 58) 1) none 12 true false), (AOp.mk (some 11) (AK.mv (AX.t 69)) none 13 true false), (AOp.mk (some 12) (AK.mv (AX.t 70)) none 14 true true)]) (AC.seq (AC.seq (AC.ops [(AOp.mk (some 71) (AK.mv (AX.t 12)) none 0 false true), (AOp.mk (some 72) (AK.bin false BinOp.neq (AX.t 71) (AX.c (PV.val (Value.int IntKind.i64 0)))) none 1 false true)]) (AC.cond (AX.t 72) (AC.seq (AC.ops [(AOp.mk (some 4) (AK.mv (AX.c (PV.val (Value.int IntKind.i64 (-1))))) none 0 false true)]) AC.ret) AC.skip)) (AC.ops [(AOp.mk (some 73) (AK.mv (AX.t 7)) none 0 false true), (AOp.mk (some 74) (AK.mv (AX.t 11)) none 1 false true), (AOp.mk (some 75) (AK.len (AX.t 74)) none 2 false true), (AOp.mk (some 76) (AK.mx true [(AX.t 73), (AX.t 75)]) none 3 false true), (AOp.mk (some 7) (AK.mv (AX.t 76)) none 4 false true)])))))))) (AC.ops [(AOp.mk (some 25) (AK.mv (AX.t 8)) none 0 false true), (AOp.mk (some 26) (AK.bin false BinOp.add (AX.t 25) (AX.c (PV.val (Value.int IntKind.i64 1)))) none 1 false true), (AOp.mk (some 8) (AK.mv (AX.t 26)) none 2 false true)])))))) (AC.seq (AC.ops [(AOp.mk (some 77) (AK.mv (AX.t 7)) none 0 false true), (AOp.mk (some 4) (AK.mv (AX.t 77)) none 1 false true)]) AC.ret))))))
theorem ac50_ok : cCode Try.prog (fun _ => false) Try.f50.ntmps (Try.f50.body.getD .skip) = some ac50 := by kernel_rfl
theorem len_slZ {e : TypeId} {sz : Nat} {o : Option Nat} {rows : List (List PV)} (h0 : o = none → rows = []) : lenS (.p (slZ e sz o rows)) = some (.p (pi rows.length)) := by
  cases o with
  | none =>
    have := h0 rfl
    subst this
    rfl
  | some t => rfl
set_option maxRecDepth 100000 in
set_option maxHeartbeats 2000000 in
theorem worst_sem (k k2 : SK) {b : MBook} (ho : okBook b) (hr0 : rightB b = true) {q : Nat} (hq : q < nK b) : Sem1 50 [.agg (bookC k k2 b), pi q] (pi (if fullB b q then -2 else (worstN b q : Nat))) := by
  have h8 := ho.2
  have hVal := Values_ok k k2 ho hr0 hq
  have hvl : (valuesL b q).length ≤ 5 := Nat.le_trans (List.length_filter_le ..) (by simp)
  have hwl : ∀ j, j ≤ (valuesL b q).length → worstF b q j ≤ 5 := worstF_le ho.1
  obtain ⟨V, hV⟩ : ∃ V, natL (valuesL b q) = V := ⟨_, rfl⟩
  have hVl : V.length = (valuesL b q).length := by rw [← hV, natL_len]
  rw [hV] at hVal
  refine semC_of_exec' mixed Try.func50 (by kernel_rfl) (by kernel_rfl) ac50_ok 2 rfl (by decide) [(.tmp 4)] (by kernel_rfl) ?_
  intro hr C hC hI
  unfold ac50
  simp only [go_sem, Nat.reduceBEq, Nat.reduceAdd]
  refine call_pure2 hC (hVal) rfl (PVleL_refl _) ?_
  rintro r rfl
  simp only [go_sem, Nat.reduceBEq, decide_false, not_true_eq_false, Int.reduceNeg]
  refine loop_k (valuesL b q).length (fun j => 0 < j → fullB b q = false) [1, 2, 5] (fun j => [(7, .p (pi (worstF b q j))), (8, .p (pi j))]) (fun h => absurd h (by omega)) (by simp [loAll, look, AV.lo]) ⟨by simp [loBlk, AV.lo, AV.lo.loL], by simp, by simp⟩ (by simp [worstF, wkT, look, AV.lo]) ?_
  rintro j ⟨hj, hfu⟩
  simp only [go_sem, Nat.reduceBEq, Nat.reduceAdd, Nat.reduceLeDiff, List.length_map, hVl, putCells]
  refine ⟨fun c5 => ?_, fun c5 => ?_⟩
  · have hj2 : j < (valuesL b q).length := by omega
    obtain ⟨v, ev⟩ : ∃ v, (valuesL b q)[j] = v := ⟨_, rfl⟩
    have hmv : v ∈ valuesL b q := ev ▸ List.getElem_mem hj2
    obtain ⟨hv5, -⟩ := values_seen hmv
    have hjV : j < V.length := by omega
    have hVj : V[j] = (v : Int) := by
      have : ∀ (M : List Int) (h : j < M.length), M = natL (valuesL b q) → M[j] = (v : Int) := by
        rintro M h rfl
        simp [natL, ev]
      exact this V hjV hV.symm
    have hwn := worstF_next (b := b) (q := q) hj2
    rw [ev] at hwn
    refine loop_g (α := Nat × Option Nat) (fun a => a.1 ≤ b.seen.length ∧ (a.2 = none → seenC (otherL (b.seen.take a.1) q) = [])) (fun a => b.seen.length - a.1) [1, 2, 5, 7, 8, 9] (fun a => [(10, .p (pi a.1))]) (fun a => [.cells ((bookC k k2 b).map .p), .cells [.p (.sl k 1 (rowsC b.makers)), .p (slZ 59 2 a.2 (seenC (otherL (b.seen.take a.1) q))), .p (pi b.repairs), .p (pi b.fixed)]]) (fun a => a.2.toList) (0, none) ⟨by omega, fun _ => by simp [otherL]⟩ (by simp [Wk, wkT, wkL, look, AV.lo, AV.lo.loL, upS_eq, keepS_nil, keepS_cons, slZ]) ?_
    rintro ⟨i, o⟩ ⟨hi, h0⟩
    replace hi : i ≤ b.seen.length := hi
    replace h0 : o = none → seenC (otherL (b.seen.take i) q) = [] := h0
    simp only [go_sem, Nat.reduceBEq, List.length_map]
    refine ⟨fun d5 => ?_, fun d5 => ?_⟩
    · have hi2 : i < b.seen.length := by omega
      have hon := other_next (q := q) hi2
      have hol := other_len (b.seen.take i) q
      rw [List.length_take] at hol
      have ej := iadr_map (f := fun m : Int × Int => [pi m.1, pi m.2]) (kd := k2) (sz := 2) hi2
      simp only [go_sem, Nat.reduceBEq, Nat.reduceAdd, ej]
      refine ⟨fun e5 => ?_, fun e5 => ?_⟩
      · rw [if_neg e5] at hon
        have hon2 : seenC (otherL (b.seen.take (i + 1)) q) = seenC (otherL (b.seen.take i) q) ++ [[pi b.seen[i].1, pi b.seen[i].2]] := by rw [hon]; simp
        refine app_slZ h0 (by rw [List.length_map]; omega) (by simp) fun tk htk => ?_
        simp only [go_sem, Nat.reduceBEq]
        refine ⟨.inl rfl, by simp, ?_⟩
        simp only [go_sem, Nat.reduceBEq, Nat.reduceAdd, putCells, wrap_succ (k := i) (by omega)]
        refine ⟨⟨(i + 1, some tk), hi2, (fun h => by cases h)⟩, by simp only; omega, ?_⟩
        simp only [hon2]
        refine ⟨by simp [wkT, look, AV.lo], by simp [wkL, AV.lo, AV.lo.loL, ABlk.toZ], by simp, by simp, rfl, rfl, by simp⟩
      · rw [if_pos e5, List.append_nil] at hon
        simp only [go_sem, wrap_succ (k := i) (by omega)]
        refine ⟨⟨(i + 1, o), hi2, fun h => by show seenC (otherL (b.seen.take (i + 1)) q) = []; rw [hon]; exact h0 h⟩, by simp only; omega, ?_⟩
        simp only [hon]
        cases o <;> simp [Wk, wkT, wkL, look, AV.lo, AV.lo.loL]
    · have hin : i = b.seen.length := by omega
      subst hin
      rw [List.take_length] at h0 ⊢
      have hol := other_len b.seen q
      simp only [go_sem, Nat.reduceBEq, Nat.reduceAdd, len_slZ h0, List.length_map]
      refine ⟨fun e5 => ?_, fun e5 => ?_⟩
      · refine retQ_one rfl ?_
        have hf : fullB b q = true := decide_eq_true ⟨fun h => by rw [h] at hj2; exact absurd hj2 (by simp), by omega⟩
        rw [hf]
        rfl
      · have hf : fullB b q = false := decide_eq_false fun h => e5 (by omega)
        have hsh := shl6 (m := v) (by omega)
        simp only [go_sem, Nat.reduceBEq, iadr_pis hjV, hVj, bin_shl (show ¬ (v : Int) < 0 by omega), hsh]
        refine call_pure2 hC (saw_sem q ((2 ^ v : Nat) : Int)) rfl (PVleL_refl _) ?_
        rintro r rfl
        simp only [go_sem, Nat.reduceBEq]
        refine call_pure2 hC (lwith_sem k .sh (otherB b q) ((q : Int), ((2 ^ v : Nat) : Int)) (by show (otherL b.seen q).length ≤ 1000; omega)) rfl ⟨PVle.agg (show PVleL [_, _, _, _] [_, _, _, _] from ⟨PVle.refl _, slZ_le h0, PVle.refl _, PVle.refl _, trivial⟩), PVle.refl _, trivial⟩ ?_
        rintro _ rfl
        simp only [go_sem, Nat.reduceBEq]
        have hWho := Who_ok k .sh (b := onlyB b q v) (more_ok (other_ok ho q) (show q < nK (otherB b q) from hq) hv5 (by show (otherL b.seen q).length < 8; omega)) (only_right hmv hr0)
        rw [only_who hmv] at hWho
        have hmx : maxI true (worstF b q j : Int) ((whoL (knowB b q v)).length : Int) = (worstF b q (j + 1) : Int) := by
          rw [hwn]
          unfold maxI
          simp only [if_true]
          omega
        refine call_pure2 hC (hWho) rfl (PVleL_refl _) ?_
        rintro r rfl
        simp only [go_sem, Nat.reduceBEq, List.length_map, natL_len, hmx, wrap_succ (k := j) (by omega), decide_false, not_true_eq_false, Int.reduceNeg]
        exact ⟨⟨j + 1, hj2, fun _ => hf⟩, by simp only; omega, by simp [Wk, wkT, wkL, look, AV.lo, AV.lo.loL, ABlk.toZ]⟩
  · have hjn : j = (valuesL b q).length := by omega
    subst hjn
    refine retQ_one rfl ?_
    rw [worstF_end]
    have hf : fullB b q = false := by
      by_cases h : 0 < (valuesL b q).length
      · exact hfu h
      · refine decide_eq_false fun h2 => h2.1 (List.eq_nil_of_length_eq_zero (by omega))
    rw [hf]
    rfl
end Go.Proofs.Ythaplmohhbdfeaa.Mk
namespace Go.Proofs.Ythaplmohhbdfeaa.Mk
open Go.RowKit Ls
def ac11 : AC := (AC.seq (AC.ops [(AOp.mk (some 2) (AK.box 4 (AX.t 0)) none 0 false true), (AOp.mk (some 4) (AK.mv (AX.c (PV.val (Value.bool false)))) none 1 false true)]) (AC.seq (AC.seq (AC.ops [(AOp.mk (some 12) (AK.ld (some 4) (AX.t 2)) none 0 false true), (AOp.mk (some 13) (AK.call 36 [(AX.t 12)]) none 1 false true), (AOp.mk (some 14) (AK.un UnOp.not (AX.t 13)) none 2 false true)]) (AC.cond (AX.t 14) (AC.seq (AC.ops [(AOp.mk (some 15) (AK.call 27 []) none 0 false true), (AOp.mk (some 4) (AK.mv (AX.t 15)) none 1 false true)]) AC.ret) AC.skip)) (AC.seq (AC.ops [(AOp.mk (some 17) (AK.ld (some 4) (AX.t 2)) none 0 false true), (AOp.mk (some 18) (AK.call 32 [(AX.t 17)]) none 1 false true), (AOp.mk (some 16) (AK.mv (AX.t 18)) none 2 false true), (AOp.mk (some 19) (AK.ext (AX.t 16) 0) none 3 false true), (AOp.mk (some 20) (AK.ext (AX.t 16) 1) none 4 false true), (AOp.mk (some 5) (AK.mv (AX.t 19)) none 5 false true), (AOp.mk (some 6) (AK.mv (AX.t 20)) none 6 false true)]) (AC.seq (AC.ops [(AOp.mk (some 22) (AK.ld (some 4) (AX.t 2)) none 0 false true), (AOp.mk (some 23) (AK.call 20 [(AX.t 22)]) none 1 false true), (AOp.mk (some 21) (AK.mv (AX.t 23)) none 2 false true), (AOp.mk (some 24) (AK.ext (AX.t 21) 0) none 3 false true), (AOp.mk (some 25) (AK.ext (AX.t 21) 1) none 4 false true), (AOp.mk (some 7) (AK.mv (AX.t 24)) none 5 false true), (AOp.mk (some 8) (AK.mv (AX.t 25)) none 6 false true)]) (AC.seq (AC.seq (AC.ops [(AOp.mk (some 26) (AK.mv (AX.t 8)) none 0 false true), (AOp.mk (some 27) (AK.bin false BinOp.neq (AX.t 26) (AX.c (PV.val (Value.int IntKind.i64 0)))) none 1 false true)]) (AC.cond (AX.t 27) (AC.seq (AC.ops [(AOp.mk (some 28) (AK.mv (AX.t 8)) none 0 false true), (AOp.mk (some 29) (AK.bin false BinOp.eql (AX.t 28) (AX.c (PV.val (Value.int IntKind.i64 52)))) none 1 false true), (AOp.mk (some 30) (AK.mv (AX.t 29)) none 2 false true), (AOp.mk (some 31) (AK.mv (AX.t 6)) (some (30, true)) 3 false true), (AOp.mk (some 32) (AK.mv (AX.t 8)) (some (30, true)) 4 false true), (AOp.mk (some 33) (AK.bin false BinOp.eql (AX.t 31) (AX.t 32)) (some (30, true)) 5 false true), (AOp.mk (some 34) (AK.pick (AX.t 30) (AX.t 33) (AX.c (PV.val (Value.bool false)))) none 6 false true), (AOp.mk (some 35) (AK.mv (AX.t 34)) none 7 false true), (AOp.mk (some 36) (AK.mv (AX.t 5)) (some (35, true)) 8 false true), (AOp.mk (some 37) (AK.bin false BinOp.eql (AX.t 36) (AX.c (PV.val (Value.int IntKind.i64 0)))) (some (35, true)) 9 false true), (AOp.mk (some 38) (AK.pick (AX.t 35) (AX.t 37) (AX.c (PV.val (Value.bool false)))) none 10 false true), (AOp.mk (some 39) (AK.mv (AX.t 38)) none 11 false true), (AOp.mk (some 40) (AK.call 27 []) (some (39, true)) 12 false true), (AOp.mk (some 41) (AK.pick (AX.t 39) (AX.t 40) (AX.c (PV.val (Value.bool false)))) none 13 false true), (AOp.mk (some 4) (AK.mv (AX.t 41)) none 14 false true)]) AC.ret) AC.skip)) (AC.seq (AC.seq (AC.ops [(AOp.mk (some 42) (AK.mv (AX.t 6)) none 0 false true), (AOp.mk (some 43) (AK.bin false BinOp.eql (AX.t 42) (AX.c (PV.val (Value.int IntKind.i64 4)))) none 1 false true), (AOp.mk (some 44) (AK.mv (AX.t 7)) none 2 false true), (AOp.mk (some 45) (AK.len (AX.t 44)) none 3 false true), (AOp.mk (some 46) (AK.bin false BinOp.lss (AX.t 45) (AX.c (PV.val (Value.int IntKind.i64 2)))) none 4 false true), (AOp.mk (some 47) (AK.bin true BinOp.neq (AX.t 43) (AX.t 46)) none 5 false true), (AOp.mk (some 48) (AK.mv (AX.t 47)) none 6 false true), (AOp.mk (some 49) (AK.mv (AX.t 6)) (some (48, false)) 7 false true), (AOp.mk (some 50) (AK.bin false BinOp.neq (AX.t 49) (AX.c (PV.val (Value.int IntKind.i64 0)))) (some (48, false)) 8 false true), (AOp.mk (some 51) (AK.mv (AX.t 50)) (some (48, false)) 9 false true), (AOp.mk (some 52) (AK.mv (AX.t 6)) (some (51, true)) 10 false true), (AOp.mk (some 53) (AK.bin false BinOp.neq (AX.t 52) (AX.c (PV.val (Value.int IntKind.i64 4)))) (some (51, true)) 11 false true), (AOp.mk (some 54) (AK.mv (AX.t 53)) (some (51, true)) 12 false true), (AOp.mk (some 55) (AK.mv (AX.t 5)) (some (54, false)) 13 false true), (AOp.mk (some 56) (AK.bin false BinOp.neq (AX.t 55) (AX.c (PV.val (Value.int IntKind.i64 0)))) (some (54, false)) 14 false true), (AOp.mk (some 57) (AK.pick (AX.t 54) (AX.c (PV.val (Value.bool true))) (AX.t 56)) (some (51, true)) 15 false true), (AOp.mk (some 58) (AK.pick (AX.t 51) (AX.t 57) (AX.c (PV.val (Value.bool false)))) (some (48, false)) 16 false true), (AOp.mk (some 59) (AK.pick (AX.t 48) (AX.c (PV.val (Value.bool true))) (AX.t 58)) none 17 false true), (AOp.mk (some 60) (AK.mv (AX.t 59)) none 18 false true), (AOp.mk (some 61) (AK.mv (AX.t 5)) (some (60, false)) 19 false true), (AOp.mk (some 62) (AK.fadr 0 (AX.t 2)) (some (60, false)) 20 false true), (AOp.mk (some 63) (AK.ld none (AX.t 62)) (some (60, false)) 21 false true), (AOp.mk (some 64) (AK.iadrS 1 (AX.t 63) (AX.c (PV.val (Value.int IntKind.i64 0)))) (some (60, false)) 22 false true), (AOp.mk (some 65) (AK.ld none (AX.t 64)) (some (60, false)) 23 false true), (AOp.mk (some 66) (AK.len (AX.t 65)) (some (60, false)) 24 false true), (AOp.mk (some 67) (AK.bin false BinOp.sub (AX.t 66) (AX.c (PV.val (Value.int IntKind.i64 1)))) (some (60, false)) 25 false true), (AOp.mk (some 68) (AK.call 43 [(AX.t 61), (AX.c (PV.val (Value.int IntKind.i64 0))), (AX.t 67)]) (some (60, false)) 26 false true), (AOp.mk (some 69) (AK.un UnOp.not (AX.t 68)) (some (60, false)) 27 false true), (AOp.mk (some 70) (AK.pick (AX.t 60) (AX.c (PV.val (Value.bool true))) (AX.t 69)) none 28 false true)]) (AC.cond (AX.t 70) (AC.seq (AC.ops [(AOp.mk (some 4) (AK.mv (AX.c (PV.val (Value.bool false)))) none 0 false true)]) AC.ret) AC.skip)) (AC.seq (AC.seq (AC.ops [(AOp.mk (some 71) (AK.mv (AX.t 6)) none 0 false true), (AOp.mk (some 72) (AK.bin false BinOp.neq (AX.t 71) (AX.c (PV.val (Value.int IntKind.i64 0)))) none 1 false true)]) (AC.cond (AX.t 72) (AC.seq (AC.ops [(AOp.mk (some 73) (AK.call 27 []) none 0 false true), (AOp.mk (some 4) (AK.mv (AX.t 73)) none 1 false true)]) AC.ret) AC.skip)) (AC.seq (AC.ops [(AOp.mk (some 74) (AK.mv (AX.t 1)) none 0 false true), (AOp.mk (some 75) (AK.fadr 0 (AX.t 2)) none 1 false true), (AOp.mk (some 76) (AK.ld none (AX.t 75)) none 2 false true), (AOp.mk (some 77) (AK.iadrS 1 (AX.t 76) (AX.c (PV.val (Value.int IntKind.i64 0)))) none 3 false true), (AOp.mk (some 78) (AK.ld none (AX.t 77)) none 4 false true), (AOp.mk (some 79) (AK.len (AX.t 78)) none 5 false true), (AOp.mk (some 80) (AK.call 37 [(AX.t 74), (AX.t 79)]) none 6 false true), (AOp.mk (some 9) (AK.mv (AX.t 80)) none 7 false true)]) (AC.seq (AC.ops [(AOp.mk (some 81) (AK.ld (some 4) (AX.t 2)) none 0 true false), (AOp.mk (some 82) (AK.mv (AX.t 5)) none 1 true false), (AOp.mk (some 84) (AK.ld (some 4) (AX.t 2)) none 3 true false), (AOp.mk (some 85) (AK.mv (AX.t 9)) none 4 true false), (AOp.mk (some 83) (AK.call 50 [(AX.t 81), (AX.t 82)]) none 2 false false), (AOp.mk (some 86) (AK.call 50 [(AX.t 84), (AX.t 85)]) none 5 false true), (AOp.mk (some 10) (AK.mv (AX.t 83)) none 6 true true), (AOp.mk (some 11) (AK.mv (AX.t 86)) none 7 true true)]) (AC.seq (AC.seq (AC.ops [(AOp.mk (some 87) (AK.mv (AX.t 10)) none 0 false true), (AOp.mk (some 88) (AK.bin false BinOp.eql (AX.t 87) (AX.c (PV.val (Value.int IntKind.i64 (-2))))) none 1 false true), (AOp.mk (some 89) (AK.mv (AX.t 88)) none 2 false true), (AOp.mk (some 90) (AK.mv (AX.t 11)) (some (89, false)) 3 false true), (AOp.mk (some 91) (AK.bin false BinOp.eql (AX.t 90) (AX.c (PV.val (Value.int IntKind.i64 (-2))))) (some (89, false)) 4 false true), (AOp.mk (some 92) (AK.pick (AX.t 89) (AX.c (PV.val (Value.bool true))) (AX.t 91)) none 5 false true)]) (AC.cond (AX.t 92) (AC.seq (AC.ops [(AOp.mk (some 93) (AK.call 27 []) none 0 false true), (AOp.mk (some 4) (AK.mv (AX.t 93)) none 1 false true)]) AC.ret) AC.skip)) (AC.seq (AC.ops [(AOp.mk (some 94) (AK.mv (AX.t 10)) none 0 false true), (AOp.mk (some 95) (AK.bin false BinOp.geq (AX.t 94) (AX.c (PV.val (Value.int IntKind.i64 0)))) none 1 false true), (AOp.mk (some 96) (AK.mv (AX.t 95)) none 2 false true), (AOp.mk (some 97) (AK.mv (AX.t 11)) (some (96, true)) 3 false true), (AOp.mk (some 98) (AK.bin false BinOp.geq (AX.t 97) (AX.c (PV.val (Value.int IntKind.i64 0)))) (some (96, true)) 4 false true), (AOp.mk (some 99) (AK.pick (AX.t 96) (AX.t 98) (AX.c (PV.val (Value.bool false)))) none 5 false true), (AOp.mk (some 100) (AK.mv (AX.t 99)) none 6 false true), (AOp.mk (some 101) (AK.mv (AX.t 10)) (some (100, true)) 7 false true), (AOp.mk (some 102) (AK.mv (AX.t 11)) (some (100, true)) 8 false true), (AOp.mk (some 103) (AK.bin false BinOp.lss (AX.t 101) (AX.t 102)) (some (100, true)) 9 false true), (AOp.mk (some 104) (AK.mv (AX.t 103)) (some (100, true)) 10 false true), (AOp.mk (some 105) (AK.mv (AX.t 10)) (some (104, false)) 11 false true), (AOp.mk (some 106) (AK.mv (AX.t 11)) (some (104, false)) 12 false true), (AOp.mk (some 107) (AK.bin false BinOp.eql (AX.t 105) (AX.t 106)) (some (104, false)) 13 false true), (AOp.mk (some 108) (AK.mv (AX.t 107)) (some (104, false)) 14 false true), (AOp.mk (some 109) (AK.mv (AX.t 5)) (some (108, true)) 15 false true), (AOp.mk (some 110) (AK.mv (AX.t 9)) (some (108, true)) 16 false true), (AOp.mk (some 111) (AK.bin false BinOp.leq (AX.t 109) (AX.t 110)) (some (108, true)) 17 false true), (AOp.mk (some 112) (AK.pick (AX.t 108) (AX.t 111) (AX.c (PV.val (Value.bool false)))) (some (104, false)) 18 false true), (AOp.mk (some 113) (AK.pick (AX.t 104) (AX.c (PV.val (Value.bool true))) (AX.t 112)) (some (100, true)) 19 false true), (AOp.mk (some 114) (AK.pick (AX.t 100) (AX.t 113) (AX.c (PV.val (Value.bool false)))) none 20 false true), (AOp.mk (some 115) (AK.mv (AX.t 114)) none 21 false true), (AOp.mk (some 116) (AK.call 27 []) (some (115, true)) 22 false true), (AOp.mk (some 117) (AK.pick (AX.t 115) (AX.t 116) (AX.c (PV.val (Value.bool false)))) none 23 false true), (AOp.mk (some 4) (AK.mv (AX.t 117)) none 24 false true)]) AC.ret)))))))))))
theorem ac11_ok : cCode Try.prog (fun _ => false) Try.f11.ntmps (Try.f11.body.getD .skip) = some ac11 := by kernel_rfl
set_option maxRecDepth 100000 in
set_option maxHeartbeats 2000000 in
theorem Look_law (k k2 : SK) (b : MBook) (n : Int) : Sem1 11 [.agg (bookC k k2 b), pi n] (pb true) := by
  by_cases ho : okBook b
  rotate_left
  · refine semC_of_exec' mixed Try.func11 (by kernel_rfl) (by kernel_rfl) ac11_ok 2 rfl (by decide) [(.tmp 4)] (by kernel_rfl) ?_
    intro hr C hC hI
    unfold ac11
    simp only [go_sem, Nat.reduceBEq, Nat.reduceAdd]
    refine call_pure2 hC (sound_sem k k2 b) rfl (PVleL_refl _) ?_
    rintro r rfl
    simp only [go_sem, Nat.reduceBEq, eq_false ho, decide_false, Int.reduceNeg]
    refine call_pure2 hC (marked_sem) rfl (PVleL_refl _) ?_
    rintro r rfl
    simp only [go_sem, Nat.reduceBEq]
    exact retQ_one rfl rfl
  have hoc := ho.1
  have h1 := hoc.1
  have h2 := hoc.2.1
  have hLk := Look_sem k k2 b
  obtain ⟨hz, hfl⟩ := hoc.first
  have e0 : iadrS' 1 (.p (.sl k 1 (rowsC b.makers))) (.p (pi 0)) = some (.p (.ptr [pis b.makers[0]] 0)) := iadr_map (f := fun h => [pis h]) (kd := k) (sz := 1) hz
  cases hr0 : rightB b
  · rw [noR ho hr0, if_neg (by decide)] at hLk
    refine semC_of_exec' mixed Try.func11 (by kernel_rfl) (by kernel_rfl) ac11_ok 2 rfl (by decide) [(.tmp 4)] (by kernel_rfl) ?_
    intro hr C hC hI
    unfold ac11
    simp only [go_sem, Nat.reduceBEq, Nat.reduceAdd]
    refine call_pure2 hC (sound_sem k k2 b) rfl (PVleL_refl _) ?_
    rintro r rfl
    simp only [go_sem, Nat.reduceBEq, Nat.reduceAdd, eq_true ho, decide_true, Int.reduceNeg]
    refine call_pure2 hC (hLk) rfl (PVleL_refl _) ?_
    rintro r rfl
    simp only [go_sem, Nat.reduceBEq, Nat.reduceAdd]
    refine call_pure2 hC (Who_no k k2 ho hr0) rfl (PVleL_refl _) ?_
    rintro r rfl
    simp only [go_sem, Nat.reduceBEq, decide_true, not_false_eq_true, Int.reduceEq, Int.reduceNeg]
    refine call_pure2 hC (marked_sem) rfl (PVleL_refl _) ?_
    rintro r rfl
    simp only [go_sem, Nat.reduceBEq]
    exact retQ_one rfl rfl
  rw [okR ho hr0, if_pos rfl] at hLk
  have hW := Who_ok k k2 ho hr0
  by_cases hlt : (whoL b).length < 2
  · rw [if_pos hlt] at hLk
    refine semC_of_exec' mixed Try.func11 (by kernel_rfl) (by kernel_rfl) ac11_ok 2 rfl (by decide) [(.tmp 4)] (by kernel_rfl) ?_
    intro hr C hC hI
    unfold ac11
    simp only [go_sem, Nat.reduceBEq, Nat.reduceAdd]
    refine call_pure2 hC (sound_sem k k2 b) rfl (PVleL_refl _) ?_
    rintro r rfl
    simp only [go_sem, Nat.reduceBEq, Nat.reduceAdd, eq_true ho, decide_true, Int.reduceNeg]
    refine call_pure2 hC (hLk) rfl (PVleL_refl _) ?_
    rintro r rfl
    simp only [go_sem, Nat.reduceBEq, Nat.reduceAdd]
    refine call_pure2 hC (hW) rfl (PVleL_refl _) ?_
    rintro r rfl
    simp only [go_sem, Nat.reduceBEq, List.length_map, natL_len, eq_true (show ((whoL b).length : Int) < 2 by omega), e0, hfl, wrap_id (n := (nK b : Int) - 1) (by omega) (by omega), decide_true, decide_false, not_true_eq_false, not_false_eq_true, Int.reduceEq, Int.reduceNeg]
    refine call_pure2 hC (In_sem ..) rfl (PVleL_refl _) ?_
    rintro r rfl
    simp only [go_sem, Nat.reduceBEq, eq_true (show (0 : Int) ≤ (nK b : Int) - 1 by omega), decide_true, not_false_eq_true, Int.reduceEq, Int.reduceLE, Int.reduceNeg]
    refine call_pure2 hC (marked_sem) rfl (PVleL_refl _) ?_
    rintro r rfl
    simp only [go_sem, Nat.reduceBEq]
    exact retQ_one rfl rfl
  rw [if_neg hlt] at hLk
  obtain ⟨q, eq, hq⟩ := rnd_kind hoc n
  obtain ⟨g1, g2⟩ := look_facts hoc
  have g3 := g2 q hq
  obtain ⟨L, hL⟩ : ∃ L, lookN b = L := ⟨_, rfl⟩
  rw [hL] at g1 g3 hLk
  obtain ⟨x, y, hS1, hS2, hcase⟩ : ∃ x y : Int, Sem1 50 [.agg (bookC k k2 b), pi L] (pi x) ∧ Sem1 50 [.agg (bookC k k2 b), pi q] (pi y) ∧ (x = -2 ∨ (x ≠ -2 ∧ y = -2) ∨ (x ≠ -2 ∧ y ≠ -2 ∧ 0 ≤ x ∧ 0 ≤ y ∧ (x < y ∨ (¬ x < y ∧ x = y ∧ L ≤ q)))) := by
    refine ⟨_, _, worst_sem k k2 ho hr0 g1, worst_sem k k2 ho hr0 hq, ?_⟩
    cases fullB b L
    · cases fullB b q
      · rw [if_neg (by decide), if_neg (by decide)]
        rcases g3 with h | ⟨h, h'⟩
        · exact .inr (.inr ⟨by omega, by omega, by omega, by omega, .inl (by omega)⟩)
        · exact .inr (.inr ⟨by omega, by omega, by omega, by omega, .inr ⟨by omega, by omega, h'⟩⟩)
      · rw [if_neg (by decide), if_pos rfl]
        exact .inr (.inl ⟨by omega, rfl⟩)
    · exact .inl (if_pos rfl)
  refine semC_of_exec' mixed Try.func11 (by kernel_rfl) (by kernel_rfl) ac11_ok 2 rfl (by decide) [(.tmp 4)] (by kernel_rfl) ?_
  intro hr C hC hI
  unfold ac11
  simp only [go_sem, Nat.reduceBEq, Nat.reduceAdd]
  refine call_pure2 hC (sound_sem k k2 b) rfl (PVleL_refl _) ?_
  rintro r rfl
  simp only [go_sem, Nat.reduceBEq, Nat.reduceAdd, eq_true ho, decide_true, Int.reduceNeg]
  refine call_pure2 hC (hLk) rfl (PVleL_refl _) ?_
  rintro r rfl
  simp only [go_sem, Nat.reduceBEq, Nat.reduceAdd]
  refine call_pure2 hC (hW) rfl (PVleL_refl _) ?_
  rintro r rfl
  simp only [go_sem, Nat.reduceBEq, List.length_map, natL_len, decide_eq_false (show ¬ ((whoL b).length : Int) < 2 by omega), eq_false (show ¬ ((whoL b).length : Int) < 2 by omega), e0, hfl, wrap_id (n := (nK b : Int) - 1) (by omega) (by omega), decide_false, not_true_eq_false, Int.reduceEq, Int.reduceNeg]
  refine call_pure2 hC (In_sem ..) rfl (PVleL_refl _) ?_
  rintro r rfl
  simp only [go_sem, Nat.reduceBEq, decide_eq_true (show (0 : Int) ≤ (L : Int) ∧ (L : Int) ≤ (nK b : Int) - 1 by omega), e0, hfl, List.length_map, decide_false, not_true_eq_false, Int.reduceNeg]
  refine call_pure2 hC (Round_sem n (nK b)) rfl (PVleL_refl _) ?_
  rintro r rfl
  simp only [go_sem, Nat.reduceBEq, Nat.reduceAdd, eq]
  refine call_pure2 hC (hS1) rfl (PVleL_refl _) ?_
  rintro r rfl
  simp only [go_sem, Nat.reduceBEq]
  rcases hcase with hx | ⟨hx, hy⟩ | ⟨hx, hy, px, py, hcase⟩
  · refine call_pure2 hC (hS2) rfl (PVleL_refl _) ?_
    rintro r rfl
    simp only [go_sem, Nat.reduceBEq, eq_true hx, decide_true, Int.reduceNeg]
    refine call_pure2 hC (marked_sem) rfl (PVleL_refl _) ?_
    rintro r rfl
    simp only [go_sem, Nat.reduceBEq]
    exact retQ_one rfl rfl
  · refine call_pure2 hC (hS2) rfl (PVleL_refl _) ?_
    rintro r rfl
    simp only [go_sem, Nat.reduceBEq, eq_false hx, eq_true hy, decide_true, decide_false, Int.reduceNeg]
    refine call_pure2 hC (marked_sem) rfl (PVleL_refl _) ?_
    rintro r rfl
    simp only [go_sem, Nat.reduceBEq]
    exact retQ_one rfl rfl
  · rcases hcase with hlt2 | ⟨hl2, he, hle⟩
    · refine call_pure2 hC (hS2) rfl (PVleL_refl _) ?_
      rintro r rfl
      simp only [go_sem, Nat.reduceBEq, eq_false hx, eq_false hy, eq_true px, eq_true py, eq_true hlt2, decide_true, decide_false, Int.reduceNeg]
      refine call_pure2 hC (marked_sem) rfl (PVleL_refl _) ?_
      rintro r rfl
      simp only [go_sem, Nat.reduceBEq]
      exact retQ_one rfl rfl
    · have hle2 : (L : Int) ≤ (q : Int) := by omega
      refine call_pure2 hC (hS2) rfl (PVleL_refl _) ?_
      rintro r rfl
      simp only [go_sem, Nat.reduceBEq, eq_false hx, eq_false hy, eq_true px, eq_true py, eq_false hl2, eq_true he, eq_true hle2, decide_true, decide_false, Int.reduceNeg]
      refine call_pure2 hC (marked_sem) rfl (PVleL_refl _) ?_
      rintro r rfl
      simp only [go_sem, Nat.reduceBEq]
      exact retQ_one rfl rfl
set_option maxRecDepth 100000 in
theorem Look_row {l0 l1 : List PV} (T0 : Ty Try.prog 10 25 l0) (T1 : Ty Try.prog 10 3 l1) : SemC Try.prog 11 [argPV Try.prog 25 l0, argPV Try.prog 3 l1] (fun r => r = pb true) := by
  obtain ⟨b, rfl⟩ := ty_book T0
  obtain ⟨n, rfl⟩ := tyInt uInt T1
  rw [argStruct Try.underlying25, argInt uInt]
  exact Look_law .sh .sh b n
end Go.Proofs.Ythaplmohhbdfeaa.Mk
namespace Go.Proofs.Ythaplmohhbdfeaa
open Go.Proofs.Ythaplmohhbdfeaa Go.ChangeShapes Go.WideShapes Go.ChangeAt Go.RowKit Go.Deep

set_option maxRecDepth 100000 in
theorem makerLook_lifted (os : Os) (started : os.Started) (H : Type) (enc : TypeId × Value → H) :
    ReturnsInHanded {} Try.checked os 11 .any (Rows.makerLookSpec.pre6 enc Try.prog Try.f11 Rows.makerLookRow.domain false) (Rows.makerLookSpec.post enc Try.prog Try.f11 false true false false) := by
  refine returnsInHanded_of_change_sized (C := Try.checked) ownKnobs started (by kernel_rfl) Try.func11
    (ChangeSpec.witness6 (enc := enc) (C := Try.checked) false ⟨#[], #[.agg #[.slice none 0 0, .slice none 0 0, .int .i64 0, .int .i64 0], .int .i64 0], []⟩ 8 (by kernel_rfl) (by kernel_rfl) (by kernel_rfl) (by kernel_rfl)) ?_
  intro W base args ds gs before hval0 hW hcnd hsz0 _
  have hval : ∀ (j : Nat) t v, Try.f11.params[j]? = some t → args[j]? = some v → Value.okWide Try.prog W .any base t v := hval0
  have hsz : (DataW.weightsEach Try.prog (Try.f11.params.toList ++ Rows.makerLookSpec.plain.varTypes Try.prog) (ds ++ gs)).all (· ≤ reachBytes) = true := hsz0
  have hW' := hW
  obtain ⟨p, q, hA0, hV, rfl, hfz, hnd⟩ := hW
  have hA : DataW.TrodAll enc Try.prog W 0 (fun _ => true) true Try.f11.params.toList args.toList ds p := hA0
  rw [Try.params11] at hA hval hsz
  obtain ⟨v0, vs0, d0, ds0, p0, q0, hargs, rfl, rfl, h0, r0⟩ := trodAll_cons hA
  obtain ⟨v1, vs1, d1, ds1, p1, q1, rfl, rfl, rfl, h1, r1⟩ := trodAll_cons r0
  obtain ⟨rfl, rfl, rfl⟩ := trodAll_nil r1
  obtain rfl : args = #[v0, v1] := by cases args; simp_all
  obtain ⟨rfl, rfl⟩ := trodVars_none hV
  have lt0 : ∀ x ∈ p0, x.block < W.heap.size := by obtain ⟨m, hm⟩ := h0; exact DataW.trod_lt m _ _ _ hm
  have lt1 : ∀ x ∈ p1, x.block < W.heap.size := by obtain ⟨m, hm⟩ := h1; exact DataW.trod_lt m _ _ _ hm
  have z0 : SizedP Try.prog 25 d0 := sizedP_each hsz (j := 0) rfl rfl
  obtain ⟨l0, T0, R0⟩ := rd_arg 10 (by kernel_rfl) (hval 0 25 v0 rfl rfl) h0 z0
  have z1 : SizedP Try.prog 3 d1 := sizedP_each hsz (j := 1) rfl rfl
  obtain ⟨l1, T1, R1⟩ := rd_arg 10 (by kernel_rfl) (hval 1 3 v1 rfl rfl) h1 z1
  clear hA0 hval0 hsz0
  refine (law_calls (Mk.Look_row T0 T1) (argsP_cons R0 (argsP_cons R1 argsP_nil))).mono fun e W' ⟨he, bel⟩ => ?_
  subst he
  exact ⟨_, rfl, _, _, _, [], _, [], hW', trodAll_mk1 (shut_bool Try.underlying4 _), (trodAll_cons_mk (Below.trod laidOut (by kernel_rfl) (of_decide_eq_true (by kernel_rfl)) h0 bel lt0) (trodAll_cons_mk (Below.trod laidOut (by kernel_rfl) (of_decide_eq_true (by kernel_rfl)) h1 bel lt1) trodAll_mk0)), rfl, bel.frame _, fun h => by cases h⟩

theorem makerLook_holds : Rows.MakerLookSaid :=
  OpenClaim.holds_of_wide 11 Try.f11 rfl rfl rfl rfl rfl rfl rfl ⟨rfl, rfl, rfl, rfl, rfl⟩ rfl rfl rfl rfl rfl (by kernel_rfl) Try.func11 (by kernel_rfl)
    (of_decide_eq_true (by kernel_rfl)) (by unfold Func.isWrapper; first | (rw [if_pos (by decide +kernel)]; kernel_rfl) | (rw [if_neg (by decide +kernel)]; exact ⟨rfl, rfl⟩))
    (fun os started H enc _ => makerLook_lifted os started H enc)
end Go.Proofs.Ythaplmohhbdfeaa
