/- Mathematics of maker: two makers who can be told apart. Lists: increasing lists of numbers, the first of the shortest that do, sets as numbers. Mathematics of maker: what is valid; where to look; which marks must be wrong. -/
import Derived.Test.YtlbolnlcncjijaaGreatGa15
namespace Go.Proofs.YtlbolnlcncjijaaGreat.Mk
open Go.RowKit
def exV (l : List Int) (k : Nat) : Nat := (l.getD k 0).toNat
def fiveL (l : List Int) : Prop := ∀ x ∈ l, 0 ≤ x ∧ x ≤ 4
theorem ex_five {l : List Int} (h : fiveL l) (k : Nat) : exV l k < 5 := by
  unfold exV
  rw [List.getD_eq_getElem?_getD]
  rcases Nat.lt_or_ge k l.length with hk | hk
  · rw [List.getElem?_eq_getElem hk]
    have := h _ (List.getElem_mem hk)
    show (l[k]).toNat < 5
    omega
  · rw [List.getElem?_eq_none hk]
    decide
theorem exact_seen {b : MBook} {l : List Int} (h : fiveL l) {k i : Nat} (hk : k < l.length) : (seenN (exactB b l) k).testBit i = true ↔ i = exV l k := by
  rw [seen_bit]
  have e : ∀ v : Nat, ((2 : Int) ^ v).toNat = 2 ^ v := fun v => by
    have : ((2 : Int) ^ v) = ((2 ^ v : Nat) : Int) := by norm_cast
    rw [this, Int.toNat_natCast]
  constructor
  · rintro ⟨-, h2⟩
    have := h2 ((k : Int), 2 ^ exV l k) (List.mem_map.2 ⟨k, List.mem_range.2 hk, rfl⟩) rfl
    rw [e, Nat.testBit_two_pow, decide_eq_true_eq] at this
    exact this.symm
  · rintro rfl
    refine ⟨ex_five h k, fun m hm he => ?_⟩
    obtain ⟨q, hq, rfl⟩ := List.mem_map.1 hm
    have : q = k := by
      have h9 : (q : Int) = (k : Int) := he
      omega
    subst this
    show ((2 : Int) ^ exV l q).toNat.testBit _ = true
    rw [e, Nat.testBit_two_pow_self]
theorem exact_zero {b : MBook} {l : List Int} (h : fiveL l) {m k : Nat} (hk : k < l.length) : zeroB (exactB b l) m k = !(mkN b m k).testBit (exV l k) := by
  unfold zeroB ownN
  show decide (mkN b m k &&& seenN (exactB b l) k = 0) = _
  cases hb : (mkN b m k).testBit (exV l k)
  · refine decide_eq_true (and_zero.2 fun i hi => ?_)
    rw [exact_seen h hk] at hi
    rw [hi.2, hb] at hi
    exact absurd hi.1 (by decide)
  · exact decide_eq_false (and_ne.2 ⟨_, hb, (exact_seen h hk).2 rfl⟩)
theorem exact_right {b : MBook} {l : List Int} (h : fiveL l) (hl : l.length = nK b) : rightB (exactB b l) = true := by
  refine List.all_eq_true.2 fun k hk => ?_
  have hk2 : k < l.length := by rw [hl]; exact List.mem_range.1 hk
  rw [decide_eq_true_eq]
  exact ne_bit.2 ⟨_, (exact_seen h hk2).2 rfl⟩
theorem poss_exact {b : MBook} {l : List Int} (h : fiveL l) (hl : l.length = nK b) {m : Nat} : possB (exactB b l) m = true ↔ (∀ k, k < nK b → (mkN b m k).testBit (exV l k) = false → (fixN b).testBit k = false) ∧ (((List.range (nK b)).filter fun k => !(mkN b m k).testBit (exV l k)).length : Int) ≤ b.repairs := by
  rw [poss_eq]
  have hz : zeros (exactB b l) m = ((List.range (nK b)).filter fun k => !(mkN b m k).testBit (exV l k)).length := by
    unfold zeros
    exact filt_eq fun k hk => exact_zero h (by rw [hl]; exact hk)
  rw [hz]
  show _ ∧ _ ∧ _ ≤ b.repairs ↔ _
  have hf : freeB (exactB b l) m = true ↔ ∀ k, k < nK b → (mkN b m k).testBit (exV l k) = false → (fixN b).testBit k = false := by
    constructor
    · intro hf k hk hb
      exact free_fix (b := exactB b l) hf hk (by rw [exact_zero h (by rw [hl]; exact hk), hb]; rfl)
    · intro H
      refine List.all_eq_true.2 fun k hk => ?_
      have hk := List.mem_range.1 hk
      rw [exact_zero h (by rw [hl]; exact hk)]
      cases hb : (mkN b m k).testBit (exV l k)
      · have := H k hk hb
        show (!(true && (fixN b).testBit k)) = true
        rw [this]
        rfl
      · rfl
  rw [hf]
  constructor
  · rintro ⟨-, h2, h3⟩
    exact ⟨h2, h3⟩
  · rintro ⟨h2, h3⟩
    exact ⟨exact_right h hl, h2, h3⟩
def dK (b : MBook) (o u k : Nat) : Bool := decide (mkN b o k &&& mkN b u k = 0)
def manyD (b : MBook) (o u k : Nat) : Nat := ((List.range k).filter (dK b o u)).length
def bothP (b : MBook) (o u : Nat) : Prop := ∃ c1 ∈ truthsL (unseenB b) o, ∃ c2 ∈ truthsL (unseenB b) u, ∀ k, k < nK b → valN (unseenB b) o c1 k &&& valN (unseenB b) u c2 k ≠ 0
def shareP (b : MBook) (o u : Nat) : Prop := (∀ k, k < nK b → dK b o u k = true → (fixN b).testBit k = false) ∧ (manyD b o u (nK b) : Int) ≤ 2 * b.repairs
theorem filt_or {n : Nat} {p q r : Nat → Bool} (h : ∀ k, k < n → r k = true → p k = true ∨ q k = true) : ((List.range n).filter r).length ≤ ((List.range n).filter p).length + ((List.range n).filter q).length := by
  induction n with
  | zero => simp
  | succ n ih =>
    have ih := ih fun k hk => h k (by omega)
    have hn := h n (by omega)
    simp only [List.range_succ, List.filter_append, List.length_append, List.filter_cons, List.filter_nil]
    cases hr : r n
    · simp
      omega
    · rcases hn hr with hp | hp
      · rw [hp]
        simp
        omega
      · rw [hp]
        simp
        omega
theorem both_share {b : MBook} {o u : Nat} (h : bothP b o u) : shareP b o u := by
  obtain ⟨c1, h1, c2, h2, hv⟩ := h
  obtain ⟨-, t1⟩ := mem_truths.1 h1
  obtain ⟨-, t2⟩ := mem_truths.1 h2
  have key : ∀ k, k < nK b → dK b o u k = true → c1.testBit k = true ∨ c2.testBit k = true := fun k hk hd => by
    cases e1 : c1.testBit k
    · cases e2 : c2.testBit k
      · exfalso
        obtain ⟨i, ha, hb⟩ := and_ne.1 (hv k hk)
        unfold valN at ha hb
        rw [e1, if_neg (by decide)] at ha
        rw [e2, if_neg (by decide)] at hb
        exact and_zero.1 (of_decide_eq_true hd) i ⟨(own_sub ha).2, (own_sub hb).2⟩
      · exact .inr rfl
    · exact .inl rfl
  refine ⟨fun k hk hd => ?_, ?_⟩
  · rcases key k hk hd with h | h
    · exact t1.fix k h
    · exact t2.fix k h
  · have h3 : manyD b o u (nK b) ≤ cntN c1 (nK b) + cntN c2 (nK b) := filt_or key
    have h4 : (cntN c1 (nK b) : Int) ≤ b.repairs := t1.cnt
    have h5 : (cntN c2 (nK b) : Int) ≤ b.repairs := t2.cnt
    omega
theorem exact_both {b : MBook} {o u : Nat} {l : List Int} (h : fiveL l) (hl : l.length = nK b) (h1 : possB (exactB b l) o = true) (h2 : possB (exactB b l) u = true) : bothP b o u := by
  have hs : Sub (exactB b l) (unseenB b) := by
    refine ⟨rfl, fun k i hi => ?_, Int.le_refl _, rfl⟩
    rw [seen_bit] at hi ⊢
    exact ⟨hi.1, fun m hm => by cases hm⟩
  obtain ⟨c1, l1, t1⟩ := poss_iff.1 h1
  obtain ⟨c2, l2, t2⟩ := poss_iff.1 h2
  refine ⟨c1, hs.truths (mem_truths.2 ⟨l1, t1⟩), c2, hs.truths (mem_truths.2 ⟨l2, t2⟩), fun k hk => ?_⟩
  have hk2 : k < l.length := by rw [hl]; exact hk
  obtain ⟨i, hi⟩ := ne_bit.1 (t1.val k hk)
  obtain ⟨j, hj⟩ := ne_bit.1 (t2.val k hk)
  have ei := (exact_seen h hk2).1 (val_seen hi)
  have ej := (exact_seen h hk2).1 (val_seen hj)
  subst ei
  subst ej
  exact and_ne.2 ⟨_, hs.val hi, hs.val hj⟩
def pickN (b : MBook) (o u k : Nat) : Nat := if dK b o u k then (if b.repairs ≤ (manyD b o u k : Int) then mkN b u k else mkN b o k) else mkN b o k &&& mkN b u k
theorem many_next (b : MBook) (o u k : Nat) : manyD b o u (k + 1) = manyD b o u k + if dK b o u k then 1 else 0 := by
  unfold manyD
  rw [List.range_succ, List.filter_append, List.length_append]
  simp only [List.filter_cons, List.filter_nil]
  split <;> simp_all
theorem low_cnt (b : MBook) (o u : Nat) (r : Nat) : ∀ n, ((List.range n).filter fun k => dK b o u k && decide (manyD b o u k < r)).length = min r (manyD b o u n)
  | 0 => by simp [manyD]
  | n + 1 => by
    have ih := low_cnt b o u r n
    rw [List.range_succ, List.filter_append, List.length_append, ih, many_next]
    cases hd : dK b o u n
    · simp [hd]
    · by_cases hlt : manyD b o u n < r
      · simp [hd, hlt]
        omega
      · simp [hd, hlt]
        omega
theorem high_cnt (b : MBook) (o u : Nat) (r : Nat) : ∀ n, ((List.range n).filter fun k => dK b o u k && !decide (manyD b o u k < r)).length = manyD b o u n - r
  | 0 => by simp [manyD]
  | n + 1 => by
    have ih := high_cnt b o u r n
    rw [List.range_succ, List.filter_append, List.length_append, ih, many_next]
    cases hd : dK b o u n
    · simp [hd]
    · by_cases hlt : manyD b o u n < r
      · simp [hd, hlt]
        omega
      · simp [hd, hlt]
        omega
theorem share_exact {b : MBook} (hr : 0 ≤ b.repairs) {o u : Nat} (hs : shareP b o u) {l : List Int} (h : fiveL l) (hl : l.length = nK b) (hp : ∀ k, k < nK b → (pickN b o u k).testBit (exV l k) = true) : possB (exactB b l) o = true ∧ possB (exactB b l) u = true := by
  obtain ⟨r, er⟩ : ∃ r : Nat, b.repairs = r := ⟨b.repairs.toNat, by omega⟩
  obtain ⟨hf, hc⟩ := hs
  have k1 : ∀ k, k < nK b → (mkN b o k).testBit (exV l k) = false → (dK b o u k && !decide (manyD b o u k < r)) = true := fun k hk hb => by
    have := hp k hk
    unfold pickN at this
    split at this
    · rename_i hd
      rw [hd]
      split at this
      · rename_i hm
        simp
        omega
      · rw [hb] at this; cases this
    · rw [Nat.testBit_and, hb] at this
      cases this
  have k2 : ∀ k, k < nK b → (mkN b u k).testBit (exV l k) = false → (dK b o u k && decide (manyD b o u k < r)) = true := fun k hk hb => by
    have := hp k hk
    unfold pickN at this
    split at this
    · rename_i hd
      rw [hd]
      split at this
      · rw [hb] at this; cases this
      · rename_i hm
        simp
        omega
    · rw [Nat.testBit_and, hb, Bool.and_false] at this
      cases this
  refine ⟨(poss_exact h hl).2 ⟨fun k hk hb => hf k hk ?_, ?_⟩, (poss_exact h hl).2 ⟨fun k hk hb => hf k hk ?_, ?_⟩⟩
  · have := k1 k hk hb
    rw [Bool.and_eq_true] at this
    exact this.1
  · have h1 : ((List.range (nK b)).filter fun k => !(mkN b o k).testBit (exV l k)).length ≤ _ := filt_le (q := fun k => dK b o u k && !decide (manyD b o u k < r)) fun k hk hb => k1 k hk (by simpa using hb)
    rw [high_cnt] at h1
    omega
  · have := k2 k hk hb
    rw [Bool.and_eq_true] at this
    exact this.1
  · have h1 : ((List.range (nK b)).filter fun k => !(mkN b u k).testBit (exV l k)).length ≤ _ := filt_le (q := fun k => dK b o u k && decide (manyD b o u k < r)) fun k hk hb => k2 k hk (by simpa using hb)
    rw [low_cnt] at h1
    omega
end Go.Proofs.YtlbolnlcncjijaaGreat.Mk
namespace Go.Proofs.YtlbolnlcncjijaaGreat.Ls
open Go.RowKit
def listsF (e : Nat) : Nat → List Int → Nat → List (List Int)
  | 0, l, _ => [l]
  | r + 1, l, a => ((List.range (e - a)).map fun q => a + q).flatMap fun (n : Nat) => listsF e r (l ++ [(n : Int)]) (n + 1)
def listsL (e m : Nat) : List (List Int) := listsF e m [] 0
theorem mem_listsF {e : Nat} : ∀ (r : Nat) (l : List Int) (a : Nat) (l' : List Int), l' ∈ listsF e r l a ↔ ∃ t : List Int, l' = l ++ t ∧ t.length = r ∧ incL t ∧ ∀ x ∈ t, (a : Int) ≤ x ∧ x < e
  | 0, l, a, l' => by
    simp only [listsF, List.mem_singleton]
    constructor
    · rintro rfl; exact ⟨[], by simp, rfl, by simp [incL], by simp⟩
    · rintro ⟨t, rfl, ht, -, -⟩; rw [List.eq_nil_of_length_eq_zero ht]; simp
  | r + 1, l, a, l' => by
    simp only [listsF, List.mem_flatMap, List.mem_map, List.mem_range]
    constructor
    · rintro ⟨n, ⟨q, hq, rfl⟩, h⟩
      obtain ⟨t, rfl, h1, h2, h3⟩ := (mem_listsF r _ _ _).1 h
      refine ⟨((a + q : Nat) : Int) :: t, by simp, by simp [h1], ?_, ?_⟩
      · unfold incL
        rw [List.pairwise_cons]
        exact ⟨fun x hx => by have := h3 x hx; omega, h2⟩
      · intro x hx
        rcases List.mem_cons.1 hx with rfl | hx
        · omega
        · have := h3 x hx; omega
    · rintro ⟨t, rfl, h1, h2, h3⟩
      match t, h1 with
      | x :: t, h1 =>
        have hx := h3 x (List.mem_cons_self ..)
        unfold incL at h2
        rw [List.pairwise_cons] at h2
        refine ⟨x.toNat, ⟨x.toNat - a, by omega, by omega⟩, (mem_listsF r _ _ _).2 ⟨t, ?_, by simpa using h1, h2.2, fun y hy => ?_⟩⟩
        · rw [show ((x.toNat : Nat) : Int) = x by omega]; simp
        · have h4 := h2.1 y hy
          have h5 := h3 y (List.mem_cons_of_mem _ hy)
          omega
theorem mem_listsL {e m : Nat} {l : List Int} : l ∈ listsL e m ↔ l.length = m ∧ growsI l e := by
  unfold listsL growsI
  rw [mem_listsF]
  constructor
  · rintro ⟨t, rfl, h1, h2, h3⟩
    exact ⟨by simpa using h1, by simpa using h2, fun x hx => by have := h3 x (by simpa using hx); omega⟩
  · rintro ⟨h1, h2, h3⟩
    exact ⟨l, by simp, h1, h2, fun x hx => by have := h3 x hx; omega⟩
theorem find_at {α : Type} {zs : List α} {P : α → Bool} {i : Nat} (h : i < zs.length) (hn : ∀ x ∈ zs.take i, P x = false) (hp : P zs[i] = true) : zs.find? P = some zs[i] := by
  rw [List.find?_eq_some_iff_getElem]
  refine ⟨hp, i, h, rfl, fun j hj => ?_⟩
  rw [hn zs[j] (List.mem_iff_getElem.2 ⟨j, by rw [List.length_take]; omega, by simp⟩)]
  rfl
theorem find_no {α : Type} {zs : List α} {P : α → Bool} (hn : ∀ x ∈ zs.take zs.length, P x = false) : zs.find? P = none := by
  rw [List.take_length] at hn
  exact List.find?_eq_none.2 fun x hx => by rw [hn x hx]; simp
theorem lexB_pre : ∀ (l a b : List Int), lexB (l ++ a) (l ++ b) = lexB a b
  | [], a, b => rfl
  | x :: l, a, b => by simp [lexB, lexB_pre l a b]
theorem listsF_pw (e : Nat) : ∀ (r : Nat) (l : List Int) (a : Nat), (listsF e r l a).Pairwise fun x y => lexB x y = true
  | 0, l, a => List.pairwise_singleton _ _
  | r + 1, l, a => by
    unfold listsF
    rw [List.pairwise_flatMap]
    constructor
    · exact fun n _ => listsF_pw e r _ _
    · rw [List.pairwise_map]
      refine (List.pairwise_lt_range (n := e - a)).imp fun {q q'} hq x hx y hy => ?_
      obtain ⟨t, rfl, -⟩ := (mem_listsF r _ _ _).1 hx
      obtain ⟨t', rfl, -⟩ := (mem_listsF r _ _ _).1 hy
      rw [List.append_assoc, List.append_assoc, lexB_pre]
      simp only [List.singleton_append, lexB]
      rw [if_neg (by omega)]
      simp; omega
theorem lists_pw (e m : Nat) : (listsL e m).Pairwise fun x y => lexB x y = true := listsF_pw e m [] 0
theorem find_first {zs : List (List Int)} (hp : zs.Pairwise fun x y => lexB x y = true) {P : List Int → Bool} {z : List Int} (h : zs.find? P = some z) : z ∈ zs ∧ P z = true ∧ ∀ x ∈ zs, lexB x z = true → P x = false := by
  obtain ⟨h1, us, vs, rfl, h2⟩ := List.find?_eq_some_iff_append.1 h
  refine ⟨by simp, h1, fun x hx hlt => ?_⟩
  rcases List.mem_append.1 hx with hx | hx
  · have := h2 x hx; simpa using this
  · exfalso
    rcases List.mem_cons.1 hx with rfl | hx
    · rw [lexB_irr] at hlt; cases hlt
    · rw [List.pairwise_append] at hp
      have := lexB_trans ((List.pairwise_cons.1 hp.2.1).1 x hx) hlt
      rw [lexB_irr] at this; cases this
def firstAt (e : Nat) (P : List Int → Bool) (m : Nat) : Option (List Int) := (listsL e m).find? P
def firstO (e : Nat) (P : List Int → Bool) : Option (List Int) := (List.range (e + 1)).findSome? (firstAt e P)
def firstL (e : Nat) (P : List Int → Bool) : List Int := (firstO e P).getD []
theorem firstO_some {e : Nat} {P : List Int → Bool} {m : Nat} {l : List Int} (hm : m < e + 1) (h : ∀ x < m, firstAt e P x = none) (hl : firstAt e P m = some l) : firstL e P = l := by
  unfold firstL firstO
  have : (List.range (e + 1)).findSome? (firstAt e P) = some l := by
    rw [List.findSome?_eq_some_iff]
    refine ⟨List.range m, m, (List.range' (m + 1) (e - m)), ?_, hl, fun x hx => h x (List.mem_range.1 hx)⟩
    rw [List.range_eq_range', List.range_eq_range', ← List.range'_succ]
    have := List.range'_append (s := 0) (m := m) (n := e - m + 1) (step := 1)
    rw [Nat.one_mul, Nat.zero_add, show m + (e - m + 1) = e + 1 by omega] at this
    exact this.symm
  rw [this]; rfl
theorem firstO_none {e : Nat} {P : List Int → Bool} (h : ∀ x < e + 1, firstAt e P x = none) : firstL e P = [] := by
  unfold firstL firstO
  have : (List.range (e + 1)).findSome? (firstAt e P) = none := List.findSome?_eq_none_iff.2 fun x hx => h x (List.mem_range.1 hx)
  rw [this]; rfl
theorem first_facts {e : Nat} {P : List Int → Bool} (hall : ∃ l, growsI l e ∧ l.length ≤ e ∧ P l = true) : growsI (firstL e P) e ∧ P (firstL e P) = true ∧ ∀ l, growsI l e → shortB l (firstL e P) = true → P l = false := by
  have hne : firstO e P ≠ none := by
    unfold firstO
    rw [Ne, List.findSome?_eq_none_iff]
    intro h
    obtain ⟨l, h1, h2, h3⟩ := hall
    have h4 := h l.length (List.mem_range.2 (by omega))
    unfold firstAt at h4
    have := List.find?_eq_none.1 h4 _ (mem_listsL.2 ⟨rfl, h1⟩)
    rw [h3] at this
    exact this rfl
  obtain ⟨d, hd⟩ := Option.ne_none_iff_exists'.1 hne
  have hdi : firstL e P = d := by unfold firstL; rw [hd]; rfl
  rw [hdi]
  unfold firstO at hd
  obtain ⟨l1, a, l2, e1, h1, h2⟩ := List.findSome?_eq_some_iff.1 hd
  unfold firstAt at h1
  obtain ⟨g1, g2, g3⟩ := find_first (lists_pw _ _) h1
  obtain ⟨m1, m2⟩ := mem_listsL.1 g1
  have hp := List.pairwise_lt_range (n := e + 1)
  rw [e1, List.pairwise_append] at hp
  have ha : a < e + 1 := List.mem_range.1 (by rw [e1]; simp)
  refine ⟨m2, g2, fun l hl hs => ?_⟩
  unfold shortB at hs
  split at hs
  · rename_i hlen
    exact g3 l (mem_listsL.2 ⟨by omega, hl⟩) hs
  · rename_i hlen
    have hlt : l.length < a := by have := of_decide_eq_true hs; omega
    have hm : l.length ∈ l1 := by
      have : l.length ∈ List.range (e + 1) := List.mem_range.2 (by omega)
      rw [e1] at this
      rcases List.mem_append.1 this with h | h
      · exact h
      · exfalso
        rcases List.mem_cons.1 h with h | h
        · omega
        · have := (List.pairwise_cons.1 hp.2.1).1 _ h
          omega
    have h3 := h2 _ hm
    unfold firstAt at h3
    have := List.find?_eq_none.1 h3 l (mem_listsL.2 ⟨rfl, hl⟩)
    simpa using this
theorem of_bit {s i : Nat} (h : i ≤ 64) : ofI (s : Int) (i : Int) = s.testBit i := by
  unfold ofI
  rw [Int.toNat_natCast, Nat.min_eq_left h, Nat.testBit_eq_decide_div_mod_eq, Int.fdiv_eq_ediv_of_nonneg _ (by have : (0 : Int) < 2 ^ i := Int.pow_pos (by decide); omega)]
  refine decide_eq_decide.2 ?_
  have e : ((2 : Int) ^ i) = ((2 ^ i : Nat) : Int) := by norm_cast
  rw [e]
  norm_cast
theorem bits_ex (p : Nat → Bool) : ∀ m : Nat, ∃ s : Nat, s < 2 ^ m ∧ ∀ i, i < m → s.testBit i = p i
  | 0 => ⟨0, by decide, fun i h => absurd h (by omega)⟩
  | m + 1 => by
    obtain ⟨s, hs, hp⟩ := bits_ex p m
    cases hm : p m
    · refine ⟨s, by rw [Nat.pow_succ]; omega, fun i hi => ?_⟩
      by_cases e : i = m
      · rw [e, hm]
        exact Nat.testBit_lt_two_pow hs
      · exact hp i (by omega)
    · refine ⟨2 ^ m + s, by rw [Nat.pow_succ]; omega, fun i hi => ?_⟩
      by_cases e : i = m
      · rw [e, hm, Nat.testBit_two_pow_add_eq, Nat.testBit_lt_two_pow hs]
        rfl
      · rw [Nat.testBit_two_pow_add_gt (by omega)]
        exact hp i (by omega)
theorem grows_bits {l : List Int} {m : Nat} (hm : m ≤ 64) (h : growsI l m) : ∃ s : Nat, s < 2 ^ m ∧ l = listI s m := by
  obtain ⟨s, hs, he⟩ := bits_ex (fun i => decide ((i : Int) ∈ l)) m
  refine ⟨s, hs, inc_ext h.1 (listI_inc _ _) fun n => ?_⟩
  constructor
  · intro hn
    obtain ⟨h0, h1⟩ := h.2 n hn
    have e : n = ((n.toNat : Nat) : Int) := by omega
    rw [e, mem_listI (by omega), of_bit (by omega), he _ (by omega), ← e]
    exact decide_eq_true hn
  · intro hn
    unfold listI at hn
    rw [List.mem_map] at hn
    obtain ⟨i, hi, rfl⟩ := hn
    rw [List.mem_filter, List.mem_range] at hi
    have := he i hi.1
    rw [← of_bit (by omega), hi.2] at this
    exact of_decide_eq_true this.symm
theorem grows_list (x : Int) (m : Nat) : growsI (listI x m) m := by
  refine ⟨listI_inc x m, fun y hy => ?_⟩
  unfold listI at hy
  obtain ⟨i, hi, rfl⟩ := List.mem_map.1 hy
  have := List.mem_range.1 (List.mem_filter.1 hi).1
  omega
theorem list_len (x : Int) (m : Nat) : (listI x m).length ≤ m := by
  unfold listI
  rw [List.length_map]
  exact Nat.le_trans (List.length_filter_le ..) (by simp)
theorem full_mem {m i : Nat} (hm : m ≤ 64) (hi : i < m) : (i : Int) ∈ listI (((2 ^ m : Nat) : Int) - 1) m := by
  rw [mem_listI hi]
  have e : ((2 ^ m : Nat) : Int) - 1 = ((2 ^ m - 1 : Nat) : Int) := by
    have : 1 ≤ 2 ^ m := Nat.one_le_two_pow
    omega
  rw [e, of_bit (by omega), Nat.testBit_two_pow_sub_one]
  exact decide_eq_true hi
def bestS (e : Nat) (P : List Int → Bool) (s : Nat) : List Int := (List.range s).foldl (fun m (x : Nat) => if shortB (listI x e) m && P (listI x e) then listI x e else m) (listI (((2 ^ e : Nat) : Int) - 1) e)
theorem bestS_next (e : Nat) (P : List Int → Bool) (s : Nat) : bestS e P (s + 1) = if shortB (listI (s : Nat) e) (bestS e P s) && P (listI (s : Nat) e) then listI (s : Nat) e else bestS e P s := by
  unfold bestS
  rw [List.range_succ, List.foldl_append]
  rfl
theorem bestS_end {e : Nat} {P : List Int → Bool} (he : e ≤ 64) (hall : P (listI (((2 ^ e : Nat) : Int) - 1) e) = true) : bestS e P (2 ^ e) = firstL e P := by
  have hinv : ∀ s, growsI (bestS e P s) e ∧ P (bestS e P s) = true ∧ ∀ x : Nat, x < s → shortB (listI x e) (bestS e P s) = true → P (listI x e) = false := by
    intro s
    induction s with
    | zero => exact ⟨grows_list .., hall, fun x h => absurd h (by omega)⟩
    | succ s ih =>
      obtain ⟨i1, i2, i3⟩ := ih
      rw [bestS_next]
      by_cases hc : (shortB (listI (s : Nat) e) (bestS e P s) && P (listI (s : Nat) e)) = true
      · rw [if_pos hc]
        rw [Bool.and_eq_true] at hc
        refine ⟨grows_list .., hc.2, fun x hx hsh => ?_⟩
        by_cases e1 : x = s
        · subst e1
          rw [shortB_irr] at hsh
          cases hsh
        · exact i3 x (by omega) (shortB_trans hsh hc.1)
      · rw [if_neg hc]
        refine ⟨i1, i2, fun x hx hsh => ?_⟩
        by_cases e1 : x = s
        · subst e1
          rw [hsh, Bool.true_and] at hc
          simpa using hc
        · exact i3 x (by omega) hsh
  obtain ⟨g1, g2, g3⟩ := first_facts (e := e) (P := P) ⟨_, grows_list .., list_len .., hall⟩
  obtain ⟨i1, i2, i3⟩ := hinv (2 ^ e)
  refine shortB_total ?_ ?_
  · rw [Bool.eq_false_iff]
    intro h
    rw [g3 _ i1 h] at i2
    cases i2
  · rw [Bool.eq_false_iff]
    intro h
    obtain ⟨s, hs, e1⟩ := grows_bits he g1
    rw [e1] at h
    have := i3 s hs h
    rw [← e1, g2] at this
    cases this
end Go.Proofs.YtlbolnlcncjijaaGreat.Ls
namespace Go.Proofs.YtlbolnlcncjijaaGreat.Mk
open Go.RowKit Ls
def okRows (b : MBook) : Prop := ∀ r ∈ b.makers, r.length = nK b ∧ ∀ x ∈ r, 1 ≤ x ∧ x ≤ 31
def okSeen (b : MBook) : Prop := ∀ m ∈ b.seen, (0 ≤ m.1 ∧ m.1 < (nK b : Int)) ∧ 1 ≤ m.2 ∧ m.2 ≤ 31
def okC (b : MBook) : Prop := (1 ≤ b.makers.length ∧ b.makers.length ≤ 5) ∧ (1 ≤ nK b ∧ nK b ≤ 6) ∧ okRows b ∧ okSeen b ∧ (0 ≤ b.repairs ∧ b.repairs ≤ (nK b : Int)) ∧ 0 ≤ b.fixed ∧ b.fixed ≤ 2 ^ nK b - 1
instance (b : MBook) : Decidable (okRows b) := by unfold okRows; exact inferInstance
instance (b : MBook) : Decidable (okSeen b) := by unfold okSeen; exact inferInstance
instance (b : MBook) : Decidable (okC b) := by unfold okC; exact inferInstance
def okBook (b : MBook) : Prop := okC b ∧ b.seen.length ≤ 8
instance (b : MBook) : Decidable (okBook b) := by unfold okBook; exact inferInstance
theorem okC.row {b : MBook} (h : okC b) {m : Nat} (hm : m < b.makers.length) : b.makers[m].length = nK b ∧ ∀ x ∈ b.makers[m], 1 ≤ x ∧ x ≤ 31 := h.2.2.1 _ (List.getElem_mem hm)
theorem mk_get {b : MBook} {m k : Nat} (hm : m < b.makers.length) (hk : k < b.makers[m].length) : b.makers[m][k] = mkI b m k := by
  unfold mkI
  simp [List.getD_eq_getElem?_getD, List.getElem?_eq_getElem hm, List.getElem?_eq_getElem hk]
theorem okC.mk {b : MBook} (h : okC b) {m k : Nat} (hm : m < b.makers.length) (hk : k < nK b) : 1 ≤ mkN b m k ∧ mkN b m k ≤ 31 ∧ mkI b m k = (mkN b m k : Int) := by
  obtain ⟨h1, h2⟩ := h.row hm
  have hk2 : k < b.makers[m].length := by omega
  have := h2 _ (List.getElem_mem hk2)
  rw [mk_get hm hk2] at this
  unfold mkN
  omega
theorem okC.fix {b : MBook} (h : okC b) : b.fixed = (fixN b : Int) ∧ fixN b < 2 ^ nK b := by
  obtain ⟨-, -, -, -, -, h1, h2⟩ := h
  unfold fixN
  have e : ((2 : Int) ^ nK b) = ((2 ^ nK b : Nat) : Int) := by norm_cast
  omega
theorem pow_le64 {b : MBook} (h : okC b) : 2 ^ nK b ≤ 64 := Nat.pow_le_pow_right (n := 2) (by decide) h.2.1.2
theorem seen_le (b : MBook) (k : Nat) : seenN b k ≤ 31 := by
  have : seenN b k < 2 ^ 5 := Nat.lt_pow_two_of_testBit _ fun i hi => by
    rw [Bool.eq_false_iff]
    intro h
    have := (seen_bit.1 h).1
    omega
  omega
theorem own_le (b : MBook) (m k : Nat) : ownN b m k ≤ 31 := Nat.le_trans Nat.and_le_right (seen_le b k)
theorem val_le (b : MBook) (m c k : Nat) : valN b m c k ≤ 31 := by
  unfold valN
  split
  · exact seen_le b k
  · exact own_le b m k
theorem seen_out {b : MBook} (h : okC b) {k : Nat} (hk : nK b ≤ k) : seenN b k = 31 := by
  have : ∀ i, (seenN b k).testBit i = (31 : Nat).testBit i := fun i => by
    rw [Bool.eq_iff_iff, seen_bit, show (31 : Nat) = 2 ^ 5 - 1 by decide, Nat.testBit_two_pow_sub_one, decide_eq_true_eq]
    refine ⟨fun h => h.1, fun hi => ⟨hi, fun m hm he => ?_⟩⟩
    have := (h.2.2.2.1 m hm).1
    omega
  exact Nat.eq_of_testBit_eq this
theorem mk_31 {b : MBook} (h : okC b) {m k : Nat} (hm : m < b.makers.length) (hk : k < nK b) : mkN b m k &&& 31 = mkN b m k := by
  obtain ⟨-, h2, -⟩ := h.mk hm hk
  rw [show (31 : Nat) = 2 ^ 5 - 1 by decide, Nat.and_two_pow_sub_one_eq_mod]
  exact Nat.mod_eq_of_lt (by omega)
theorem all_seen {b : MBook} (h : okC b) (hs : ∀ k, k < nK b → seenN b k = 31) {m : Nat} (hm : m < b.makers.length) : possB b m = true := by
  rw [poss_eq]
  have hz : ∀ k, k < nK b → zeroB b m k = false := fun k hk => by
    obtain ⟨h1, -, -⟩ := h.mk hm hk
    refine decide_eq_false ?_
    unfold ownN
    rw [hs k hk, mk_31 h hm hk]
    omega
  refine ⟨List.all_eq_true.2 fun k hk => ?_, List.all_eq_true.2 fun k hk => ?_, ?_⟩
  · rw [hs k (List.mem_range.1 hk)]
    decide
  · rw [hz k (List.mem_range.1 hk)]
    rfl
  · have : zeros b m = 0 := by
      unfold zeros
      rw [List.length_eq_zero_iff, List.filter_eq_nil_iff]
      intro k hk
      rw [hz k (List.mem_range.1 hk)]
      decide
    rw [this]
    exact h.2.2.2.2.1.1
theorem mem_who {b : MBook} {m : Nat} : m ∈ whoL b ↔ m < b.makers.length ∧ possB b m = true := by
  unfold whoL
  rw [List.mem_filter, List.mem_range]
theorem who_len (b : MBook) : (whoL b).length ≤ b.makers.length := by
  unfold whoL
  exact Nat.le_trans (List.length_filter_le ..) (by simp)
theorem who_right {b : MBook} (h : whoL b ≠ []) : rightB b = true := by
  obtain ⟨m, l, e⟩ := List.exists_cons_of_ne_nil h
  have : m ∈ whoL b := by rw [e]; exact List.mem_cons_self ..
  exact (poss_eq.1 (mem_who.1 this).2).1
theorem all_who {b : MBook} (h : okC b) (hs : ∀ k, k < nK b → seenN b k = 31) : whoL b ≠ [] := by
  have : 0 ∈ whoL b := mem_who.2 ⟨by have := h.1; omega, all_seen h hs (by have := h.1; omega)⟩
  intro e
  rw [e] at this
  cases this
theorem okC.unseen {b : MBook} (h : okC b) (l : List (Int × Int)) (hl : ∀ m ∈ l, m ∈ b.seen) : okC { b with seen := l } := by
  obtain ⟨h1, h2, h3, h4, h5⟩ := h
  exact ⟨h1, h2, h3, fun m hm => h4 m (hl m hm), h5⟩
def withoutL (b : MBook) (out : List Int) (j : Nat) : List (Int × Int) := ((List.range j).filter fun (i : Nat) => decide ((i : Int) ∉ out)).map fun i => b.seen.getD i (0, 0)
def withoutB (b : MBook) (out : List Int) : MBook := { b with seen := withoutL b out b.seen.length }
theorem without_mem {b : MBook} {out : List Int} {m : Int × Int} (h : m ∈ withoutL b out b.seen.length) : m ∈ b.seen := by
  unfold withoutL at h
  obtain ⟨i, hi, rfl⟩ := List.mem_map.1 h
  have := List.mem_range.1 (List.mem_filter.1 hi).1
  rw [List.getD_eq_getElem?_getD, List.getElem?_eq_getElem this]
  exact List.getElem_mem this
theorem okC.without {b : MBook} (h : okC b) (out : List Int) : okC (withoutB b out) := h.unseen _ fun _ hm => without_mem hm
theorem without_nil (b : MBook) : withoutB b [] = b := by
  unfold withoutB withoutL
  have : ((List.range b.seen.length).filter fun (i : Nat) => decide ((i : Int) ∉ ([] : List Int))).map (fun i => b.seen.getD i (0, 0)) = b.seen := by
    have e : (List.range b.seen.length).filter (fun (i : Nat) => decide ((i : Int) ∉ ([] : List Int))) = List.range b.seen.length := List.filter_eq_self.2 (by simp)
    rw [e]
    apply List.ext_getElem?
    intro i
    rw [List.getElem?_map]
    rcases Nat.lt_or_ge i b.seen.length with h | h
    · rw [List.getElem?_range h, List.getElem?_eq_getElem h]
      simp [List.getD_eq_getElem?_getD, List.getElem?_eq_getElem h]
    · rw [List.getElem?_eq_none (show (List.range b.seen.length).length ≤ i by simpa using h), List.getElem?_eq_none h]
      rfl
  rw [this]
def wrongP (b : MBook) (out : List Int) : Bool := decide (whoL (withoutB b out) ≠ [])
def wrongI (b : MBook) : List Int := firstL b.seen.length (wrongP b)
theorem wrong_all {b : MBook} (h : okC b) {out : List Int} (ho : ∀ i : Nat, i < b.seen.length → (i : Int) ∈ out) : wrongP b out = true := by
  have hn : withoutL b out b.seen.length = [] := by
    unfold withoutL
    rw [List.map_eq_nil_iff, List.filter_eq_nil_iff]
    intro i hi
    simpa using ho i (List.mem_range.1 hi)
  refine decide_eq_true (all_who (h.without out) fun k hk => ?_)
  show seenL (withoutL b out b.seen.length) k = 31
  rw [hn]
  rfl
theorem wrong_facts {b : MBook} (h : okC b) (h8 : b.seen.length ≤ 64) : growsI (wrongI b) b.seen.length ∧ wrongP b (wrongI b) = true ∧ ∀ l, growsI l b.seen.length → shortB l (wrongI b) = true → wrongP b l = false :=
  first_facts ⟨_, grows_list .., list_len .., wrong_all h fun _ hi => full_mem h8 hi⟩
theorem wrong_nil {b : MBook} (h : okC b) (h8 : b.seen.length ≤ 64) : wrongI b = [] ↔ whoL b ≠ [] := by
  obtain ⟨h1, h2, h3⟩ := wrong_facts h h8
  have e : wrongP b [] = decide (whoL b ≠ []) := by unfold wrongP; rw [without_nil]
  constructor
  · intro hn
    rw [hn, e] at h2
    exact of_decide_eq_true h2
  · intro hw
    cases hl : wrongI b with
    | nil => rfl
    | cons x l =>
      have := h3 [] ⟨by simp [incL], by simp⟩ (by rw [hl]; simp [shortB])
      rw [e, decide_eq_true hw] at this
      cases this
def worstN (b : MBook) (k : Nat) : Nat := (valuesL b k).foldl (fun m v => max m (whoL (knowB b k v)).length) 0
def lookN (b : MBook) : Nat := (List.range (nK b)).foldl (fun best k => if worstN b k < worstN b best then k else best) 0
theorem look_inv (f : Nat → Nat) : ∀ n, 1 ≤ n → (List.range n).foldl (fun best k => if f k < f best then k else best) 0 < n ∧ ∀ k, k < n → f ((List.range n).foldl (fun best k => if f k < f best then k else best) 0) < f k ∨ f ((List.range n).foldl (fun best k => if f k < f best then k else best) 0) = f k ∧ (List.range n).foldl (fun best k => if f k < f best then k else best) 0 ≤ k
  | 0, h => absurd h (by omega)
  | 1, _ => by
    simp only [List.range, List.range.loop, List.foldl]
    rw [if_neg (by omega)]
    exact ⟨by omega, fun k hk => .inr ⟨by rw [show k = 0 by omega], by omega⟩⟩
  | n + 2, _ => by
    obtain ⟨h1, h2⟩ := look_inv f (n + 1) (by omega)
    rw [List.range_succ, List.foldl_append]
    simp only [List.foldl]
    generalize (List.range (n + 1)).foldl (fun best k => if f k < f best then k else best) 0 = B at h1 h2
    by_cases hc : f (n + 1) < f B
    · rw [if_pos hc]
      refine ⟨by omega, fun k hk => ?_⟩
      by_cases e : k = n + 1
      · subst e
        exact .inr ⟨rfl, by omega⟩
      · rcases h2 k (by omega) with h | ⟨h, -⟩
        · exact .inl (by omega)
        · exact .inl (by omega)
    · rw [if_neg hc]
      refine ⟨by omega, fun k hk => ?_⟩
      by_cases e : k = n + 1
      · subst e
        rcases Nat.lt_or_ge (f B) (f (n + 1)) with h | h
        · exact .inl h
        · exact .inr ⟨by omega, by omega⟩
      · exact h2 k (by omega)
theorem look_facts {b : MBook} (h : okC b) : lookN b < nK b ∧ ∀ k, k < nK b → worstN b (lookN b) < worstN b k ∨ worstN b (lookN b) = worstN b k ∧ lookN b ≤ k := look_inv (worstN b) (nK b) h.2.1.1
end Go.Proofs.YtlbolnlcncjijaaGreat.Mk
