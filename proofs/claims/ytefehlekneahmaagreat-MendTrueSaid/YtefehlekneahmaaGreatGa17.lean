/- Lists: increasing lists of numbers, the first of the shortest that do, sets as numbers. Mathematics of maker: what is valid; where to look; which marks must be wrong. Contracts of maker: what is valid. -/
import Derived.Test.YtefehlekneahmaaGreatGa15
import Derived.Test.YtefehlekneahmaaGreatGa16
namespace Go.Proofs.YtefehlekneahmaaGreat.Ls
open Go.RowKit
def listsF (e : Nat) : Nat → List Int → Nat → List (List Int)
  | 0, l, _ => [l]
  | r + 1, l, a => ((List.range (e - a)).map fun q => a + q).flatMap fun (n : Nat) => listsF e r (l ++ [(n : Int)]) (n + 1)
def listsL (e m : Nat) : List (List Int) := listsF e m [] 0
theorem mem_listsF {e : Nat} : ∀ (r : Nat) (l : List Int) (a : Nat) (l' : List Int), l' ∈ listsF e r l a ↔ ∃ t : List Int, l' = l ++ t ∧ t.length = r ∧ incL t ∧ ∀ x ∈ t, (a : Int) ≤ x ∧ x < e
  | 0, l, a, l' => by
    simp only [listsF, List.mem_singleton]
    constructor
    · rintro rfl; exact ⟨[], by simp, rfl, by simp [incL], by simp⟩
    · rintro ⟨t, rfl, ht, -, -⟩; rw [List.eq_nil_of_length_eq_zero ht]; simp
  | r + 1, l, a, l' => by
    simp only [listsF, List.mem_flatMap, List.mem_map, List.mem_range]
    constructor
    · rintro ⟨n, ⟨q, hq, rfl⟩, h⟩
      obtain ⟨t, rfl, h1, h2, h3⟩ := (mem_listsF r _ _ _).1 h
      refine ⟨((a + q : Nat) : Int) :: t, by simp, by simp [h1], ?_, ?_⟩
      · unfold incL
        rw [List.pairwise_cons]
        exact ⟨fun x hx => by have := h3 x hx; omega, h2⟩
      · intro x hx
        rcases List.mem_cons.1 hx with rfl | hx
        · omega
        · have := h3 x hx; omega
    · rintro ⟨t, rfl, h1, h2, h3⟩
      match t, h1 with
      | x :: t, h1 =>
        have hx := h3 x (List.mem_cons_self ..)
        unfold incL at h2
        rw [List.pairwise_cons] at h2
        refine ⟨x.toNat, ⟨x.toNat - a, by omega, by omega⟩, (mem_listsF r _ _ _).2 ⟨t, ?_, by simpa using h1, h2.2, fun y hy => ?_⟩⟩
        · rw [show ((x.toNat : Nat) : Int) = x by omega]; simp
        · have h4 := h2.1 y hy
          have h5 := h3 y (List.mem_cons_of_mem _ hy)
          omega
theorem mem_listsL {e m : Nat} {l : List Int} : l ∈ listsL e m ↔ l.length = m ∧ growsI l e := by
  unfold listsL growsI
  rw [mem_listsF]
  constructor
  · rintro ⟨t, rfl, h1, h2, h3⟩
    exact ⟨by simpa using h1, by simpa using h2, fun x hx => by have := h3 x (by simpa using hx); omega⟩
  · rintro ⟨h1, h2, h3⟩
    exact ⟨l, by simp, h1, h2, fun x hx => by have := h3 x hx; omega⟩
theorem find_at {α : Type} {zs : List α} {P : α → Bool} {i : Nat} (h : i < zs.length) (hn : ∀ x ∈ zs.take i, P x = false) (hp : P zs[i] = true) : zs.find? P = some zs[i] := by
  rw [List.find?_eq_some_iff_getElem]
  refine ⟨hp, i, h, rfl, fun j hj => ?_⟩
  rw [hn zs[j] (List.mem_iff_getElem.2 ⟨j, by rw [List.length_take]; omega, by simp⟩)]
  rfl
theorem find_no {α : Type} {zs : List α} {P : α → Bool} (hn : ∀ x ∈ zs.take zs.length, P x = false) : zs.find? P = none := by
  rw [List.take_length] at hn
  exact List.find?_eq_none.2 fun x hx => by rw [hn x hx]; simp
theorem lexB_pre : ∀ (l a b : List Int), lexB (l ++ a) (l ++ b) = lexB a b
  | [], a, b => rfl
  | x :: l, a, b => by simp [lexB, lexB_pre l a b]
theorem listsF_pw (e : Nat) : ∀ (r : Nat) (l : List Int) (a : Nat), (listsF e r l a).Pairwise fun x y => lexB x y = true
  | 0, l, a => List.pairwise_singleton _ _
  | r + 1, l, a => by
    unfold listsF
    rw [List.pairwise_flatMap]
    constructor
    · exact fun n _ => listsF_pw e r _ _
    · rw [List.pairwise_map]
      refine (List.pairwise_lt_range (n := e - a)).imp fun {q q'} hq x hx y hy => ?_
      obtain ⟨t, rfl, -⟩ := (mem_listsF r _ _ _).1 hx
      obtain ⟨t', rfl, -⟩ := (mem_listsF r _ _ _).1 hy
      rw [List.append_assoc, List.append_assoc, lexB_pre]
      simp only [List.singleton_append, lexB]
      rw [if_neg (by omega)]
      simp; omega
theorem lists_pw (e m : Nat) : (listsL e m).Pairwise fun x y => lexB x y = true := listsF_pw e m [] 0
theorem find_first {zs : List (List Int)} (hp : zs.Pairwise fun x y => lexB x y = true) {P : List Int → Bool} {z : List Int} (h : zs.find? P = some z) : z ∈ zs ∧ P z = true ∧ ∀ x ∈ zs, lexB x z = true → P x = false := by
  obtain ⟨h1, us, vs, rfl, h2⟩ := List.find?_eq_some_iff_append.1 h
  refine ⟨by simp, h1, fun x hx hlt => ?_⟩
  rcases List.mem_append.1 hx with hx | hx
  · have := h2 x hx; simpa using this
  · exfalso
    rcases List.mem_cons.1 hx with rfl | hx
    · rw [lexB_irr] at hlt; cases hlt
    · rw [List.pairwise_append] at hp
      have := lexB_trans ((List.pairwise_cons.1 hp.2.1).1 x hx) hlt
      rw [lexB_irr] at this; cases this
def firstAt (e : Nat) (P : List Int → Bool) (m : Nat) : Option (List Int) := (listsL e m).find? P
def firstO (e : Nat) (P : List Int → Bool) : Option (List Int) := (List.range (e + 1)).findSome? (firstAt e P)
def firstL (e : Nat) (P : List Int → Bool) : List Int := (firstO e P).getD []
theorem firstO_some {e : Nat} {P : List Int → Bool} {m : Nat} {l : List Int} (hm : m < e + 1) (h : ∀ x < m, firstAt e P x = none) (hl : firstAt e P m = some l) : firstL e P = l := by
  unfold firstL firstO
  have : (List.range (e + 1)).findSome? (firstAt e P) = some l := by
    rw [List.findSome?_eq_some_iff]
    refine ⟨List.range m, m, (List.range' (m + 1) (e - m)), ?_, hl, fun x hx => h x (List.mem_range.1 hx)⟩
    rw [List.range_eq_range', List.range_eq_range', ← List.range'_succ]
    have := List.range'_append (s := 0) (m := m) (n := e - m + 1) (step := 1)
    rw [Nat.one_mul, Nat.zero_add, show m + (e - m + 1) = e + 1 by omega] at this
    exact this.symm
  rw [this]; rfl
theorem firstO_none {e : Nat} {P : List Int → Bool} (h : ∀ x < e + 1, firstAt e P x = none) : firstL e P = [] := by
  unfold firstL firstO
  have : (List.range (e + 1)).findSome? (firstAt e P) = none := List.findSome?_eq_none_iff.2 fun x hx => h x (List.mem_range.1 hx)
  rw [this]; rfl
theorem first_facts {e : Nat} {P : List Int → Bool} (hall : ∃ l, growsI l e ∧ l.length ≤ e ∧ P l = true) : growsI (firstL e P) e ∧ P (firstL e P) = true ∧ ∀ l, growsI l e → shortB l (firstL e P) = true → P l = false := by
  have hne : firstO e P ≠ none := by
    unfold firstO
    rw [Ne, List.findSome?_eq_none_iff]
    intro h
    obtain ⟨l, h1, h2, h3⟩ := hall
    have h4 := h l.length (List.mem_range.2 (by omega))
    unfold firstAt at h4
    have := List.find?_eq_none.1 h4 _ (mem_listsL.2 ⟨rfl, h1⟩)
    rw [h3] at this
    exact this rfl
  obtain ⟨d, hd⟩ := Option.ne_none_iff_exists'.1 hne
  have hdi : firstL e P = d := by unfold firstL; rw [hd]; rfl
  rw [hdi]
  unfold firstO at hd
  obtain ⟨l1, a, l2, e1, h1, h2⟩ := List.findSome?_eq_some_iff.1 hd
  unfold firstAt at h1
  obtain ⟨g1, g2, g3⟩ := find_first (lists_pw _ _) h1
  obtain ⟨m1, m2⟩ := mem_listsL.1 g1
  have hp := List.pairwise_lt_range (n := e + 1)
  rw [e1, List.pairwise_append] at hp
  have ha : a < e + 1 := List.mem_range.1 (by rw [e1]; simp)
  refine ⟨m2, g2, fun l hl hs => ?_⟩
  unfold shortB at hs
  split at hs
  · rename_i hlen
    exact g3 l (mem_listsL.2 ⟨by omega, hl⟩) hs
  · rename_i hlen
    have hlt : l.length < a := by have := of_decide_eq_true hs; omega
    have hm : l.length ∈ l1 := by
      have : l.length ∈ List.range (e + 1) := List.mem_range.2 (by omega)
      rw [e1] at this
      rcases List.mem_append.1 this with h | h
      · exact h
      · exfalso
        rcases List.mem_cons.1 h with h | h
        · omega
        · have := (List.pairwise_cons.1 hp.2.1).1 _ h
          omega
    have h3 := h2 _ hm
    unfold firstAt at h3
    have := List.find?_eq_none.1 h3 l (mem_listsL.2 ⟨rfl, hl⟩)
    simpa using this
theorem of_bit {s i : Nat} (h : i ≤ 64) : ofI (s : Int) (i : Int) = s.testBit i := by
  unfold ofI
  rw [Int.toNat_natCast, Nat.min_eq_left h, Nat.testBit_eq_decide_div_mod_eq, Int.fdiv_eq_ediv_of_nonneg _ (by have : (0 : Int) < 2 ^ i := Int.pow_pos (by decide); omega)]
  refine decide_eq_decide.2 ?_
  have e : ((2 : Int) ^ i) = ((2 ^ i : Nat) : Int) := by norm_cast
  rw [e]
  norm_cast
theorem bits_ex (p : Nat → Bool) : ∀ m : Nat, ∃ s : Nat, s < 2 ^ m ∧ ∀ i, i < m → s.testBit i = p i
  | 0 => ⟨0, by decide, fun i h => absurd h (by omega)⟩
  | m + 1 => by
    obtain ⟨s, hs, hp⟩ := bits_ex p m
    cases hm : p m
    · refine ⟨s, by rw [Nat.pow_succ]; omega, fun i hi => ?_⟩
      by_cases e : i = m
      · rw [e, hm]
        exact Nat.testBit_lt_two_pow hs
      · exact hp i (by omega)
    · refine ⟨2 ^ m + s, by rw [Nat.pow_succ]; omega, fun i hi => ?_⟩
      by_cases e : i = m
      · rw [e, hm, Nat.testBit_two_pow_add_eq, Nat.testBit_lt_two_pow hs]
        rfl
      · rw [Nat.testBit_two_pow_add_gt (by omega)]
        exact hp i (by omega)
theorem grows_bits {l : List Int} {m : Nat} (hm : m ≤ 64) (h : growsI l m) : ∃ s : Nat, s < 2 ^ m ∧ l = listI s m := by
  obtain ⟨s, hs, he⟩ := bits_ex (fun i => decide ((i : Int) ∈ l)) m
  refine ⟨s, hs, inc_ext h.1 (listI_inc _ _) fun n => ?_⟩
  constructor
  · intro hn
    obtain ⟨h0, h1⟩ := h.2 n hn
    have e : n = ((n.toNat : Nat) : Int) := by omega
    rw [e, mem_listI (by omega), of_bit (by omega), he _ (by omega), ← e]
    exact decide_eq_true hn
  · intro hn
    unfold listI at hn
    rw [List.mem_map] at hn
    obtain ⟨i, hi, rfl⟩ := hn
    rw [List.mem_filter, List.mem_range] at hi
    have := he i hi.1
    rw [← of_bit (by omega), hi.2] at this
    exact of_decide_eq_true this.symm
theorem grows_list (x : Int) (m : Nat) : growsI (listI x m) m := by
  refine ⟨listI_inc x m, fun y hy => ?_⟩
  unfold listI at hy
  obtain ⟨i, hi, rfl⟩ := List.mem_map.1 hy
  have := List.mem_range.1 (List.mem_filter.1 hi).1
  omega
theorem list_len (x : Int) (m : Nat) : (listI x m).length ≤ m := by
  unfold listI
  rw [List.length_map]
  exact Nat.le_trans (List.length_filter_le ..) (by simp)
theorem full_mem {m i : Nat} (hm : m ≤ 64) (hi : i < m) : (i : Int) ∈ listI (((2 ^ m : Nat) : Int) - 1) m := by
  rw [mem_listI hi]
  have e : ((2 ^ m : Nat) : Int) - 1 = ((2 ^ m - 1 : Nat) : Int) := by
    have : 1 ≤ 2 ^ m := Nat.one_le_two_pow
    omega
  rw [e, of_bit (by omega), Nat.testBit_two_pow_sub_one]
  exact decide_eq_true hi
/-- Set by set: the best one so far. -/
def bestS (e : Nat) (P : List Int → Bool) (s : Nat) : List Int := (List.range s).foldl (fun m (x : Nat) => if shortB (listI x e) m && P (listI x e) then listI x e else m) (listI (((2 ^ e : Nat) : Int) - 1) e)
theorem bestS_next (e : Nat) (P : List Int → Bool) (s : Nat) : bestS e P (s + 1) = if shortB (listI (s : Nat) e) (bestS e P s) && P (listI (s : Nat) e) then listI (s : Nat) e else bestS e P s := by
  unfold bestS
  rw [List.range_succ, List.foldl_append]
  rfl
theorem bestS_end {e : Nat} {P : List Int → Bool} (he : e ≤ 64) (hall : P (listI (((2 ^ e : Nat) : Int) - 1) e) = true) : bestS e P (2 ^ e) = firstL e P := by
  have hinv : ∀ s, growsI (bestS e P s) e ∧ P (bestS e P s) = true ∧ ∀ x : Nat, x < s → shortB (listI x e) (bestS e P s) = true → P (listI x e) = false := by
    intro s
    induction s with
    | zero => exact ⟨grows_list .., hall, fun x h => absurd h (by omega)⟩
    | succ s ih =>
      obtain ⟨i1, i2, i3⟩ := ih
      rw [bestS_next]
      by_cases hc : (shortB (listI (s : Nat) e) (bestS e P s) && P (listI (s : Nat) e)) = true
      · rw [if_pos hc]
        rw [Bool.and_eq_true] at hc
        refine ⟨grows_list .., hc.2, fun x hx hsh => ?_⟩
        by_cases e1 : x = s
        · subst e1
          rw [shortB_irr] at hsh
          cases hsh
        · exact i3 x (by omega) (shortB_trans hsh hc.1)
      · rw [if_neg hc]
        refine ⟨i1, i2, fun x hx hsh => ?_⟩
        by_cases e1 : x = s
        · subst e1
          rw [hsh, Bool.true_and] at hc
          simpa using hc
        · exact i3 x (by omega) hsh
  obtain ⟨g1, g2, g3⟩ := first_facts (e := e) (P := P) ⟨_, grows_list .., list_len .., hall⟩
  obtain ⟨i1, i2, i3⟩ := hinv (2 ^ e)
  refine shortB_total ?_ ?_
  · rw [Bool.eq_false_iff]
    intro h
    rw [g3 _ i1 h] at i2
    cases i2
  · rw [Bool.eq_false_iff]
    intro h
    obtain ⟨s, hs, e1⟩ := grows_bits he g1
    rw [e1] at h
    have := i3 s hs h
    rw [← e1, g2] at this
    cases this
end Go.Proofs.YtefehlekneahmaaGreat.Ls
namespace Go.Proofs.YtefehlekneahmaaGreat.Mk
open Go.RowKit Ls
def okRows (b : MBook) : Prop := ∀ r ∈ b.makers, r.length = nK b ∧ ∀ x ∈ r, 1 ≤ x ∧ x ≤ 31
def okSeen (b : MBook) : Prop := ∀ m ∈ b.seen, (0 ≤ m.1 ∧ m.1 < (nK b : Int)) ∧ 1 ≤ m.2 ∧ m.2 ≤ 31
/-- All but how many marks there are. -/
def okC (b : MBook) : Prop := (1 ≤ b.makers.length ∧ b.makers.length ≤ 5) ∧ (1 ≤ nK b ∧ nK b ≤ 6) ∧ okRows b ∧ okSeen b ∧ (0 ≤ b.repairs ∧ b.repairs ≤ (nK b : Int)) ∧ 0 ≤ b.fixed ∧ b.fixed ≤ 2 ^ nK b - 1
instance (b : MBook) : Decidable (okRows b) := by unfold okRows; exact inferInstance
instance (b : MBook) : Decidable (okSeen b) := by unfold okSeen; exact inferInstance
instance (b : MBook) : Decidable (okC b) := by unfold okC; exact inferInstance
def okBook (b : MBook) : Prop := okC b ∧ b.seen.length ≤ 8
instance (b : MBook) : Decidable (okBook b) := by unfold okBook; exact inferInstance
theorem okC.row {b : MBook} (h : okC b) {m : Nat} (hm : m < b.makers.length) : b.makers[m].length = nK b ∧ ∀ x ∈ b.makers[m], 1 ≤ x ∧ x ≤ 31 := h.2.2.1 _ (List.getElem_mem hm)
theorem mk_get {b : MBook} {m k : Nat} (hm : m < b.makers.length) (hk : k < b.makers[m].length) : b.makers[m][k] = mkI b m k := by
  unfold mkI
  simp [List.getD_eq_getElem?_getD, List.getElem?_eq_getElem hm, List.getElem?_eq_getElem hk]
theorem okC.mk {b : MBook} (h : okC b) {m k : Nat} (hm : m < b.makers.length) (hk : k < nK b) : 1 ≤ mkN b m k ∧ mkN b m k ≤ 31 ∧ mkI b m k = (mkN b m k : Int) := by
  obtain ⟨h1, h2⟩ := h.row hm
  have hk2 : k < b.makers[m].length := by omega
  have := h2 _ (List.getElem_mem hk2)
  rw [mk_get hm hk2] at this
  unfold mkN
  omega
theorem okC.fix {b : MBook} (h : okC b) : b.fixed = (fixN b : Int) ∧ fixN b < 2 ^ nK b := by
  obtain ⟨-, -, -, -, -, h1, h2⟩ := h
  unfold fixN
  have e : ((2 : Int) ^ nK b) = ((2 ^ nK b : Nat) : Int) := by norm_cast
  omega
theorem pow_le64 {b : MBook} (h : okC b) : 2 ^ nK b ≤ 64 := Nat.pow_le_pow_right (n := 2) (by decide) h.2.1.2
theorem seen_le (b : MBook) (k : Nat) : seenN b k ≤ 31 := by
  have : seenN b k < 2 ^ 5 := Nat.lt_pow_two_of_testBit _ fun i hi => by
    rw [Bool.eq_false_iff]
    intro h
    have := (seen_bit.1 h).1
    omega
  omega
theorem own_le (b : MBook) (m k : Nat) : ownN b m k ≤ 31 := Nat.le_trans Nat.and_le_right (seen_le b k)
theorem val_le (b : MBook) (m c k : Nat) : valN b m c k ≤ 31 := by
  unfold valN
  split
  · exact seen_le b k
  · exact own_le b m k
theorem seen_out {b : MBook} (h : okC b) {k : Nat} (hk : nK b ≤ k) : seenN b k = 31 := by
  have : ∀ i, (seenN b k).testBit i = (31 : Nat).testBit i := fun i => by
    rw [Bool.eq_iff_iff, seen_bit, show (31 : Nat) = 2 ^ 5 - 1 by decide, Nat.testBit_two_pow_sub_one, decide_eq_true_eq]
    refine ⟨fun h => h.1, fun hi => ⟨hi, fun m hm he => ?_⟩⟩
    have := (h.2.2.2.1 m hm).1
    omega
  exact Nat.eq_of_testBit_eq this
theorem mk_31 {b : MBook} (h : okC b) {m k : Nat} (hm : m < b.makers.length) (hk : k < nK b) : mkN b m k &&& 31 = mkN b m k := by
  obtain ⟨-, h2, -⟩ := h.mk hm hk
  rw [show (31 : Nat) = 2 ^ 5 - 1 by decide, Nat.and_two_pow_sub_one_eq_mod]
  exact Nat.mod_eq_of_lt (by omega)
theorem all_seen {b : MBook} (h : okC b) (hs : ∀ k, k < nK b → seenN b k = 31) {m : Nat} (hm : m < b.makers.length) : possB b m = true := by
  rw [poss_eq]
  have hz : ∀ k, k < nK b → zeroB b m k = false := fun k hk => by
    obtain ⟨h1, -, -⟩ := h.mk hm hk
    refine decide_eq_false ?_
    unfold ownN
    rw [hs k hk, mk_31 h hm hk]
    omega
  refine ⟨List.all_eq_true.2 fun k hk => ?_, List.all_eq_true.2 fun k hk => ?_, ?_⟩
  · rw [hs k (List.mem_range.1 hk)]
    decide
  · rw [hz k (List.mem_range.1 hk)]
    rfl
  · have : zeros b m = 0 := by
      unfold zeros
      rw [List.length_eq_zero_iff, List.filter_eq_nil_iff]
      intro k hk
      rw [hz k (List.mem_range.1 hk)]
      decide
    rw [this]
    exact h.2.2.2.2.1.1
theorem mem_who {b : MBook} {m : Nat} : m ∈ whoL b ↔ m < b.makers.length ∧ possB b m = true := by
  unfold whoL
  rw [List.mem_filter, List.mem_range]
theorem who_len (b : MBook) : (whoL b).length ≤ b.makers.length := by
  unfold whoL
  exact Nat.le_trans (List.length_filter_le ..) (by simp)
theorem who_right {b : MBook} (h : whoL b ≠ []) : rightB b = true := by
  obtain ⟨m, l, e⟩ := List.exists_cons_of_ne_nil h
  have : m ∈ whoL b := by rw [e]; exact List.mem_cons_self ..
  exact (poss_eq.1 (mem_who.1 this).2).1
theorem all_who {b : MBook} (h : okC b) (hs : ∀ k, k < nK b → seenN b k = 31) : whoL b ≠ [] := by
  have : 0 ∈ whoL b := mem_who.2 ⟨by have := h.1; omega, all_seen h hs (by have := h.1; omega)⟩
  intro e
  rw [e] at this
  cases this
theorem okC.unseen {b : MBook} (h : okC b) (l : List (Int × Int)) (hl : ∀ m ∈ l, m ∈ b.seen) : okC { b with seen := l } := by
  obtain ⟨h1, h2, h3, h4, h5⟩ := h
  exact ⟨h1, h2, h3, fun m hm => h4 m (hl m hm), h5⟩
/-- A book without some marks. -/
def withoutL (b : MBook) (out : List Int) (j : Nat) : List (Int × Int) := ((List.range j).filter fun (i : Nat) => decide ((i : Int) ∉ out)).map fun i => b.seen.getD i (0, 0)
def withoutB (b : MBook) (out : List Int) : MBook := { b with seen := withoutL b out b.seen.length }
theorem without_mem {b : MBook} {out : List Int} {m : Int × Int} (h : m ∈ withoutL b out b.seen.length) : m ∈ b.seen := by
  unfold withoutL at h
  obtain ⟨i, hi, rfl⟩ := List.mem_map.1 h
  have := List.mem_range.1 (List.mem_filter.1 hi).1
  rw [List.getD_eq_getElem?_getD, List.getElem?_eq_getElem this]
  exact List.getElem_mem this
theorem okC.without {b : MBook} (h : okC b) (out : List Int) : okC (withoutB b out) := h.unseen _ fun _ hm => without_mem hm
theorem without_nil (b : MBook) : withoutB b [] = b := by
  unfold withoutB withoutL
  have : ((List.range b.seen.length).filter fun (i : Nat) => decide ((i : Int) ∉ ([] : List Int))).map (fun i => b.seen.getD i (0, 0)) = b.seen := by
    have e : (List.range b.seen.length).filter (fun (i : Nat) => decide ((i : Int) ∉ ([] : List Int))) = List.range b.seen.length := List.filter_eq_self.2 (by simp)
    rw [e]
    apply List.ext_getElem?
    intro i
    rw [List.getElem?_map]
    rcases Nat.lt_or_ge i b.seen.length with h | h
    · rw [List.getElem?_range h, List.getElem?_eq_getElem h]
      simp [List.getD_eq_getElem?_getD, List.getElem?_eq_getElem h]
    · rw [List.getElem?_eq_none (show (List.range b.seen.length).length ≤ i by simpa using h), List.getElem?_eq_none h]
      rfl
  rw [this]
def wrongP (b : MBook) (out : List Int) : Bool := decide (whoL (withoutB b out) ≠ [])
def wrongI (b : MBook) : List Int := firstL b.seen.length (wrongP b)
theorem wrong_all {b : MBook} (h : okC b) {out : List Int} (ho : ∀ i : Nat, i < b.seen.length → (i : Int) ∈ out) : wrongP b out = true := by
  have hn : withoutL b out b.seen.length = [] := by
    unfold withoutL
    rw [List.map_eq_nil_iff, List.filter_eq_nil_iff]
    intro i hi
    simpa using ho i (List.mem_range.1 hi)
  refine decide_eq_true (all_who (h.without out) fun k hk => ?_)
  show seenL (withoutL b out b.seen.length) k = 31
  rw [hn]
  rfl
theorem wrong_facts {b : MBook} (h : okC b) (h8 : b.seen.length ≤ 64) : growsI (wrongI b) b.seen.length ∧ wrongP b (wrongI b) = true ∧ ∀ l, growsI l b.seen.length → shortB l (wrongI b) = true → wrongP b l = false :=
  first_facts ⟨_, grows_list .., list_len .., wrong_all h fun _ hi => full_mem h8 hi⟩
theorem wrong_nil {b : MBook} (h : okC b) (h8 : b.seen.length ≤ 64) : wrongI b = [] ↔ whoL b ≠ [] := by
  obtain ⟨h1, h2, h3⟩ := wrong_facts h h8
  have e : wrongP b [] = decide (whoL b ≠ []) := by unfold wrongP; rw [without_nil]
  constructor
  · intro hn
    rw [hn, e] at h2
    exact of_decide_eq_true h2
  · intro hw
    cases hl : wrongI b with
    | nil => rfl
    | cons x l =>
      have := h3 [] ⟨by simp [incL], by simp⟩ (by rw [hl]; simp [shortB])
      rw [e, decide_eq_true hw] at this
      cases this
/-- How many makers are possible, at the worst, once the value of a kind is known. -/
def worstN (b : MBook) (k : Nat) : Nat := (valuesL b k).foldl (fun m v => max m (whoL (knowB b k v)).length) 0
def lookN (b : MBook) : Nat := (List.range (nK b)).foldl (fun best k => if worstN b k < worstN b best then k else best) 0
theorem look_inv (f : Nat → Nat) : ∀ n, 1 ≤ n → (List.range n).foldl (fun best k => if f k < f best then k else best) 0 < n ∧ ∀ k, k < n → f ((List.range n).foldl (fun best k => if f k < f best then k else best) 0) < f k ∨ f ((List.range n).foldl (fun best k => if f k < f best then k else best) 0) = f k ∧ (List.range n).foldl (fun best k => if f k < f best then k else best) 0 ≤ k
  | 0, h => absurd h (by omega)
  | 1, _ => by
    simp only [List.range, List.range.loop, List.foldl]
    rw [if_neg (by omega)]
    exact ⟨by omega, fun k hk => .inr ⟨by rw [show k = 0 by omega], by omega⟩⟩
  | n + 2, _ => by
    obtain ⟨h1, h2⟩ := look_inv f (n + 1) (by omega)
    rw [List.range_succ, List.foldl_append]
    simp only [List.foldl]
    generalize (List.range (n + 1)).foldl (fun best k => if f k < f best then k else best) 0 = B at h1 h2
    by_cases hc : f (n + 1) < f B
    · rw [if_pos hc]
      refine ⟨by omega, fun k hk => ?_⟩
      by_cases e : k = n + 1
      · subst e
        exact .inr ⟨rfl, by omega⟩
      · rcases h2 k (by omega) with h | ⟨h, -⟩
        · exact .inl (by omega)
        · exact .inl (by omega)
    · rw [if_neg hc]
      refine ⟨by omega, fun k hk => ?_⟩
      by_cases e : k = n + 1
      · subst e
        rcases Nat.lt_or_ge (f B) (f (n + 1)) with h | h
        · exact .inl h
        · exact .inr ⟨by omega, by omega⟩
      · exact h2 k (by omega)
theorem look_facts {b : MBook} (h : okC b) : lookN b < nK b ∧ ∀ k, k < nK b → worstN b (lookN b) < worstN b k ∨ worstN b (lookN b) = worstN b k ∧ lookN b ≤ k := look_inv (worstN b) (nK b) h.2.1.1
end Go.Proofs.YtefehlekneahmaaGreat.Mk
namespace Go.Proofs.YtefehlekneahmaaGreat.Mk
open Go.RowKit
def ac165 : AC := (AC.seq (AC.ops [(AOp.mk (some 6) (AK.mv (AX.c (PV.val (Value.bool false)))) none 0 false true)]) (AC.seq (AC.ops [(AOp.mk (some 7) (AK.mv (AX.t 1)) none 0 false true), (AOp.mk (some 8) (AK.mv (AX.t 0)) none 1 false true), (AOp.mk (some 9) (AK.bin false BinOp.leq (AX.t 7) (AX.t 8)) none 2 false true), (AOp.mk (some 10) (AK.mv (AX.t 9)) none 3 false true), (AOp.mk (some 11) (AK.mv (AX.t 0)) (some (10, true)) 4 false true), (AOp.mk (some 12) (AK.mv (AX.t 2)) (some (10, true)) 5 false true), (AOp.mk (some 13) (AK.bin false BinOp.leq (AX.t 11) (AX.t 12)) (some (10, true)) 6 false true), (AOp.mk (some 14) (AK.pick (AX.t 10) (AX.t 13) (AX.c (PV.val (Value.bool false)))) none 7 false true), (AOp.mk (some 6) (AK.mv (AX.t 14)) none 8 false true)]) AC.ret))
theorem ac165_ok : cCode Tryz.prog (fun _ => false) Tryz.f165.ntmps (Tryz.f165.body.getD .skip) = some ac165 := by kernel_rfl
def ac192 : AC := (AC.seq (AC.ops [(AOp.mk (some 2) (AK.mv (AX.c (PV.val (Value.bool false)))) none 0 false true)]) (AC.seq (AC.ops [(AOp.mk (some 3) (AK.mv (AX.t 0)) none 0 false true), (AOp.mk (some 4) (AK.call 165 [(AX.t 3), (AX.c (PV.val (Value.int IntKind.i64 1))), (AX.c (PV.val (Value.int IntKind.i64 31)))]) none 1 false true), (AOp.mk (some 2) (AK.mv (AX.t 4)) none 2 false true)]) AC.ret))
theorem ac192_ok : cCode Tryz.prog (fun _ => false) Tryz.f192.ntmps (Tryz.f192.body.getD .skip) = some ac192 := by kernel_rfl
def ac190 : AC := (AC.seq (AC.ops [(AOp.mk (some 1) (AK.box 4 (AX.t 0)) none 0 false true), (AOp.mk (some 2) (AK.mv (AX.c (PV.val (Value.int IntKind.i64 0)))) none 1 false true)]) (AC.seq (AC.seq (AC.ops [(AOp.mk (some 3) (AK.fadr 0 (AX.t 1)) none 0 false true), (AOp.mk (some 4) (AK.ld none (AX.t 3)) none 1 false true), (AOp.mk (some 5) (AK.len (AX.t 4)) none 2 false true), (AOp.mk (some 6) (AK.bin false BinOp.eql (AX.t 5) (AX.c (PV.val (Value.int IntKind.i64 0)))) none 3 false true)]) (AC.cond (AX.t 6) (AC.seq (AC.ops [(AOp.mk (some 2) (AK.mv (AX.c (PV.val (Value.int IntKind.i64 0)))) none 0 false true)]) AC.ret) AC.skip)) (AC.seq (AC.ops [(AOp.mk (some 7) (AK.fadr 0 (AX.t 1)) none 0 false true), (AOp.mk (some 8) (AK.ld none (AX.t 7)) none 1 false true), (AOp.mk (some 9) (AK.iadrS 1 (AX.t 8) (AX.c (PV.val (Value.int IntKind.i64 0)))) none 2 false true), (AOp.mk (some 10) (AK.ld none (AX.t 9)) none 3 false true), (AOp.mk (some 11) (AK.len (AX.t 10)) none 4 false true), (AOp.mk (some 2) (AK.mv (AX.t 11)) none 5 false true)]) AC.ret)))
theorem ac190_ok : cCode Tryz.prog (fun _ => false) Tryz.f190.ntmps (Tryz.f190.body.getD .skip) = some ac190 := by kernel_rfl
def ac191 : AC := (AC.seq (AC.ops [(AOp.mk (some 2) (AK.box 4 (AX.t 0)) none 0 false true), (AOp.mk (some 4) (AK.mv (AX.c (PV.val (Value.bool false)))) none 1 false true)]) (AC.seq (AC.seq (AC.ops [(AOp.mk (some 7) (AK.mv (AX.t 1)) none 0 false true), (AOp.mk (some 8) (AK.len (AX.t 7)) none 1 false true), (AOp.mk (some 9) (AK.ld (some 4) (AX.t 2)) none 2 false true), (AOp.mk (some 10) (AK.call 190 [(AX.t 9)]) none 3 false true), (AOp.mk (some 11) (AK.bin false BinOp.neq (AX.t 8) (AX.t 10)) none 4 false true)]) (AC.cond (AX.t 11) (AC.seq (AC.ops [(AOp.mk (some 4) (AK.mv (AX.c (PV.val (Value.bool false)))) none 0 false true)]) AC.ret) AC.skip)) (AC.seq (AC.seq (AC.ops [(AOp.mk (some 12) (AK.mv (AX.t 1)) none 0 false true), (AOp.mk (some 13) (AK.len (AX.t 12)) none 1 false true), (AOp.mk (some 14) (AK.mv (AX.c (PV.val (Value.int IntKind.i64 0)))) none 2 false true)]) (AC.block 0 (AC.loop (AC.seq (AC.ops [(AOp.mk (some 15) (AK.bin false BinOp.lss (AX.t 14) (AX.t 13)) none 0 false true)]) (AC.seq (AC.cond (AX.t 15) AC.skip (AC.exit 0)) (AC.seq (AC.block 1 (AC.seq (AC.ops [(AOp.mk (some 16) (AK.iadrS 1 (AX.t 12) (AX.t 14)) none 0 false true), (AOp.mk (some 17) (AK.ld none (AX.t 16)) none 1 false true), (AOp.mk (some 6) (AK.mv (AX.t 17)) none 2 false true)]) (AC.seq (AC.ops [(AOp.mk (some 18) (AK.mv (AX.t 6)) none 0 false true), (AOp.mk (some 19) (AK.call 192 [(AX.t 18)]) none 1 false true), (AOp.mk (some 20) (AK.un UnOp.not (AX.t 19)) none 2 false true)]) (AC.cond (AX.t 20) (AC.seq (AC.ops [(AOp.mk (some 4) (AK.mv (AX.c (PV.val (Value.bool false)))) none 0 false true)]) AC.ret) AC.skip)))) (AC.ops [(AOp.mk (some 21) (AK.bin false BinOp.add (AX.t 14) (AX.c (PV.val (Value.int IntKind.i64 1)))) none 0 false true), (AOp.mk (some 14) (AK.mv (AX.t 21)) none 1 false true)]))))))) (AC.seq (AC.ops [(AOp.mk (some 4) (AK.mv (AX.c (PV.val (Value.bool true)))) none 0 false true)]) AC.ret))))
theorem ac191_ok : cCode Tryz.prog (fun _ => false) Tryz.f191.ntmps (Tryz.f191.body.getD .skip) = some ac191 := by kernel_rfl
def ac139 : AC := (AC.seq (AC.ops [(AOp.mk (some 1) (AK.box 4 (AX.t 0)) none 0 false true), (AOp.mk (some 2) (AK.mv (AX.c (PV.val (Value.bool false)))) none 1 false true)]) (AC.seq (AC.seq (AC.ops [(AOp.mk (some 7) (AK.fadr 0 (AX.t 1)) none 0 false true), (AOp.mk (some 8) (AK.ld none (AX.t 7)) none 1 false true), (AOp.mk (some 9) (AK.len (AX.t 8)) none 2 false true), (AOp.mk (some 10) (AK.call 165 [(AX.t 9), (AX.c (PV.val (Value.int IntKind.i64 1))), (AX.c (PV.val (Value.int IntKind.i64 5)))]) none 3 false true), (AOp.mk (some 11) (AK.un UnOp.not (AX.t 10)) none 4 false true), (AOp.mk (some 12) (AK.mv (AX.t 11)) none 5 false true), (AOp.mk (some 13) (AK.ld (some 4) (AX.t 1)) (some (12, false)) 6 false true), (AOp.mk (some 14) (AK.call 190 [(AX.t 13)]) (some (12, false)) 7 false true), (AOp.mk (some 15) (AK.call 165 [(AX.t 14), (AX.c (PV.val (Value.int IntKind.i64 1))), (AX.c (PV.val (Value.int IntKind.i64 6)))]) (some (12, false)) 8 false true), (AOp.mk (some 16) (AK.un UnOp.not (AX.t 15)) (some (12, false)) 9 false true), (AOp.mk (some 17) (AK.pick (AX.t 12) (AX.c (PV.val (Value.bool true))) (AX.t 16)) none 10 false true), (AOp.mk (some 18) (AK.mv (AX.t 17)) none 11 false true), (AOp.mk (some 19) (AK.fadr 1 (AX.t 1)) (some (18, false)) 12 false true), (AOp.mk (some 20) (AK.ld none (AX.t 19)) (some (18, false)) 13 false true), (AOp.mk (some 21) (AK.len (AX.t 20)) (some (18, false)) 14 false true), (AOp.mk (some 22) (AK.bin false BinOp.gtr (AX.t 21) (AX.c (PV.val (Value.int IntKind.i64 8)))) (some (18, false)) 15 false true), (AOp.mk (some 23) (AK.pick (AX.t 18) (AX.c (PV.val (Value.bool true))) (AX.t 22)) none 16 false true)]) (AC.cond (AX.t 23) (AC.seq (AC.ops [(AOp.mk (some 2) (AK.mv (AX.c (PV.val (Value.bool false)))) none 0 false true)]) AC.ret) AC.skip)) (AC.seq (AC.seq (AC.ops [(AOp.mk (some 24) (AK.fadr 0 (AX.t 1)) none 0 false true), (AOp.mk (some 25) (AK.ld none (AX.t 24)) none 1 false true), (AOp.mk (some 26) (AK.len (AX.t 25)) none 2 false true), (AOp.mk (some 27) (AK.mv (AX.c (PV.val (Value.int IntKind.i64 0)))) none 3 false true)]) (AC.block 0 (AC.loop (AC.seq (AC.ops [(AOp.mk (some 28) (AK.bin false BinOp.lss (AX.t 27) (AX.t 26)) none 0 false true)]) (AC.seq (AC.cond (AX.t 28) AC.skip (AC.exit 0)) (AC.seq (AC.block 1 (AC.seq (AC.ops [(AOp.mk (some 29) (AK.iadrS 1 (AX.t 25) (AX.t 27)) none 0 false true), (AOp.mk (some 30) (AK.ld none (AX.t 29)) none 1 false true), (AOp.mk (some 4) (AK.mv (AX.t 30)) none 2 false true)]) (AC.seq (AC.ops [(AOp.mk (some 31) (AK.ld (some 4) (AX.t 1)) none 0 false true), (AOp.mk (some 32) (AK.mv (AX.t 4)) none 1 false true), (AOp.mk (some 33) (AK.call 191 [(AX.t 31), (AX.t 32)]) none 2 false true), (AOp.mk (some 34) (AK.un UnOp.not (AX.t 33)) none 3 false true)]) (AC.cond (AX.t 34) (AC.seq (AC.ops [(AOp.mk (some 2) (AK.mv (AX.c (PV.val (Value.bool false)))) none 0 false true)]) AC.ret) AC.skip)))) (AC.ops [(AOp.mk (some 35) (AK.bin false BinOp.add (AX.t 27) (AX.c (PV.val (Value.int IntKind.i64 1)))) none 0 false true), (AOp.mk (some 27) (AK.mv (AX.t 35)) none 1 false true)]))))))) (AC.seq (AC.seq (AC.ops [(AOp.mk (some 36) (AK.fadr 1 (AX.t 1)) none 0 false true), (AOp.mk (some 37) (AK.ld none (AX.t 36)) none 1 false true), (AOp.mk (some 38) (AK.len (AX.t 37)) none 2 false true), (AOp.mk (some 39) (AK.mv (AX.c (PV.val (Value.int IntKind.i64 0)))) none 3 false true)]) (AC.block 2 (AC.loop (AC.seq (AC.ops [(AOp.mk (some 40) (AK.bin false BinOp.lss (AX.t 39) (AX.t 38)) none 0 false true)]) (AC.seq (AC.cond (AX.t 40) AC.skip (AC.exit 2)) (AC.seq (AC.block 3 (AC.seq (AC.ops [(AOp.mk (some 41) (AK.iadrS 2 (AX.t 37) (AX.t 39)) none 0 false true), (AOp.mk (some 42) (AK.ld (some 2) (AX.t 41)) none 1 false true), (AOp.mk (some 6) (AK.new (PV.agg [(PV.val (Value.int IntKind.i64 0)), (PV.val (Value.int IntKind.i64 0))])) none 2 false true), (AOp.mk none (AK.st 2 (AX.t 6) (AX.t 42)) none 3 false true)]) (AC.seq (AC.ops [(AOp.mk (some 43) (AK.ld (some 4) (AX.t 1)) none 0 false true), (AOp.mk (some 44) (AK.fadr 0 (AX.t 6)) none 1 false true), (AOp.mk (some 45) (AK.ld none (AX.t 44)) none 2 false true), (AOp.mk (some 46) (AK.call 140 [(AX.t 43), (AX.t 45)]) none 3 false true), (AOp.mk (some 47) (AK.un UnOp.not (AX.t 46)) none 4 false true), (AOp.mk (some 48) (AK.mv (AX.t 47)) none 5 false true), (AOp.mk (some 49) (AK.fadr 1 (AX.t 6)) (some (48, false)) 6 false true), (AOp.mk (some 50) (AK.ld none (AX.t 49)) (some (48, false)) 7 false true), (AOp.mk (some 51) (AK.call 192 [(AX.t 50)]) (some (48, false)) 8 false true), (AOp.mk (some 52) (AK.un UnOp.not (AX.t 51)) (some (48, false)) 9 false true), (AOp.mk (some 53) (AK.pick (AX.t 48) (AX.c (PV.val (Value.bool true))) (AX.t 52)) none 10 false true)]) (AC.cond (AX.t 53) (AC.seq (AC.ops [(AOp.mk (some 2) (AK.mv (AX.c (PV.val (Value.bool false)))) none 0 false true)]) AC.ret) AC.skip)))) (AC.ops [(AOp.mk (some 54) (AK.bin false BinOp.add (AX.t 39) (AX.c (PV.val (Value.int IntKind.i64 1)))) none 0 false true), (AOp.mk (some 39) (AK.mv (AX.t 54)) none 1 false true)]))))))) (AC.seq (AC.ops [(AOp.mk (some 55) (AK.fadr 2 (AX.t 1)) none 0 true false), (AOp.mk (some 56) (AK.ld none (AX.t 55)) none 1 true false), (AOp.mk (some 57) (AK.ld (some 4) (AX.t 1)) none 2 true false), (AOp.mk (some 58) (AK.call 190 [(AX.t 57)]) none 3 false false), (AOp.mk (some 59) (AK.call 165 [(AX.t 56), (AX.c (PV.val (Value.int IntKind.i64 0))), (AX.t 58)]) none 4 false true), (AOp.mk (some 60) (AK.mv (AX.t 59)) none 5 true true), (AOp.mk (some 61) (AK.fadr 3 (AX.t 1)) (some (60, true)) 6 true false), (AOp.mk (some 62) (AK.ld none (AX.t 61)) (some (60, true)) 7 true false), (AOp.mk (some 63) (AK.ld (some 4) (AX.t 1)) (some (60, true)) 8 true false), (AOp.mk (some 64) (AK.call 190 [(AX.t 63)]) (some (60, true)) 9 false false), (AOp.mk (some 65) (AK.bin false BinOp.shl (AX.c (PV.val (Value.int IntKind.i64 1))) (AX.t 64)) (some (60, true)) 10 true false), (AOp.mk (some 66) (AK.bin false BinOp.sub (AX.t 65) (AX.c (PV.val (Value.int IntKind.i64 1)))) (some (60, true)) 11 true false), (AOp.mk (some 67) (AK.call 165 [(AX.t 62), (AX.c (PV.val (Value.int IntKind.i64 0))), (AX.t 66)]) (some (60, true)) 12 false true), (AOp.mk (some 68) (AK.pick (AX.t 60) (AX.t 67) (AX.c (PV.val (Value.bool false)))) none 13 true true), (AOp.mk (some 2) (AK.mv (AX.t 68)) none 14 true true)]) AC.ret)))))
theorem ac139_ok : cCode Tryz.prog (fun _ => false) Tryz.f139.ntmps (Tryz.f139.body.getD .skip) = some ac139 := by kernel_rfl
def ac96 : AC := (AC.seq (AC.ops [(AOp.mk (some 1) (AK.box 4 (AX.t 0)) none 0 false true), (AOp.mk (some 2) (AK.mv (AX.c (PV.val (Value.int IntKind.i64 0)))) none 1 false true)]) (AC.seq (AC.seq (AC.ops [(AOp.mk (some 3) (AK.ld (some 4) (AX.t 1)) none 0 false true), (AOp.mk (some 4) (AK.call 139 [(AX.t 3)]) none 1 false true), (AOp.mk (some 5) (AK.un UnOp.not (AX.t 4)) none 2 false true)]) (AC.cond (AX.t 5) (AC.seq (AC.ops [(AOp.mk (some 2) (AK.mv (AX.c (PV.val (Value.int IntKind.i64 50)))) none 0 false true)]) AC.ret) AC.skip)) (AC.seq (AC.ops [(AOp.mk (some 2) (AK.mv (AX.c (PV.val (Value.int IntKind.i64 0)))) none 0 false true)]) AC.ret)))
theorem ac96_ok : cCode Tryz.prog (fun _ => false) Tryz.f96.ntmps (Tryz.f96.body.getD .skip) = some ac96 := by kernel_rfl
def ac115 : AC := (AC.seq (AC.ops [(AOp.mk (some 2) (AK.box 4 (AX.t 0)) none 0 false true), (AOp.mk (some 4) (AK.mv (AX.c (PV.val (Value.bool false)))) none 1 false true)]) (AC.seq (AC.ops [(AOp.mk (some 5) (AK.mv (AX.t 1)) none 0 false true), (AOp.mk (some 6) (AK.fadr 0 (AX.t 2)) none 1 false true), (AOp.mk (some 7) (AK.ld none (AX.t 6)) none 2 false true), (AOp.mk (some 8) (AK.len (AX.t 7)) none 3 false true), (AOp.mk (some 9) (AK.bin false BinOp.sub (AX.t 8) (AX.c (PV.val (Value.int IntKind.i64 1)))) none 4 false true), (AOp.mk (some 10) (AK.call 165 [(AX.t 5), (AX.c (PV.val (Value.int IntKind.i64 0))), (AX.t 9)]) none 5 false true), (AOp.mk (some 4) (AK.mv (AX.t 10)) none 6 false true)]) AC.ret))
theorem ac115_ok : cCode Tryz.prog (fun _ => false) Tryz.f115.ntmps (Tryz.f115.body.getD .skip) = some ac115 := by kernel_rfl
def ac140 : AC := (AC.seq (AC.ops [(AOp.mk (some 2) (AK.box 4 (AX.t 0)) none 0 false true), (AOp.mk (some 4) (AK.mv (AX.c (PV.val (Value.bool false)))) none 1 false true)]) (AC.seq (AC.ops [(AOp.mk (some 5) (AK.mv (AX.t 1)) none 0 false true), (AOp.mk (some 6) (AK.ld (some 4) (AX.t 2)) none 1 false true), (AOp.mk (some 7) (AK.call 190 [(AX.t 6)]) none 2 false true), (AOp.mk (some 8) (AK.bin false BinOp.sub (AX.t 7) (AX.c (PV.val (Value.int IntKind.i64 1)))) none 3 false true), (AOp.mk (some 9) (AK.call 165 [(AX.t 5), (AX.c (PV.val (Value.int IntKind.i64 0))), (AX.t 8)]) none 4 false true), (AOp.mk (some 4) (AK.mv (AX.t 9)) none 5 false true)]) AC.ret))
theorem ac140_ok : cCode Tryz.prog (fun _ => false) Tryz.f140.ntmps (Tryz.f140.body.getD .skip) = some ac140 := by kernel_rfl
abbrev rowsC (hs : List (List Int)) : List (List PV) := hs.map fun h => [pis h]
abbrev seenC (l : List (Int × Int)) : List (List PV) := l.map fun m => [pi m.1, pi m.2]
abbrev bookC (k k2 : SK) (b : MBook) : List PV := [.sl k 1 (rowsC b.makers), .sl k2 2 (seenC b.seen), pi b.repairs, pi b.fixed]
theorem within_sem (n a b : Int) : Sem1 165 [pi n, pi a, pi b] (pb (decide (a ≤ n ∧ n ≤ b))) := by
  refine semC_of_exec' mixed Tryz.func165 (by kernel_rfl) (by kernel_rfl) ac165_ok 3 rfl (by decide) [(.tmp 6)] (by kernel_rfl) ?_
  intro hr C hC hI
  unfold ac165
  simp only [go_sem, Nat.reduceBEq, Nat.reduceAdd]
  exact ⟨fun h => retQ_one rfl (by simp [h]), fun h => retQ_one rfl (by simp [h])⟩
theorem isValues_sem (n : Int) : Sem1 192 [pi n] (pb (decide (1 ≤ n ∧ n ≤ 31))) := by
  refine semC_of_exec' mixed Tryz.func192 (by kernel_rfl) (by kernel_rfl) ac192_ok 1 rfl (by decide) [(.tmp 2)] (by kernel_rfl) ?_
  intro hr C hC hI
  unfold ac192
  simp only [go_sem, Nat.reduceBEq]
  refine call_pure2 hC (within_sem ..) rfl (PVleL_refl _) ?_
  rintro r rfl
  simp only [go_sem, Nat.reduceBEq]
  exact retQ_one rfl rfl
theorem kindsOf_sem (k k2 : SK) (b : MBook) : Sem1 190 [.agg (bookC k k2 b)] (pi (nK b)) := by
  cases hm : b.makers with
  | nil =>
    refine semC_of_exec' mixed Tryz.func190 (by kernel_rfl) (by kernel_rfl) ac190_ok 1 rfl (by decide) [(.tmp 2)] (by kernel_rfl) ?_
    intro hr C hC hI
    unfold ac190
    simp only [go_sem, Nat.reduceBEq, Nat.reduceAdd, hm, List.length_nil, List.map_nil, Int.natCast_zero, decide_true]
    refine retQ_one rfl ?_
    unfold nK
    rw [hm]
    rfl
  | cons r l =>
    have e0 := iadr_map (f := fun h => [pis h]) (kd := k) (sz := 1) (l := r :: l) (k := 0) (by simp)
    refine semC_of_exec' mixed Tryz.func190 (by kernel_rfl) (by kernel_rfl) ac190_ok 1 rfl (by decide) [(.tmp 2)] (by kernel_rfl) ?_
    intro hr C hC hI
    unfold ac190
    simp only [go_sem, Nat.reduceBEq, Nat.reduceAdd, hm, List.length_map, List.length_cons]
    refine ⟨fun h => absurd h (by omega), fun _ => ?_⟩
    simp only [go_sem, show (0 : Int) = ((0 : Nat) : Int) from rfl]
    refine retQ_one rfl ?_
    rw [List.length_map]
    unfold nK
    rw [hm]
    rfl
theorem take_all {l : List Int} {P : Int → Prop} {j : Nat} (hj : j < l.length) (h1 : ∀ x ∈ l.take j, P x) (h2 : P l[j]) : ∀ x ∈ l.take (j + 1), P x := by
  intro x hx
  rw [List.take_succ_eq_append_getElem hj, List.mem_append, List.mem_singleton] at hx
  rcases hx with hx | rfl
  · exact h1 x hx
  · exact h2
theorem take_allG {α : Type} {l : List α} {P : α → Prop} {j : Nat} (hj : j < l.length) (h1 : ∀ x ∈ l.take j, P x) (h2 : P l[j]) : ∀ x ∈ l.take (j + 1), P x := by
  intro x hx
  rw [List.take_succ_eq_append_getElem hj, List.mem_append, List.mem_singleton] at hx
  rcases hx with hx | rfl
  · exact h1 x hx
  · exact h2
def okRow (b : MBook) (r : List Int) : Prop := r.length = nK b ∧ ∀ x ∈ r, 1 ≤ x ∧ x ≤ 31
instance (b : MBook) (r : List Int) : Decidable (okRow b r) := by unfold okRow; exact inferInstance
theorem validMaker_sem (k k2 : SK) (b : MBook) (r : List Int) : Sem1 191 [.agg (bookC k k2 b), pis r] (pb (decide (okRow b r))) := by
  refine semC_of_exec' mixed Tryz.func191 (by kernel_rfl) (by kernel_rfl) ac191_ok 2 rfl (by decide) [(.tmp 4)] (by kernel_rfl) ?_
  intro hr C hC hI
  unfold ac191
  simp only [go_sem, Nat.reduceBEq, Nat.reduceAdd, List.length_map]
  have hlen := real_len (i := 1) hr rfl
  rw [List.length_map] at hlen
  refine call_pure2 hC (kindsOf_sem k k2 b) rfl (PVleL_refl _) ?_
  rintro r rfl
  simp only [go_sem, Nat.reduceBEq, List.length_map]
  refine ⟨fun h => ?_, fun h => ?_⟩
  · have : ¬ okRow b r := fun ho => h (by have := ho.1; omega)
    rw [decide_eq_false this]
    exact retQ_one rfl rfl
  have hl : r.length = nK b := by omega
  refine loop_k r.length (fun j => ∀ x ∈ r.take j, 1 ≤ x ∧ x ≤ 31) [12, 13] (fun j => [(14, .p (pi j))]) (by simp) rfl ⟨rfl, by simp, by simp⟩ (by simp [wkT, look, AV.lo]) ?_
  rintro j ⟨hj, hok⟩
  simp only [go_sem, Nat.reduceBEq]
  refine ⟨fun h5 => ?_, fun h5 => ?_⟩
  · have hj2 : j < r.length := by omega
    simp only [go_sem, Nat.reduceBEq, iadr_pis hj2]
    refine call_pure2 hC (isValues_sem ..) rfl (PVleL_refl _) ?_
    rintro r rfl
    simp only [go_sem, Nat.reduceBEq]
    refine ⟨fun h7 => ?_, fun h7 => ?_⟩
    · have : ¬ okRow b r := fun ho => absurd (ho.2 _ (List.getElem_mem hj2)) (by simpa using h7)
      rw [decide_eq_false this]
      exact retQ_one rfl rfl
    · have h8 : 1 ≤ r[j] ∧ r[j] ≤ 31 := by simpa using h7
      simp only [go_sem, wrap_succ (k := j) (by omega)]
      exact ⟨⟨j + 1, hj2, take_all hj2 hok h8⟩, by simp only; omega, by simp [Wk, wkT, wkL, look, AV.lo, AV.lo.loL, ABlk.toZ]⟩
  · have hjn : j = r.length := by omega
    subst hjn
    rw [List.take_length] at hok
    rw [decide_eq_true (show okRow b r from ⟨hl, hok⟩)]
    exact retQ_one rfl rfl
theorem hasMaker_sem (k k2 : SK) (b : MBook) (n : Int) (hl : b.makers.length ≤ 140737488355328) : Sem1 115 [.agg (bookC k k2 b), pi n] (pb (decide (0 ≤ n ∧ n < b.makers.length))) := by
  refine semC_of_exec' mixed Tryz.func115 (by kernel_rfl) (by kernel_rfl) ac115_ok 2 rfl (by decide) [(.tmp 4)] (by kernel_rfl) ?_
  intro hr C hC hI
  unfold ac115
  simp only [go_sem, Nat.reduceBEq, Nat.reduceAdd, List.length_map]
  refine call_pure2 hC (within_sem ..) rfl (PVleL_refl _) ?_
  rintro r rfl
  simp only [go_sem, Nat.reduceBEq]
  refine retQ_one rfl ?_
  rw [wrap_id (n := (b.makers.length : Int) - 1) (by omega) (by omega), show (decide (0 ≤ n ∧ n ≤ (b.makers.length : Int) - 1)) = decide (0 ≤ n ∧ n < b.makers.length) from decide_eq_decide.2 (by omega)]
theorem hasKind_sem (k k2 : SK) (b : MBook) (n : Int) (hl : nK b ≤ 140737488355328) : Sem1 140 [.agg (bookC k k2 b), pi n] (pb (decide (0 ≤ n ∧ n < (nK b : Int)))) := by
  refine semC_of_exec' mixed Tryz.func140 (by kernel_rfl) (by kernel_rfl) ac140_ok 2 rfl (by decide) [(.tmp 4)] (by kernel_rfl) ?_
  intro hr C hC hI
  unfold ac140
  simp only [go_sem, Nat.reduceBEq, Nat.reduceAdd]
  refine call_pure2 hC (kindsOf_sem ..) rfl (PVleL_refl _) ?_
  rintro r rfl
  simp only [go_sem, Nat.reduceBEq]
  refine call_pure2 hC (within_sem ..) rfl (PVleL_refl _) ?_
  rintro r rfl
  simp only [go_sem, Nat.reduceBEq]
  refine retQ_one rfl ?_
  rw [wrap_id (n := (nK b : Int) - 1) (by omega) (by omega), show (decide (0 ≤ n ∧ n ≤ (nK b : Int) - 1)) = decide (0 ≤ n ∧ n < (nK b : Int)) from decide_eq_decide.2 (by omega)]
theorem shl6 {m : Nat} (h : m ≤ 8) : IntKind.i64.wrap (1 * 2 ^ (min (m : Int).toNat 64)) = ((2 ^ m : Nat) : Int) := by
  have : m = 0 ∨ m = 1 ∨ m = 2 ∨ m = 3 ∨ m = 4 ∨ m = 5 ∨ m = 6 ∨ m = 7 ∨ m = 8 := by omega
  rcases this with rfl | rfl | rfl | rfl | rfl | rfl | rfl | rfl | rfl <;> decide
theorem shl6m {m : Nat} (h : m ≤ 8) : IntKind.i64.wrap (((2 ^ m : Nat) : Int) - 1) = ((2 ^ m : Nat) : Int) - 1 := by
  have : m = 0 ∨ m = 1 ∨ m = 2 ∨ m = 3 ∨ m = 4 ∨ m = 5 ∨ m = 6 ∨ m = 7 ∨ m = 8 := by omega
  rcases this with rfl | rfl | rfl | rfl | rfl | rfl | rfl | rfl | rfl <;> decide
def okMark (b : MBook) (m : Int × Int) : Prop := (0 ≤ m.1 ∧ m.1 < (nK b : Int)) ∧ 1 ≤ m.2 ∧ m.2 ≤ 31
instance (b : MBook) (m : Int × Int) : Decidable (okMark b m) := by unfold okMark; exact inferInstance
theorem validBook_sem (k k2 : SK) (b : MBook) : Sem1 139 [.agg (bookC k k2 b)] (pb (decide (okBook b))) := by
  by_cases c1 : (1 : Int) ≤ b.makers.length ∧ (b.makers.length : Int) ≤ 5
  rotate_left
  · rw [decide_eq_false (fun h : okBook b => c1 (by have := h.1.1; omega))]
    refine semC_of_exec' mixed Tryz.func139 (by kernel_rfl) (by kernel_rfl) ac139_ok 1 rfl (by decide) [(.tmp 2)] (by kernel_rfl) ?_
    intro hr C hC hI
    unfold ac139
    simp only [go_sem, Nat.reduceBEq, Nat.reduceAdd, List.length_map]
    refine call_pure2 hC (within_sem ..) rfl (PVleL_refl _) ?_
    rintro r rfl
    simp only [go_sem, Nat.reduceBEq, decide_eq_false c1]
    exact retQ_one rfl rfl
  by_cases c2 : (1 : Int) ≤ (nK b : Int) ∧ (nK b : Int) ≤ 6
  rotate_left
  · rw [decide_eq_false (fun h : okBook b => c2 (by have := h.1.2.1; omega))]
    refine semC_of_exec' mixed Tryz.func139 (by kernel_rfl) (by kernel_rfl) ac139_ok 1 rfl (by decide) [(.tmp 2)] (by kernel_rfl) ?_
    intro hr C hC hI
    unfold ac139
    simp only [go_sem, Nat.reduceBEq, Nat.reduceAdd, List.length_map]
    refine call_pure2 hC (within_sem ..) rfl (PVleL_refl _) ?_
    rintro r rfl
    simp only [go_sem, Nat.reduceBEq, Nat.reduceAdd, decide_eq_true c1]
    refine call_pure2 hC (kindsOf_sem k k2 b) rfl (PVleL_refl _) ?_
    rintro r rfl
    simp only [go_sem, Nat.reduceBEq]
    refine call_pure2 hC (within_sem ..) rfl (PVleL_refl _) ?_
    rintro r rfl
    simp only [go_sem, Nat.reduceBEq, decide_eq_false c2]
    exact retQ_one rfl rfl
  by_cases c3 : (8 : Int) < b.seen.length
  · rw [decide_eq_false (fun h : okBook b => absurd h.2 (by omega))]
    refine semC_of_exec' mixed Tryz.func139 (by kernel_rfl) (by kernel_rfl) ac139_ok 1 rfl (by decide) [(.tmp 2)] (by kernel_rfl) ?_
    intro hr C hC hI
    unfold ac139
    simp only [go_sem, Nat.reduceBEq, Nat.reduceAdd, List.length_map]
    refine call_pure2 hC (within_sem ..) rfl (PVleL_refl _) ?_
    rintro r rfl
    simp only [go_sem, Nat.reduceBEq, Nat.reduceAdd, decide_eq_true c1]
    refine call_pure2 hC (kindsOf_sem k k2 b) rfl (PVleL_refl _) ?_
    rintro r rfl
    simp only [go_sem, Nat.reduceBEq]
    refine call_pure2 hC (within_sem ..) rfl (PVleL_refl _) ?_
    rintro r rfl
    simp only [go_sem, Nat.reduceBEq, decide_eq_true c2, List.length_map, eq_true c3, decide_true]
    exact retQ_one rfl rfl
  refine semC_of_exec' mixed Tryz.func139 (by kernel_rfl) (by kernel_rfl) ac139_ok 1 rfl (by decide) [(.tmp 2)] (by kernel_rfl) ?_
  intro hr C hC hI
  unfold ac139
  simp only [go_sem, Nat.reduceBEq, Nat.reduceAdd, List.length_map]
  refine call_pure2 hC (within_sem ..) rfl (PVleL_refl _) ?_
  rintro r rfl
  simp only [go_sem, Nat.reduceBEq, Nat.reduceAdd, decide_eq_true c1]
  refine call_pure2 hC (kindsOf_sem k k2 b) rfl (PVleL_refl _) ?_
  rintro r rfl
  simp only [go_sem, Nat.reduceBEq]
  refine call_pure2 hC (within_sem ..) rfl (PVleL_refl _) ?_
  rintro r rfl
  simp only [go_sem, Nat.reduceBEq, decide_eq_true c2, List.length_map, eq_false c3, decide_false]
  refine loop_k b.makers.length (fun j => ∀ r ∈ b.makers.take j, okRow b r) [1, 25, 26] (fun j => [(27, .p (pi j))]) (by simp) rfl ⟨rfl, by simp, by simp⟩ (by simp [wkT, look, AV.lo]) ?_
  rintro j ⟨hj, hok⟩
  simp only [go_sem, Nat.reduceBEq]
  refine ⟨fun h5 => ?_, fun h5 => ?_⟩
  · have hj2 : j < b.makers.length := by omega
    simp only [go_sem, Nat.reduceBEq, Nat.reduceAdd, iadr_map (f := fun h => [pis h]) (kd := k) (sz := 1) hj2]
    refine call_pure2 hC (validMaker_sem k k2 b b.makers[j]) rfl (PVleL_refl _) ?_
    rintro r rfl
    simp only [go_sem, Nat.reduceBEq]
    refine ⟨fun h7 => ?_, fun h7 => ?_⟩
    · rw [decide_eq_false (fun h : okBook b => by
        have := h.1.2.2.1 _ (List.getElem_mem hj2)
        have hr : okRow b b.makers[j] := this
        simp [hr] at h7)]
      exact retQ_one rfl rfl
    · have h8 : okRow b b.makers[j] := by simpa using h7
      simp only [go_sem, wrap_succ (k := j) (by omega)]
      exact ⟨⟨j + 1, hj2, take_allG hj2 hok h8⟩, by simp only; omega, by simp [Wk, wkT, wkL, look, AV.lo, AV.lo.loL, ABlk.toZ]⟩
  have hjn : j = b.makers.length := by omega
  subst hjn
  rw [List.take_length] at hok
  simp only [go_sem, List.length_map]
  refine loop_k b.seen.length (fun j => ∀ m ∈ b.seen.take j, okMark b m) [1, 37, 38] (fun j => [(39, .p (pi j))]) (by simp) rfl ⟨rfl, by simp, by simp⟩ (by simp [wkT, look, AV.lo]) ?_
  rintro j ⟨hj, hok2⟩
  simp only [go_sem, Nat.reduceBEq, Nat.reduceAdd]
  refine ⟨fun h5 => ?_, fun h5 => ?_⟩
  · have hj2 : j < b.seen.length := by omega
    simp only [go_sem, Nat.reduceBEq, Nat.reduceAdd, iadr_map (f := fun m : Int × Int => [pi m.1, pi m.2]) (kd := k2) (sz := 2) hj2, putCells]
    by_cases d1 : 0 ≤ b.seen[j].1 ∧ b.seen[j].1 < (nK b : Int)
    rotate_left
    · rw [decide_eq_false (fun h : okBook b => d1 (h.1.2.2.2.1 _ (List.getElem_mem hj2)).1)]
      refine call_pure2 hC (hasKind_sem k k2 b _ (by omega)) rfl (PVleL_refl _) ?_
      rintro r rfl
      simp only [go_sem, Nat.reduceBEq, decide_eq_false d1]
      exact retQ_one rfl rfl
    refine call_pure2 hC (hasKind_sem k k2 b _ (by omega)) rfl (PVleL_refl _) ?_
    rintro r rfl
    simp only [go_sem, Nat.reduceBEq, decide_eq_true d1]
    by_cases d2 : 1 ≤ b.seen[j].2 ∧ b.seen[j].2 ≤ 31
    rotate_left
    · rw [decide_eq_false (fun h : okBook b => d2 (h.1.2.2.2.1 _ (List.getElem_mem hj2)).2)]
      refine call_pure2 hC (isValues_sem ..) rfl (PVleL_refl _) ?_
      rintro r rfl
      simp only [go_sem, Nat.reduceBEq, decide_eq_false d2]
      exact retQ_one rfl rfl
    refine call_pure2 hC (isValues_sem ..) rfl (PVleL_refl _) ?_
    rintro r rfl
    simp only [go_sem, Nat.reduceBEq, decide_eq_true d2, wrap_succ (k := j) (by omega)]
    exact ⟨⟨j + 1, hj2, take_allG hj2 hok2 ⟨d1, d2⟩⟩, by simp only; omega, by simp [Wk, wkT, wkL, look, AV.lo, AV.lo.loL, ABlk.toZ]⟩
  have hjn : j = b.seen.length := by omega
  subst hjn
  rw [List.take_length] at hok2
  have hf : ((2 : Int) ^ nK b) = ((2 ^ nK b : Nat) : Int) := by norm_cast
  have hs1 := shl6 (m := nK b) (by omega)
  have hs2 := shl6m (m := nK b) (by omega)
  by_cases d1 : 0 ≤ b.repairs ∧ b.repairs ≤ (nK b : Int)
  rotate_left
  · rw [decide_eq_false (fun h : okBook b => d1 h.1.2.2.2.2.1)]
    refine call_pure2 hC (kindsOf_sem k k2 b) rfl (PVleL_refl _) ?_
    rintro r rfl
    simp only [go_sem, Nat.reduceBEq]
    refine call_pure2 hC (within_sem ..) rfl (PVleL_refl _) ?_
    rintro r rfl
    simp only [go_sem, Nat.reduceBEq, decide_eq_false d1]
    exact retQ_one rfl rfl
  refine call_pure2 hC (kindsOf_sem k k2 b) rfl (PVleL_refl _) ?_
  rintro r rfl
  simp only [go_sem, Nat.reduceBEq]
  refine call_pure2 hC (within_sem ..) rfl (PVleL_refl _) ?_
  rintro r rfl
  simp only [go_sem, Nat.reduceBEq, Nat.reduceAdd, decide_eq_true d1, Bool.false_eq_true]
  refine call_pure2 hC (kindsOf_sem k k2 b) rfl (PVleL_refl _) ?_
  rintro r rfl
  simp only [go_sem, Nat.reduceBEq, bin_shl (show ¬ (nK b : Int) < 0 by omega), hs1, hs2]
  refine call_pure2 hC (within_sem ..) rfl (PVleL_refl _) ?_
  rintro r rfl
  simp only [go_sem, Nat.reduceBEq]
  refine retQ_one rfl ?_
  rw [← hf]
  have e : okBook b ↔ (0 ≤ b.fixed ∧ b.fixed ≤ 2 ^ nK b - 1) := ⟨fun h => h.1.2.2.2.2.2, fun h => ⟨⟨by omega, by omega, hok, hok2, d1, h⟩, by omega⟩⟩
  rw [decide_eq_decide.2 e]
theorem Check_sem (k k2 : SK) (b : MBook) : Sem1 96 [.agg (bookC k k2 b)] (pi (if okBook b then 0 else 50)) := by
  refine semC_of_exec' mixed Tryz.func96 (by kernel_rfl) (by kernel_rfl) ac96_ok 1 rfl (by decide) [(.tmp 2)] (by kernel_rfl) ?_
  intro hr C hC hI
  unfold ac96
  simp only [go_sem, Nat.reduceBEq, Nat.reduceAdd]
  refine call_pure2 hC (validBook_sem k k2 b) rfl (PVleL_refl _) ?_
  rintro r rfl
  simp only [go_sem, Nat.reduceBEq]
  by_cases h : okBook b
  · rw [if_pos h]
    simp only [go_sem, eq_true h, decide_true, decide_false, not_true_eq_false, false_implies, true_implies]
    exact retQ_one rfl rfl
  · rw [if_neg h]
    simp only [go_sem, eq_false h, decide_true, decide_false, not_false_eq_true, false_implies, true_implies]
    exact retQ_one rfl rfl
end Go.Proofs.YtefehlekneahmaaGreat.Mk
