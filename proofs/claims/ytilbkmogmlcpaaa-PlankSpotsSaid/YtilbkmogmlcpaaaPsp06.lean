/- Plain mathematics: what is told of places is so, wherever the knots truly are; what is laid is laid well. Plain mathematics: the specification's answers, said by joints and knots. Walks: the specification's small questions: is it a number, does a part lie at an inch, which error. Walks: what the specification says of a part at an inch. -/
import Derived.Test.YtilbkmogmlcpaaaPsp05
import Derived.Test.YtilbkmogmlcpaaaGa11
import Derived.Test.YtilbkmogmlcpaaaPsp03
import Derived.Test.YtilbkmogmlcpaaaPsp04
namespace Go.Proofs.Ytilbkmogmlcpaaa
open Go.RowKit Go.Shelf

theorem find_neg {xs : List Int} {y : Int} : findI xs y < 0 ↔ ∀ j, j < xs.length → ¬ gi xs j = y := by
  have := findI_nonneg (xs := xs) (n := y)
  constructor
  · intro h j hj e
    have := this.2 ⟨j, hj, e⟩
    omega
  · intro h
    by_cases h0 : 0 ≤ findI xs y
    · obtain ⟨j, hj, e⟩ := this.1 h0
      exact absurd e (h j hj)
    · omega
theorem lieM_pos {S : Shape} {t way m : Nat} {b : Bool} (hw : b = decide (way ≠ 0)) : lieM S t way m = true ↔ ∃ k, k < S.joints.length ∧ (m : Int) = posJ S t b k := by
  have hp : ∀ k, posJ S t b k = if way = 0 then t + gi S.joints k else t + S.long - 1 - gi S.joints k := by
    intro k; unfold posJ; subst hw
    by_cases h : way = 0 <;> simp [h]
  unfold lieM
  by_cases h : way = 0
  · simp only [h, if_true] at hp ⊢
    unfold jointsM
    rw [anyB_iff]
    simp only [decide_eq_true_eq, hp]
  · simp only [h, if_false] at hp ⊢
    unfold turnedM
    rw [anyB_iff]
    simp only [decide_eq_true_eq, hp]
theorem clear_iff {S : Shape} {t way : Nat} {b : Bool} (hw : b = decide (way ≠ 0)) {K : List Int} (hK : ∀ j, j < K.length → 0 ≤ gi K j) : clearB S t b K = true ↔ ∀ j, j < K.length → lieM S t way (gi K j).toNat = false := by
  unfold clearB
  rw [allB_iff]
  constructor
  · intro h j hj
    rw [← Bool.not_eq_true, lieM_pos hw]
    rintro ⟨k, hk, e⟩
    have := h k hk
    rw [decide_eq_true_eq, find_neg] at this
    refine this j hj ?_
    have := hK j hj
    omega
  · intro h k hk
    rw [decide_eq_true_eq, find_neg]
    intro j hj e
    have h1 := h j hj
    rw [← Bool.not_eq_true, lieM_pos hw] at h1
    refine h1 ⟨k, hk, ?_⟩
    have := hK j hj
    omega
theorem hitC_no {k : Int × Int} {M : Nat → Bool} (h : hitC k M = false) {m : Nat} (hm : m < 16) (h1 : k.1 ≤ m) (h2 : (m : Int) ≤ k.2) : M m = false := by
  rw [← Bool.not_eq_true]
  intro hM
  have : hitC k M = true := by
    unfold hitC
    rw [anyB_iff]
    exact ⟨m, hm, by simp only [andM, knotM, betM, Bool.and_eq_true, decide_eq_true_eq]; exact ⟨hM, h1, h2⟩⟩
  rw [h] at this; cases this
theorem hitM_yes {k : Int × Int} {M : Nat → Bool} (h : hitM k M = true) {m : Nat} (hm : m < 16) (h1 : k.1 ≤ m) (h2 : (m : Int) ≤ k.2) : M m = true := by
  unfold hitM eqIn at h
  rw [allB_iff] at h
  have := h m hm
  rw [beq_iff_eq] at this
  simp only [andM, knotM, betM] at this
  rw [decide_eq_true (⟨h1, h2⟩ : k.1 ≤ (m : Int) ∧ (m : Int) ≤ k.2), Bool.and_true] at this
  exact this

/-- Where the knots truly are. -/
structure Truth (W : Wood) (K : List Int) : Prop where
  len : K.length = W.knots.length
  knot : ∀ j, j < W.knots.length → Knot (gp W.knots j)
  at_ : ∀ j, j < W.knots.length → (gp W.knots j).1 ≤ gi K j ∧ gi K j ≤ (gp W.knots j).2
section
variable {W : Wood} {K : List Int} {S : Shape} {t : Nat}
theorem Truth.pos (h : Truth W K) : ∀ j, j < K.length → 0 ≤ gi K j := fun j hj => by
  rw [h.len] at hj
  have h1 := h.knot j hj
  have h2 := h.at_ j hj
  unfold Knot at h1; omega
theorem Truth.clear (h : Truth W K) {way : Nat} {b : Bool} (hw : b = decide (way ≠ 0)) (hm : mayHit W S t W.knots.length way = false) : clearB S t b K = true := by
  rw [clear_iff hw h.pos]
  intro j hj
  have hp := h.pos j hj
  rw [h.len] at hj
  have h1 := h.knot j hj
  have h2 := h.at_ j hj
  unfold Knot at h1
  have : hitC (gp W.knots j) (lieM S t way) = false := by
    rw [← Bool.not_eq_true]
    intro hc
    have : mayHit W S t W.knots.length way = true := by unfold mayHit; rw [anyB_iff]; exact ⟨j, hj, hc⟩
    rw [hm] at this; cases this
  exact hitC_no this (by omega) (by omega) (by omega)
theorem Truth.hit (h : Truth W K) {way : Nat} {b : Bool} (hw : b = decide (way ≠ 0)) (hm : mustHitB W S t W.knots.length way = true) : clearB S t b K = false := by
  rw [← Bool.not_eq_true, clear_iff hw h.pos]
  intro hc
  unfold mustHitB at hm
  rw [anyB_iff] at hm
  obtain ⟨j, hj, hm⟩ := hm
  have h1 := h.knot j hj
  have h2 := h.at_ j hj
  unfold Knot at h1
  have := hc j (by rw [h.len]; exact hj)
  rw [hitM_yes hm (by omega) (by omega) (by omega)] at this
  cases this
theorem Truth.two (h : Truth W K) (h2 : ansOf W S t = 2) : (clearB S t false K || (S.turns && clearB S t true K)) = true := by
  have := ans_two (W := W) (S := S) (t := t)
  rw [decide_eq_true h2] at this
  cases hm0 : mayHit W S t W.knots.length 0 with
  | false => rw [h.clear (way := 0) (b := false) rfl hm0]; rfl
  | true =>
    rw [hm0] at this
    cases hm1 : mayHit W S t W.knots.length 1 with
    | false =>
      rw [hm1] at this
      rw [h.clear (way := 1) (b := true) rfl hm1]
      cases hT : S.turns with
      | true => simp
      | false => rw [hT] at this; simp at this
    | true => rw [hm1] at this; simp at this
theorem Truth.zero (h : Truth W K) (h0 : ansOf W S t = 0) : (clearB S t false K || (S.turns && clearB S t true K)) = false := by
  have := ans_zero (W := W) (S := S) (t := t) h.knot
  rw [decide_eq_true h0] at this
  cases hm0 : mustHitB W S t W.knots.length 0 with
  | false => rw [hm0] at this; simp at this
  | true =>
    rw [hm0] at this
    rw [h.hit (way := 0) (b := false) rfl hm0]
    cases hT : S.turns with
    | false => rfl
    | true =>
      rw [hT] at this
      cases hm1 : mustHitB W S t W.knots.length 1 with
      | false => rw [hm1] at this; simp at this
      | true => rw [h.hit (way := 1) (b := true) rfl hm1]; rfl
end
theorem truth_of {W : Wood} {bits : List Int} (hW : ∀ k, k < W.knots.length → Knot (gp W.knots k)) : Truth W (trulyU W bits W.knots.length) :=
  ⟨trulyU_len _ _ _, hW, fun _ hj => trulyU_range W bits hj hW (Nat.le_refl _)⟩
theorem ans_range (W : Wood) (S : Shape) (t : Nat) : withinB (ansOf W S t) 0 2 = true := by
  unfold ansOf withinB
  (repeat' split) <;> rfl

theorem grows_pairwise {xs : List Int} {m : Int} (h : xs.Pairwise (· < ·)) (h0 : ∀ y ∈ xs, 0 ≤ y ∧ y < m) : growsB xs m = true := by
  unfold growsB
  rw [allB_iff]
  intro k hk
  have hm := h0 _ (List.getElem_mem hk)
  rw [← gi_eq hk] at hm
  unfold lastI
  simp only [Bool.and_eq_true, decide_eq_true_eq]
  refine ⟨?_, hm.2⟩
  split
  · omega
  · rw [List.pairwise_iff_getElem] at h
    have := h (k - 1) k (by omega) hk (by omega)
    rw [gi_eq hk, gi_eq (by omega : k - 1 < xs.length)]
    exact this
theorem pair_filter (f : Nat → Bool) (n : Nat) : (((List.range n).filter f).map fun (t : Nat) => (t : Int)).Pairwise (· < ·) := by
  rw [List.pairwise_map]
  exact ((List.pairwise_lt_range (n := n)).filter f).imp (fun h => by omega)
theorem grows_spots {x : Book} (hb : bookOk x = true) {i p : Nat} (hi : i < x.planks.length) (hp : p < x.parts.length) : growsB (spotsL x i p) (gw x.planks i).long = true := by
  rw [spots_good hb hi hp]
  refine grows_pairwise (pair_filter _ _) (fun y hy => ?_)
  rw [List.mem_map] at hy
  obtain ⟨t, ht, rfl⟩ := hy
  rw [List.mem_filter, List.mem_range] at ht
  have := (good_of hb).shape p hp
  have h := ht.1
  unfold many at h
  omega
theorem inc_pairwise {xs : List Int} (h : xs.Pairwise (· < ·)) : incB xs = true := by
  unfold incB
  rw [allB_iff]
  intro k hk
  rw [List.pairwise_iff_getElem] at h
  have := h k (k + 1) (by omega) (by omega) (by omega)
  rw [decide_eq_true_eq, gi_eq (by omega : k < xs.length), gi_eq (by omega : k + 1 < xs.length)]
  exact this
theorem memU_inc (s n : Nat) : incB (memU s n) = true := inc_pairwise (pair_filter _ _)

/-- What a search finds. -/
theorem srch_ok {bm : Int × Int → Option Int} {ps : List Shape} {long : Int} {parts : List Int} : ∀ (r : Nat) (M : Nat → Bool) (k : Nat) (l : List Int), srch bm ps long parts r M k = some l →
    l.length = r ∧ ∀ j, j < r → 0 ≤ gi l j ∧ gi l j ≤ long - lenOf ps parts (k + j) ∧ (bm (gi parts (k + j), gi l j)).getD 0 = 2 ∧
      ∀ m : Nat, m < 16 → gi l j ≤ m → (m : Int) < gi l j + lenOf ps parts (k + j) → M m = false ∧ ∀ j', j' < j → ¬ (gi l j' ≤ m ∧ (m : Int) < gi l j' + lenOf ps parts (k + j'))
  | 0, M, k, l, h => by
    simp only [srch, Option.some.injEq] at h
    subst h
    exact ⟨rfl, fun j hj => absurd hj (by omega)⟩
  | r + 1, M, k, l, h => by
    unfold srch at h
    obtain ⟨t, ht, h⟩ := List.exists_of_findSome?_eq_some h
    rw [List.mem_range] at ht
    split at h
    · rename_i hc
      obtain ⟨h2, hf⟩ := hc
      rw [Option.map_eq_some_iff] at h
      obtain ⟨l', hl', rfl⟩ := h
      obtain ⟨hlen, hall⟩ := srch_ok r _ (k + 1) l' hl'
      have hfr := free_iff.1 hf
      have htm : (t : Int) ≤ long - lenOf ps parts k := by unfold many at ht; omega
      refine ⟨by simp [hlen], fun j hj => ?_⟩
      cases j with
      | zero =>
        refine ⟨by simp [gi], by simpa [gi] using htm, by simpa [gi] using h2, fun m hm h1 h3 => ⟨hfr m hm (by simpa [gi] using h1) (by simp [gi] at h3; omega), fun j' hj' => absurd hj' (by omega)⟩⟩
      | succ j =>
        have e : gi ((t : Int) :: l') (j + 1) = gi l' j := by simp [gi]
        obtain ⟨a1, a2, a3, a4⟩ := hall j (by omega)
        rw [show k + 1 + j = k + (j + 1) by omega] at a2 a3 a4
        rw [e]
        refine ⟨a1, a2, a3, fun m hm h1 h3 => ?_⟩
        obtain ⟨b1, b2⟩ := a4 m hm h1 h3
        unfold orM betM at b1
        simp only [Bool.or_eq_false_iff, decide_eq_false_iff_not] at b1
        refine ⟨b1.1, fun j' hj' => ?_⟩
        cases j' with
        | zero =>
          rw [show gi ((t : Int) :: l') 0 = t by simp [gi]]
          have := b1.2
          show ¬ ((t : Int) ≤ m ∧ (m : Int) < t + lenOf ps parts (k + 0))
          rw [Nat.add_zero]; omega
        | succ j' =>
          rw [show gi ((t : Int) :: l') (j' + 1) = gi l' j' by simp [gi]]
          have := b2 j' (by omega)
          rw [show k + 1 + j' = k + (j' + 1) by omega] at this
          exact this
    · cases h

theorem lay_good {x : Book} (hb : bookOk x = true) {i : Nat} (hi : i < x.planks.length) {parts : List Int} (hp : ∀ k, k < parts.length → 0 ≤ gi parts k ∧ gi parts k < x.parts.length) (hc : incB parts = true) :
    layR x i parts = layO (layL (boardM (gw x.planks i) x.parts x.parts.length) x.parts (gw x.planks i).long parts) := by
  have ha : askE x i parts = 0 := by
    rw [askE_good hb, if_pos]
    simp only [numB, Bool.and_eq_true, decide_eq_true_eq, allB_iff]
    exact ⟨by omega, hp⟩
  unfold layR
  rw [if_pos ha, if_pos hc]
  simp only [Int.toNat_natCast]
theorem lay_laid {x : Book} (hb : bookOk x = true) {i : Nat} (hi : i < x.planks.length) {parts l K : List Int} (hp : ∀ k, k < parts.length → 0 ≤ gi parts k ∧ gi parts k < x.parts.length) (hK : Truth (gw x.planks i) K)
    (h : layL (boardM (gw x.planks i) x.parts x.parts.length) x.parts (gw x.planks i).long parts = some l) : laidB x i parts l K = true := by
  obtain ⟨hlen, hall⟩ := srch_ok _ _ _ _ h
  have hG := good_of hb
  have hL := hG.wood i hi
  unfold laidB
  rw [decide_eq_true hlen, Bool.true_and, allB_iff]
  intro k hk
  obtain ⟨a1, a2, a3, a4⟩ := hall k hk
  rw [Nat.zero_add] at a2 a3 a4
  have hpk := hp k hk
  have hS := hG.shape (gi parts k).toNat (by omega)
  have hlo : lenOf x.parts parts k = (partK x parts k).long := rfl
  rw [hlo] at a2 a4
  obtain ⟨t, ht⟩ := Int.eq_ofNat_of_zero_le a1
  rw [ht] at a2 a3 a4
  have hbm : ansOf (gw x.planks i) (partK x parts k) t = 2 := by
    unfold boardM at a3
    split at a3
    · unfold partK; simpa using a3
    · simp at a3
  have hcl := hK.two hbm
  unfold okK
  have hbad : badK x (gw x.planks i).long parts l K k = false := by
    unfold badK
    rw [ht, hcl, Bool.and_true, Bool.not_eq_false']
    unfold withinB
    simp only [Bool.and_eq_true, decide_eq_true_eq]
    omega
  rw [hbad, Bool.not_false, Bool.true_and]
  unfold freeK
  rw [allB_iff]
  intro j hj
  rw [Bool.not_eq_true', ← Bool.not_eq_true]
  unfold takenU
  rw [anyB_iff, ht]
  rintro ⟨j', hj', e⟩
  rw [decide_eq_true_eq] at e
  have hpl : (partK x parts k).long = (gs x.parts (gi parts k).toNat).long := rfl
  rw [hpl] at a2 a4 hj
  simp only [Int.toNat_natCast] at e
  have := (a4 (t + j) (by omega) (by omega) (by omega)).2 j' hj'
  rw [Nat.zero_add] at this
  exact this e
end Go.Proofs.Ytilbkmogmlcpaaa
namespace Go.Proofs.Ytilbkmogmlcpaaa
open Go.RowKit Go.Shelf

theorem find_lie {S : Shape} {t way m : Nat} {b : Bool} (hw : b = decide (way ≠ 0)) : decide (findI (posU S t b S.joints.length) (m : Int) < 0) = !lieM S t way m := by
  rw [Bool.eq_iff_iff, decide_eq_true_eq, find_neg, Bool.not_eq_true', ← Bool.not_eq_true, lieM_pos hw]
  constructor
  · rintro h ⟨k, hk, e⟩
    exact h k (by rw [posU_len]; exact hk) (by rw [posU_get S t b hk]; exact e.symm)
  · intro h j hj e
    rw [posU_len] at hj
    rw [posU_get S t b hj] at e
    exact h ⟨j, hj, e.symm⟩
theorem allB_not {n : Nat} {f : Nat → Bool} : allB n (fun j => !f j) = !anyB n f := by
  rw [Bool.eq_iff_iff, allB_iff, Bool.not_eq_true', ← Bool.not_eq_true, anyB_iff]
  constructor
  · rintro h ⟨j, hj, e⟩
    have := h j hj
    rw [e] at this; cases this
  · intro h j hj
    cases hf : f j with
    | false => rfl
    | true => exact absurd ⟨j, hj, hf⟩ h
theorem anyB_not {n : Nat} {f : Nat → Bool} : anyB n (fun j => !f j) = !allB n f := by
  rw [Bool.eq_iff_iff, anyB_iff, Bool.not_eq_true', ← Bool.not_eq_true, allB_iff]
  constructor
  · rintro ⟨j, hj, e⟩ h
    rw [h j hj] at e; cases e
  · intro h
    by_cases hx : ∃ j, j < n ∧ f j = false
    · obtain ⟨j, hj, e⟩ := hx
      exact ⟨j, hj, by rw [e]; rfl⟩
    · exact absurd (fun j hj => by
        cases hf : f j with
        | true => rfl
        | false => exact absurd ⟨j, hj, hf⟩ hx) h
section
variable {W : Wood} {S : Shape} {t way : Nat} {b : Bool}
theorem spans_at {k : Int × Int} (hk : Knot k) : ∃ u n : Nat, k.1 = u ∧ k.2 = u + n - 1 ∧ 0 < n ∧ u + n ≤ 16 ∧ spanN k = n := by
  unfold Knot at hk
  refine ⟨k.1.toNat, spanN k, by omega, ?_, ?_, ?_, rfl⟩ <;> (unfold spanN; omega)
theorem sure_may (hw : b = decide (way ≠ 0)) (hW : ∀ k, k < W.knots.length → Knot (gp W.knots k)) : sureB W (posU S t b S.joints.length) = !mayHit W S t W.knots.length way := by
  unfold sureB mayHit
  rw [← allB_not]
  refine allB_congr fun k hk => ?_
  obtain ⟨u, n, h1, h2, h3, h4, h5⟩ := spans_at (hW k hk)
  unfold sureK
  rw [h5, ← hitC_up h1 h2 h4, ← allB_not]
  refine allB_congr fun j hj => ?_
  rw [h1, show (u : Int) + (j : Int) = ((u + j : Nat) : Int) by omega, find_lie hw]
theorem may_must (hw : b = decide (way ≠ 0)) (hW : ∀ k, k < W.knots.length → Knot (gp W.knots k)) : mayB W (posU S t b S.joints.length) = !mustHitB W S t W.knots.length way := by
  unfold mayB mustHitB
  rw [← allB_not]
  refine allB_congr fun k hk => ?_
  obtain ⟨u, n, h1, h2, h3, h4, h5⟩ := spans_at (hW k hk)
  unfold mayK
  rw [h5, ← hitM_up h1 h2 h4, ← anyB_not]
  refine anyB_congr fun j hj => ?_
  rw [h1, show (u : Int) + (j : Int) = ((u + j : Nat) : Int) by omega, find_lie hw]
/-- What the specification's 'can' answers. -/
def refAns (W : Wood) (S : Shape) (t : Nat) : Int :=
  if (sureB W (posU S t false S.joints.length) || (S.turns && sureB W (posU S t true S.joints.length))) = true then 2
  else if (mayB W (posU S t false S.joints.length) || (S.turns && mayB W (posU S t true S.joints.length))) = true then 1 else 0
theorem refAns_eq (hW : ∀ k, k < W.knots.length → Knot (gp W.knots k)) : refAns W S t = ansOf W S t := by
  unfold refAns ansOf
  rw [okLie_may, okLie_must, sure_may (way := 0) (b := false) rfl hW, sure_may (way := 1) (b := true) rfl hW, may_must (way := 0) (b := false) rfl hW, may_must (way := 1) (b := true) rfl hW]
end
end Go.Proofs.Ytilbkmogmlcpaaa
namespace Go.Proofs.Ytilbkmogmlcpaaa
open Go.RowKit Go.Shelf

theorem num_within {n : Nat} {i : Int} : withinB i 0 ((n : Int) - 1) = numB n i := by
  unfold withinB numB
  rw [Bool.eq_iff_iff]
  simp only [Bool.and_eq_true, decide_eq_true_eq]
  omega

set_option maxHeartbeats 400000 in
theorem isPlank_any {pa sa : Option Addr} {pn pc sn sc : Nat} {i : Int} {w : World} (hs : pn ≤ 140737488355328) :
    Calls Try.prog 63 #[.agg #[.slice pa pn pc, .slice sa sn sc], .int .i64 i] w fun e w' => e = .returned (.bool (numB pn i)) ∧ Below w.heap.size w w' := by
  have hn := Lib.hid (num_within (n := pn) (i := i))
  go_enter Try.func63, Try.ntmps63
  go_wp2_with (go_at_call 38; refine (In_any _ _ _ _).mono ?_; rintro e w' ⟨rfl, rfl⟩; rw [hn.out])
  go_ret
  exact ⟨rfl, (Below.refl _ _).alloc (Nat.le_refl _) _⟩
set_option maxHeartbeats 400000 in
theorem isPart_any {pa sa : Option Addr} {pn pc sn sc : Nat} {i : Int} {w : World} (hs : sn ≤ 140737488355328) :
    Calls Try.prog 64 #[.agg #[.slice pa pn pc, .slice sa sn sc], .int .i64 i] w fun e w' => e = .returned (.bool (numB sn i)) ∧ Below w.heap.size w w' := by
  have hn := Lib.hid (num_within (n := sn) (i := i))
  go_enter Try.func64, Try.ntmps64
  go_wp2_with (go_at_call 38; refine (In_any _ _ _ _).mono ?_; rintro e w' ⟨rfl, rfl⟩; rw [hn.out])
  go_ret
  exact ⟨rfl, (Below.refl _ _).alloc (Nat.le_refl _) _⟩

/-- Does a part lie at an inch? -/
def liesB (x : Book) (i p : Nat) (t : Int) : Bool := withinB t 0 (IntKind.i64.wrap ((gw x.planks i).long - (gs x.parts p).long))
theorem lies_good {x : Book} {i p : Nat} {t : Int} (hb : bookOk x = true) (hi : i < x.planks.length) (hp : p < x.parts.length) : liesB x i p t = decide (0 ≤ t ∧ t ≤ (gw x.planks i).long - (gs x.parts p).long) := by
  have hw1 := (good_of hb).wood i hi
  have hw2 := (good_of hb).shape p hp
  unfold liesB withinB
  rw [IntWalk.i64_in _ (by omega), Bool.eq_iff_iff]
  simp only [Bool.and_eq_true, decide_eq_true_eq]

set_option maxRecDepth 100000 in
set_option maxHeartbeats 2000000 in
theorem lies_any {B : Nat} {pa sa : Option Addr} {pn pc sn sc i p : Nat} {x : Book} {t : Int} {w : World} (hB : B ≤ w.heap.size) (hx : BookAt B w pa pn sa sn x) (hi : i < pn) (hp : p < sn) :
    Calls Try.prog 65 #[.agg #[.slice pa pn pc, .slice sa sn sc], .int .i64 i, .int .i64 p, .int .i64 t] w fun e w' => e = .returned (.bool (liesB x i p t)) ∧ Below w.heap.size w w' := by
  obtain ⟨R, hR⟩ : ∃ R, R = liesB x i p t := ⟨_, rfl⟩
  rw [← hR]
  unfold liesB at hR
  obtain ⟨pb, po, rfl, hpB, hpc⟩ := hx.planks.get i hi
  obtain ⟨kv, _, c0, _, _⟩ := hpc i hi
  obtain ⟨sb, so, rfl, hsB, hsc⟩ := hx.parts.get p hp
  obtain ⟨jv, _, d0, _, _, _⟩ := hsc p hp
  clear hpc hsc
  obtain ⟨L, hL⟩ : ∃ L, L = (gw x.planks i).long := ⟨_, rfl⟩
  obtain ⟨M, hM⟩ : ∃ M, M = (gs x.parts p).long := ⟨_, rfl⟩
  rw [← hL] at c0 hR
  rw [← hM] at d0 hR
  obtain ⟨D, hD⟩ : ∃ D, IntKind.i64.wrap (L - M) = D := ⟨_, rfl⟩
  rw [hD] at hR
  have hR' := Lib.hid hR
  clear hL hM hR hx
  obtain ⟨W0, hW0⟩ : ∃ W0, W0 = w.alloc (.cells #[.slice (some ⟨pb, po, none⟩) pn pc, .slice (some ⟨sb, so, none⟩) sn sc] 25) := ⟨_, rfl⟩
  have hb0 : Below w.heap.size w W0 := by rw [hW0]; exact (Below.refl _ _).alloc (Nat.le_refl _) _
  have hk0 : Blk W0 w.heap.size #[.slice (some ⟨pb, po, none⟩) pn pc, .slice (some ⟨sb, so, none⟩) sn sc] := by rw [hW0]; exact Blk.new w _ _
  have l0 : w.heap.size < W0.heap.size := hk0.lt
  have g0 := (bcells hb0 _ (po + i * 2) (by omega)).trans c0
  have g1 := (bcells hb0 _ (so + p * 3) (by omega)).trans d0
  clear c0 d0
  have hii : (i : Int) < pn := by omega
  have hpi : (p : Int) < sn := by omega
  go_enter Try.func65, Try.ntmps65
  replace hW0 := hW0.symm
  go_upto_region 1 with fail
  clear hW0
  have hO := open_wide
  have hF := hO.fn
  have hd := hO.depth
  have hS0 : SameBut (fun _ => False) W0 W0.drew := (SameBut.refl _ _).drew
  have hread : ∀ w', SameBut (fun _ => False) W0 w' → w'.cell? ⟨w.heap.size, 0, none⟩ = some (.slice (some ⟨pb, po, none⟩) pn pc) ∧ w'.cell? ⟨w.heap.size, 1, none⟩ = some (.slice (some ⟨sb, so, none⟩) sn sc) ∧ w'.cell? ⟨pb, po + i * 2, none⟩ = some (.int .i64 L) ∧ w'.cell? ⟨sb, so + p * 3, none⟩ = some (.int .i64 M) := fun w' h =>
    ⟨(hk0.same h (fun e => e)).cell, (hk0.same h (fun e => e)).cell, (h.cell (by omega) (fun e => e)).trans g0, (h.cell (by omega) (fun e => e)).trans g1⟩
  refine region_planW (fun w' => SameBut (fun _ => False) W0 w') [(0, true), (1, true), (2, true), (3, true), (4, true), (5, true), (6, true), (7, true), (8, true), (9, true), (10, true), (11, true), (12, true), (13, true), (14, false), (15, true)] (by kernel_rfl) (by kernel_rfl) (by kernel_rfl) (by decide) (by kernel_rfl) ?_
  iterate 14
    (refine plan_take ?_ rfl hS0 (by rfl) ?_ ?_
     rotate_left
     · intro w' hw'
       obtain ⟨q1, q2, q3, q4⟩ := hread w' hw'
       go_simp
       with_reducible rfl
     simp only [Act.put, List.setIfInBounds_toArray, List.set_cons_zero, List.set_cons_succ])
  refine plan_one rfl (by rfl) (fun K hK => ?_)
  go_simp
  refine (hO.calls (In_any t 0 D _)).mono ?_
  rintro e w5 ⟨rfl, rfl⟩
  rw [← hR'.out]
  refine hK _ _ hS0 ?_
  clear hK K
  iterate 1
    (refine plan_take ?_ rfl hS0 (by rfl) ?_ ?_
     rotate_left
     · intro w' hw'
       go_simp
       with_reducible rfl
     simp only [Act.put, List.setIfInBounds_toArray, List.set_cons_zero, List.set_cons_succ])
  unfold planW okN
  go_wp2_with fail
  go_ret
  exact ⟨rfl, hb0.trans ((hS0.toBelow (Nat.le_refl _) (fun _ h => h.elim)).mono hb0.size)⟩

/-- The error of a book, and of a question. -/
def askedE (x : Book) (ok : Bool) : Int := if bookOk x = true then (if ok = true then 0 else 11) else errOf false

set_option maxHeartbeats 1000000 in
theorem asked_any {B : Nat} {pa sa : Option Addr} {pn pc sn sc : Nat} {x : Book} {ok : Bool} {w : World} (hB : B ≤ w.heap.size) (hx : BookAt B w pa pn sa sn x) :
    Calls Try.prog 62 #[.agg #[.slice pa pn pc, .slice sa sn sc], .bool ok] w fun e w' => e = .returned (.int .i64 (askedE x ok)) ∧ Below w.heap.size w w' := by
  obtain ⟨W0, hW0⟩ : ∃ W0, W0 = w.alloc (.cells #[.slice pa pn pc, .slice sa sn sc] 25) := ⟨_, rfl⟩
  have hb0 : Below w.heap.size w W0 := by rw [hW0]; exact (Below.refl _ _).alloc (Nat.le_refl _) _
  have hk0 : Blk W0 w.heap.size #[.slice pa pn pc, .slice sa sn sc] := by rw [hW0]; exact Blk.new w _ _
  have l0 : w.heap.size < W0.heap.size := hk0.lt
  have hx0 := Lib.hid (hx.keep (w' := W0) (Nat.le_refl _) (fun b o h => bcells hb0 b o (by omega)))
  clear hx
  have q0 : W0.cell? ⟨w.heap.size, 0, none⟩ = some (.slice pa pn pc) := hk0.cell
  have q1 : W0.cell? ⟨w.heap.size, 1, none⟩ = some (.slice sa sn sc) := hk0.cell
  obtain ⟨R, hR⟩ : ∃ R, R = askedE x ok := ⟨_, rfl⟩
  rw [← hR]
  unfold askedE at hR
  go_enter Try.func62, Try.ntmps62
  replace hW0 := hW0.symm
  rcases Bool.eq_false_or_eq_true (bookOk x) with hb | hb
  · rw [if_pos hb] at hR
    have hb' := Lib.hid hb
    have hR' := Lib.hid hR
    clear hb hR
    cases ok
    all_goals
      go_wp2_with (go_at_call 19; refine (refCheck_any (B := B) (by omega) hx0.out).mono ?_; rintro e w1 ⟨rfl, hb1⟩; rw [hb'.out]; have hbw : Below w.heap.size w w1 := hb0.trans (hb1.mono (by omega)); clear hb1)
      go_ret
      exact ⟨ret_int (by rw [hR'.out]; rfl), hbw⟩
  · rw [if_neg (by rw [hb]; simp)] at hR
    have hb' := Lib.hid hb
    have hR' := Lib.hid hR
    clear hb hR
    go_wp2_with (go_at_call 19; refine (refCheck_any (B := B) (by omega) hx0.out).mono ?_; rintro e w1 ⟨rfl, hb1⟩; rw [hb'.out]; have hbw : Below w.heap.size w w1 := hb0.trans (hb1.mono (by omega)); clear hb1)
    go_ret
    exact ⟨ret_int (by rw [hR'.out]), hbw⟩
end Go.Proofs.Ytilbkmogmlcpaaa
namespace Go.Proofs.Ytilbkmogmlcpaaa
open Go.RowKit Go.Shelf

set_option maxRecDepth 100000 in
set_option maxHeartbeats 4000000 in
theorem refcan_any {B : Nat} {pa sa : Option Addr} {pn pc sn sc i p t : Nat} {x : Book} {w : World} (hB : B ≤ w.heap.size) (hx : BookAt B w pa pn sa sn x) (hb : bookOk x = true) (hi : i < pn) (hp : p < sn) (ht : (t : Int) ≤ (gw x.planks i).long - (gs x.parts p).long) :
    Calls Try.prog 66 #[.agg #[.slice pa pn pc, .slice sa sn sc], .int .i64 i, .int .i64 p, .int .i64 t] w fun e w' => e = .returned (.int .i64 (refAns (gw x.planks i) (gs x.parts p) t)) ∧ Below w.heap.size w w' := by
  have hG := Lib.hid (good_of hb)
  have hpn := Lib.hid hx.planks.len
  have hsn := Lib.hid hx.parts.len
  have hxi : i < x.planks.length := by rw [hpn.out]; exact hi
  have hxp : p < x.parts.length := by rw [hsn.out]; exact hp
  obtain ⟨W0, hW0⟩ : ∃ W0, W0 = w.alloc (.cells #[.slice pa pn pc, .slice sa sn sc] 25) := ⟨_, rfl⟩
  have hb0 : Below w.heap.size w W0 := by rw [hW0]; exact (Below.refl _ _).alloc (Nat.le_refl _) _
  have hk0 : Blk W0 w.heap.size #[.slice pa pn pc, .slice sa sn sc] := by rw [hW0]; exact Blk.new w _ _
  have l0 : w.heap.size < W0.heap.size := hk0.lt
  have hx0 := hx.keep (w' := W0) (Nat.le_refl _) (fun b o h => bcells hb0 b o (by omega))
  clear hx
  obtain ⟨pb, po, rfl, hpB, hpc⟩ := hx0.planks.get i hi
  obtain ⟨kv, hkv, c0, c1, _⟩ := hpc i hi
  obtain ⟨sb, so, rfl, hsB, hsc⟩ := hx0.parts.get p hp
  obtain ⟨jv, hjv, d0, d1, d2, _⟩ := hsc p hp
  clear hpc hsc hx0
  obtain ⟨ka, kn, kc, rfl, hks⟩ := hkv
  obtain ⟨ja, jn, jc, rfl, hjs⟩ := hjv
  obtain ⟨KW, hKW⟩ : ∃ KW, KW = gw x.planks i := ⟨_, rfl⟩
  obtain ⟨S, hS⟩ : ∃ S, S = gs x.parts p := ⟨_, rfl⟩
  rw [← hKW] at c0 hks ht ⊢
  rw [← hS] at d0 d2 hjs ht ⊢
  have hKW' := Lib.hid hKW
  have hS' := Lib.hid hS
  have hks' := Lib.hid hks
  have hjs' := Lib.hid hjs
  have hGw := hG.out.wood i hxi
  have hGs := hG.out.shape p hxp
  rw [← hKW'.out] at hGw
  rw [← hS'.out] at hGs
  obtain ⟨gw1, gw2, gw3⟩ := hGw
  obtain ⟨gs1, gs2, gs3⟩ := hGs
  have hKnot : Hid (∀ k, k < KW.knots.length → Knot (gp KW.knots k)) := Lib.hid (fun k hk => by rw [hKW'.out] at hk ⊢; exact hG.out.knot i hxi k hk)
  have hJin : Hid (JointsIn S) := Lib.hid (by rw [hS'.out]; exact hG.out.joint p hxp)
  have lp : pb < W0.heap.size := by omega
  have ls : sb < W0.heap.size := by omega
  have lp1 : pb < W0.heap.size + 1 := by omega
  have ls1 : sb < W0.heap.size + 1 := by omega
  have m1 : w.heap.size < W0.heap.size + 1 := by omega
  clear hKW hS hks hjs hb
  have q0 : W0.cell? ⟨w.heap.size, 0, none⟩ = some (.slice (some ⟨pb, po, none⟩) pn pc) := hk0.cell
  have q1 : W0.cell? ⟨w.heap.size, 1, none⟩ = some (.slice (some ⟨sb, so, none⟩) sn sc) := hk0.cell
  obtain ⟨R, hR⟩ : ∃ R, R = refAns KW S t := ⟨_, rfl⟩
  rw [← hR]
  have hR' := Lib.hid hR
  clear hR
  go_enter Try.func66, Try.ntmps66
  replace hW0 := hW0.symm
  go_upto_region 1 with fail
  clear hW0
  go_cut [9, 10] (fun s7 s8 wx => ∃ bW bX : Nat, s7 = .pointer (some ⟨bW, 0, none⟩) ∧ s8 = .pointer (some ⟨bX, 0, none⟩) ∧
    Blk wx bW #[.int .i64 KW.long, .slice ka kn kc] ∧ Blk wx bX #[.int .i64 S.long, .slice ja jn jc, .bool S.turns] ∧ Below W0.heap.size W0 wx)
  case first =>
    go_region
    · as_aux_lemma =>
      go_wp2_with fail
      go_meet
      refine ⟨W0.heap.size, W0.heap.size + 1, rfl, rfl, ?_, ?_, ?_⟩
      · exact ((Blk.new W0 _ _).alloc _).drew
      · have := Blk.new (W0.alloc (.cells #[.int .i64 KW.long, .slice ka kn kc] 48)) #[.int .i64 S.long, .slice ja jn jc, .bool S.turns] 50
        rw [World.size_alloc] at this
        exact this.drew
      · exact (((Below.refl _ _).alloc (Nat.le_refl _) _).alloc (by simp) _).drew
    · as_aux_lemma =>
      go_wp2_with fail
      go_meet
      refine ⟨W0.heap.size + 1, W0.heap.size, rfl, rfl, ?_, ?_, ?_⟩
      · have := Blk.new (W0.alloc (.cells #[.int .i64 S.long, .slice ja jn jc, .bool S.turns] 50)) #[.int .i64 KW.long, .slice ka kn kc] 48
        rw [World.size_alloc] at this
        exact this.drew
      · exact ((Blk.new W0 _ _).alloc _).drew
      · exact (((Below.refl _ _).alloc (Nat.le_refl _) _).alloc (by simp) _).drew
  case rest =>
  obtain ⟨bW, bX, rfl, rfl, hBW, hBX, hb1⟩ := hcut
  obtain ⟨w1, hw1⟩ : ∃ w1, w1 = wc := ⟨_, rfl⟩
  rw [← hw1] at hBW hBX hb1 ⊢
  clear hw1 q0 q1 c0 c1 d0 d1 d2 m1 lp ls lp1 ls1
  have hbw : Below w.heap.size w w1 := hb0.trans (hb1.mono (by omega))
  have hBw : B ≤ w1.heap.size := by have := hbw.size; omega
  replace hks' := Lib.hid (hks'.out.keep (w' := w1) (Nat.le_refl _) (fun b o h => bcells hb1 b o (by omega)))
  replace hjs' := Lib.hid (hjs'.out.keep (w' := w1) (Nat.le_refl _) (fun b o h => bcells hb1 b o (by omega)))
  clear hb1 hb0 hk0 l0
  have e0 : w1.cell? ⟨bX, 0, none⟩ = some (.int .i64 S.long) := hBX.cell
  have e1 : w1.cell? ⟨bX, 1, none⟩ = some (.slice ja jn jc) := hBX.cell
  have e2 : w1.cell? ⟨bX, 2, none⟩ = some (.bool S.turns) := hBX.cell
  have lX := hBX.lt
  go_upto_region 2 with fail
  go_cut [11, 12] (fun s7 s8 wx => ∃ (a b : Option Addr) (n m c d : Nat), s7 = .slice a n c ∧ s8 = .slice b m d ∧ IntsAt wx.heap.size wx a n (posU S t false S.joints.length) ∧ IntsAt wx.heap.size wx b m (posU S t true S.joints.length) ∧ Below w1.heap.size w1 wx)
  case first =>
    have hO := open_wide
    have hF := hO.fn
    have hd := hO.depth
    have hS0 : SameBut (fun _ => False) w1 w1.drew := (SameBut.refl _ _).drew
    have hread : ∀ w', SameBut (fun _ => False) w1 w' → w'.cell? ⟨bX, 0, none⟩ = some (.int .i64 S.long) ∧ w'.cell? ⟨bX, 1, none⟩ = some (.slice ja jn jc) ∧ w'.cell? ⟨bX, 2, none⟩ = some (.bool S.turns) := fun w' h =>
      ⟨(hBX.same h (fun e => e)).cell, (hBX.same h (fun e => e)).cell, (hBX.same h (fun e => e)).cell⟩
    clear e0 e1 e2
    refine region_planW (fun w' => SameBut (fun _ => False) w1 w') [(0, true), (1, true), (3, true), (4, true), (2, false), (5, false), (6, true), (7, true)] (by kernel_rfl) (by kernel_rfl) (by kernel_rfl) (by decide) (by kernel_rfl) ?_
    iterate 4
      (refine plan_take ?_ rfl hS0 (by rfl) ?_ ?_
       rotate_left
       · intro w' hw'
         obtain ⟨q1, q2, q3⟩ := hread w' hw'
         go_simp
         with_reducible rfl
       simp only [Act.put, List.setIfInBounds_toArray, List.set_cons_zero, List.set_cons_succ])
    refine plan_one rfl (by rfl) (fun K hK => ?_)
    go_simp
    refine (hO.calls (refJoints_any (B := B) (x := S) (t := t) (tb := S.turns) (turned := false) (w := w1.drew) (by show B ≤ w1.heap.size; omega) ⟨ja, jn, jc, rfl, hjs'.out.keep (Nat.le_refl _) (fun _ _ _ => rfl)⟩ hJin.out gs2 gs3 (by omega) (by omega))).mono ?_
    rintro e w5 ⟨a5, n5, c5, rfl, hp5, hb5⟩
    have hS5 : SameBut (fun _ => False) w1 w5 := hS0.below hb5
    have z5 : w1.heap.size ≤ w5.heap.size := hb5.size
    refine hK _ _ hS5 ?_
    clear hK K
    refine plan_one rfl (by rfl) (fun K hK => ?_)
    go_simp
    refine (hO.calls (refJoints_any (B := B) (x := S) (t := t) (tb := S.turns) (turned := true) (by omega) ⟨ja, jn, jc, rfl, hjs'.out.keep (Nat.le_refl _) (fun b o h => hS5.cell (by omega) (fun e => e))⟩ hJin.out gs2 gs3 (by omega) (by omega))).mono ?_
    rintro e w6 ⟨a6, n6, c6, rfl, hp6, hb6⟩
    have hS6 : SameBut (fun _ => False) w1 w6 := hS5.below hb6
    have hp5' := hp5.keep (w' := w6) hb6.size (fun b o h => bcells hb6 b o h)
    refine hK _ _ hS6 ?_
    clear hK K hp5
    iterate 2
      (refine plan_take ?_ rfl hS6 (by rfl) ?_ ?_
       rotate_left
       · intro w' hw'
         go_simp
         with_reducible rfl
       simp only [Act.put, List.setIfInBounds_toArray, List.set_cons_zero, List.set_cons_succ])
    unfold planW okN
    go_wp2_with fail
    go_meet
    exact ⟨_, _, _, _, _, _, rfl, rfl, hp5', hp6, hS6.toBelow (Nat.le_refl _) (fun _ h => h.elim)⟩
  case rest =>
  obtain ⟨oa, ta, on, tn, oc, tc, rfl, rfl, hone, htwo, hb2⟩ := hcut
  obtain ⟨w2, hw2⟩ : ∃ w2, w2 = wc := ⟨_, rfl⟩
  rw [← hw2] at hone htwo hb2 ⊢
  clear hw2 e0 e1 e2
  have hbw2 : Below w.heap.size w w2 := hbw.trans (hb2.mono hbw.size)
  replace hBW := hBW.below hb2 hBW.lt
  replace hBX := hBX.below hb2 hBX.lt
  replace hks' := Lib.hid (hks'.out.keep (w' := w2) (Nat.le_refl _) (fun b o h => bcells hb2 b o (by omega)))
  replace hBw : B ≤ w2.heap.size := Nat.le_trans hBw hb2.size
  clear hb2 hbw
  have hone' := Lib.hid hone
  have htwo' := Lib.hid htwo
  clear hone htwo
  obtain ⟨s1, hs1⟩ : ∃ s1, sureB KW (posU S t false S.joints.length) = s1 := ⟨_, rfl⟩
  obtain ⟨s2, hs2⟩ : ∃ s2, sureB KW (posU S t true S.joints.length) = s2 := ⟨_, rfl⟩
  obtain ⟨m1, hm1⟩ : ∃ m1, mayB KW (posU S t false S.joints.length) = m1 := ⟨_, rfl⟩
  obtain ⟨m2, hm2⟩ : ∃ m2, mayB KW (posU S t true S.joints.length) = m2 := ⟨_, rfl⟩
  obtain ⟨T, hT⟩ : ∃ T, S.turns = T := ⟨_, rfl⟩
  have hR2 : Hid (R = if (s1 || (T && s2)) = true then 2 else if (m1 || (T && m2)) = true then 1 else 0) := Lib.hid (by rw [hR'.out]; unfold refAns; rw [hs1, hs2, hm1, hm2, hT])
  rw [hT] at hBX
  have hs1' := Lib.hid hs1
  have hs2' := Lib.hid hs2
  have hm1' := Lib.hid hm1
  have hm2' := Lib.hid hm2
  have a0 : w2.cell? ⟨bW, 0, none⟩ = some (.int .i64 KW.long) := hBW.cell
  have a1 : w2.cell? ⟨bW, 1, none⟩ = some (.slice ka kn kc) := hBW.cell
  have e2 : w2.cell? ⟨bX, 2, none⟩ = some (.bool T) := hBX.cell
  have lW := hBW.lt
  replace lX := hBX.lt
  clear hs1 hs2 hm1 hm2 hT
  go_upto_region 3 with fail
  go_cut [40] (fun s wx => s = .bool (s1 || (T && s2)) ∧ Below w2.heap.size w2 wx)
  case first =>
    go_wp2_with (fail)
    refine (sure_any (B := B) (C := w2.heap.size) (W := KW) (by omega) (Nat.le_refl _) ⟨ka, kn, kc, rfl, hks'.out⟩ hone'.out hKnot.out gw3).mono ?_
    rintro e w6 ⟨rfl, hb6⟩
    rw [hs1'.out]
    have hW6 := hBW.below hb6 lW
    have hX6 := hBX.below hb6 lX
    have hks6 := Lib.hid (hks'.out.keep (w' := w6) (Nat.le_refl _) (fun b o h => bcells hb6 b o (by omega)))
    have htwo6 := Lib.hid (htwo'.out.keep (w' := w6) hb6.size (fun b o h => bcells hb6 b o h))
    clear a0 a1 e2
    have a0 : w6.cell? ⟨bW, 0, none⟩ = some (.int .i64 KW.long) := hW6.cell
    have a1 : w6.cell? ⟨bW, 1, none⟩ = some (.slice ka kn kc) := hW6.cell
    have e2 : w6.cell? ⟨bX, 2, none⟩ = some (.bool T) := hX6.cell
    have hz6 := hb6.size
    cases s1 with
    | true =>
      as_aux_lemma =>
        go_wp2_with fail
        go_meet
        exact ⟨rfl, hb6⟩
    | false =>
      cases T with
      | false =>
        as_aux_lemma =>
          go_wp2_with fail
          go_meet
          exact ⟨rfl, hb6⟩
      | true =>
        go_wp2_with (fail)
        refine (sure_any (B := B) (C := w6.heap.size) (W := KW) (by omega) (Nat.le_refl _) ⟨ka, kn, kc, rfl, hks6.out⟩ htwo6.out hKnot.out gw3).mono ?_
        rintro e w7 ⟨rfl, hb7⟩
        rw [hs2'.out]
        go_wp2_with fail
        go_meet
        exact ⟨by cases s2 <;> rfl, hb6.trans (hb7.mono hb6.size)⟩
  case rest =>
  obtain ⟨rfl, hb3⟩ := hcut
  obtain ⟨w3, hw3⟩ : ∃ w3, w3 = wc := ⟨_, rfl⟩
  rw [← hw3] at hb3 ⊢
  clear hw3 a0 a1 e2
  have hbw3 : Below w.heap.size w w3 := hbw2.trans (hb3.mono hbw2.size)
  replace hBW := hBW.below hb3 hBW.lt
  replace hBX := hBX.below hb3 hBX.lt
  replace hks' := Lib.hid (hks'.out.keep (w' := w3) (Nat.le_refl _) (fun b o h => bcells hb3 b o (by omega)))
  replace hone' := Lib.hid (hone'.out.keep (w' := w3) hb3.size (fun b o h => bcells hb3 b o h))
  replace htwo' := Lib.hid (htwo'.out.keep (w' := w3) hb3.size (fun b o h => bcells hb3 b o h))
  replace hBw : B ≤ w3.heap.size := Nat.le_trans hBw hb3.size
  replace lW := hBW.lt
  replace lX := hBX.lt
  obtain ⟨sb, hsb⟩ : ∃ sb, (s1 || (T && s2)) = sb := ⟨_, rfl⟩
  rw [hsb]
  rw [hsb] at hR2
  clear hsb hb3 hs1' hs2'
  cases sb with
  | true =>
    go_wp2_with fail
    go_ret
    exact ⟨ret_int (by rw [hR2.out]; rfl), hbw3⟩
  | false =>
  have a0 : w3.cell? ⟨bW, 0, none⟩ = some (.int .i64 KW.long) := hBW.cell
  have a1 : w3.cell? ⟨bW, 1, none⟩ = some (.slice ka kn kc) := hBW.cell
  have e2 : w3.cell? ⟨bX, 2, none⟩ = some (.bool T) := hBX.cell
  go_upto_region 5 with fail
  go_cut [52] (fun s wx => s = .bool (m1 || (T && m2)) ∧ Below w3.heap.size w3 wx)
  case first =>
    go_wp2_with (fail)
    refine (may_any (B := B) (C := w3.heap.size) (W := KW) (by omega) (Nat.le_refl _) ⟨ka, kn, kc, rfl, hks'.out⟩ hone'.out hKnot.out gw3).mono ?_
    rintro e w6 ⟨rfl, hb6⟩
    rw [hm1'.out]
    have hW6 := hBW.below hb6 lW
    have hX6 := hBX.below hb6 lX
    have hks6 := Lib.hid (hks'.out.keep (w' := w6) (Nat.le_refl _) (fun b o h => bcells hb6 b o (by omega)))
    have htwo6 := Lib.hid (htwo'.out.keep (w' := w6) hb6.size (fun b o h => bcells hb6 b o h))
    clear a0 a1 e2
    have a0 : w6.cell? ⟨bW, 0, none⟩ = some (.int .i64 KW.long) := hW6.cell
    have a1 : w6.cell? ⟨bW, 1, none⟩ = some (.slice ka kn kc) := hW6.cell
    have e2 : w6.cell? ⟨bX, 2, none⟩ = some (.bool T) := hX6.cell
    have hz6 := hb6.size
    cases m1 with
    | true =>
      as_aux_lemma =>
        go_wp2_with fail
        go_meet
        exact ⟨rfl, hb6⟩
    | false =>
      cases T with
      | false =>
        as_aux_lemma =>
          go_wp2_with fail
          go_meet
          exact ⟨rfl, hb6⟩
      | true =>
        go_wp2_with (fail)
        refine (may_any (B := B) (C := w6.heap.size) (W := KW) (by omega) (Nat.le_refl _) ⟨ka, kn, kc, rfl, hks6.out⟩ htwo6.out hKnot.out gw3).mono ?_
        rintro e w7 ⟨rfl, hb7⟩
        rw [hm2'.out]
        go_wp2_with fail
        go_meet
        exact ⟨by cases m2 <;> rfl, hb6.trans (hb7.mono hb6.size)⟩
  case rest =>
  obtain ⟨rfl, hb4⟩ := hcut
  have hbw4 := hbw3.trans (hb4.mono hbw3.size)
  obtain ⟨mb, hmb⟩ : ∃ mb, (m1 || (T && m2)) = mb := ⟨_, rfl⟩
  rw [hmb]
  rw [hmb] at hR2
  clear hmb a0 a1 e2
  cases mb with
  | true =>
    go_wp2_with fail
    go_ret
    exact ⟨ret_int (by rw [hR2.out]; rfl), hbw4⟩
  | false =>
    go_wp2_with fail
    go_ret
    exact ⟨ret_int (by rw [hR2.out]; rfl), hbw4⟩
end Go.Proofs.Ytilbkmogmlcpaaa
