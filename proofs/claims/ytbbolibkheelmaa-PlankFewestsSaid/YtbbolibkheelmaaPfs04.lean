/- Plain mathematics: what is told of places is so, wherever the knots truly are; what is laid is laid well. Walks: a list before another one; a list without one element. Plain mathematics: what is laid is laid at the first inches; one part less still lies. Plain mathematics: lists of inches that numbers choose, against what is laid. -/
import Derived.Test.YtbbolibkheelmaaPfs03
import Derived.Test.YtbbolibkheelmaaGa11
import Derived.Test.YtbbolibkheelmaaPfs02
namespace Go.Proofs.Ytbbolibkheelmaa
open Go.RowKit Go.Shelf

theorem find_neg {xs : List Int} {y : Int} : findI xs y < 0 ↔ ∀ j, j < xs.length → ¬ gi xs j = y := by
  have := findI_nonneg (xs := xs) (n := y)
  constructor
  · intro h j hj e
    have := this.2 ⟨j, hj, e⟩
    omega
  · intro h
    by_cases h0 : 0 ≤ findI xs y
    · obtain ⟨j, hj, e⟩ := this.1 h0
      exact absurd e (h j hj)
    · omega
theorem lieM_pos {S : Shape} {t way m : Nat} {b : Bool} (hw : b = decide (way ≠ 0)) : lieM S t way m = true ↔ ∃ k, k < S.joints.length ∧ (m : Int) = posJ S t b k := by
  have hp : ∀ k, posJ S t b k = if way = 0 then t + gi S.joints k else t + S.long - 1 - gi S.joints k := by
    intro k; unfold posJ; subst hw
    by_cases h : way = 0 <;> simp [h]
  unfold lieM
  by_cases h : way = 0
  · simp only [h, if_true] at hp ⊢
    unfold jointsM
    rw [anyB_iff]
    simp only [decide_eq_true_eq, hp]
  · simp only [h, if_false] at hp ⊢
    unfold turnedM
    rw [anyB_iff]
    simp only [decide_eq_true_eq, hp]
theorem clear_iff {S : Shape} {t way : Nat} {b : Bool} (hw : b = decide (way ≠ 0)) {K : List Int} (hK : ∀ j, j < K.length → 0 ≤ gi K j) : clearB S t b K = true ↔ ∀ j, j < K.length → lieM S t way (gi K j).toNat = false := by
  unfold clearB
  rw [allB_iff]
  constructor
  · intro h j hj
    rw [← Bool.not_eq_true, lieM_pos hw]
    rintro ⟨k, hk, e⟩
    have := h k hk
    rw [decide_eq_true_eq, find_neg] at this
    refine this j hj ?_
    have := hK j hj
    omega
  · intro h k hk
    rw [decide_eq_true_eq, find_neg]
    intro j hj e
    have h1 := h j hj
    rw [← Bool.not_eq_true, lieM_pos hw] at h1
    refine h1 ⟨k, hk, ?_⟩
    have := hK j hj
    omega
theorem hitC_no {k : Int × Int} {M : Nat → Bool} (h : hitC k M = false) {m : Nat} (hm : m < 16) (h1 : k.1 ≤ m) (h2 : (m : Int) ≤ k.2) : M m = false := by
  rw [← Bool.not_eq_true]
  intro hM
  have : hitC k M = true := by
    unfold hitC
    rw [anyB_iff]
    exact ⟨m, hm, by simp only [andM, knotM, betM, Bool.and_eq_true, decide_eq_true_eq]; exact ⟨hM, h1, h2⟩⟩
  rw [h] at this; cases this
theorem hitM_yes {k : Int × Int} {M : Nat → Bool} (h : hitM k M = true) {m : Nat} (hm : m < 16) (h1 : k.1 ≤ m) (h2 : (m : Int) ≤ k.2) : M m = true := by
  unfold hitM eqIn at h
  rw [allB_iff] at h
  have := h m hm
  rw [beq_iff_eq] at this
  simp only [andM, knotM, betM] at this
  rw [decide_eq_true (⟨h1, h2⟩ : k.1 ≤ (m : Int) ∧ (m : Int) ≤ k.2), Bool.and_true] at this
  exact this

/-- Where the knots truly are. -/
structure Truth (W : Wood) (K : List Int) : Prop where
  len : K.length = W.knots.length
  knot : ∀ j, j < W.knots.length → Knot (gp W.knots j)
  at_ : ∀ j, j < W.knots.length → (gp W.knots j).1 ≤ gi K j ∧ gi K j ≤ (gp W.knots j).2
section
variable {W : Wood} {K : List Int} {S : Shape} {t : Nat}
theorem Truth.pos (h : Truth W K) : ∀ j, j < K.length → 0 ≤ gi K j := fun j hj => by
  rw [h.len] at hj
  have h1 := h.knot j hj
  have h2 := h.at_ j hj
  unfold Knot at h1; omega
theorem Truth.clear (h : Truth W K) {way : Nat} {b : Bool} (hw : b = decide (way ≠ 0)) (hm : mayHit W S t W.knots.length way = false) : clearB S t b K = true := by
  rw [clear_iff hw h.pos]
  intro j hj
  have hp := h.pos j hj
  rw [h.len] at hj
  have h1 := h.knot j hj
  have h2 := h.at_ j hj
  unfold Knot at h1
  have : hitC (gp W.knots j) (lieM S t way) = false := by
    rw [← Bool.not_eq_true]
    intro hc
    have : mayHit W S t W.knots.length way = true := by unfold mayHit; rw [anyB_iff]; exact ⟨j, hj, hc⟩
    rw [hm] at this; cases this
  exact hitC_no this (by omega) (by omega) (by omega)
theorem Truth.hit (h : Truth W K) {way : Nat} {b : Bool} (hw : b = decide (way ≠ 0)) (hm : mustHitB W S t W.knots.length way = true) : clearB S t b K = false := by
  rw [← Bool.not_eq_true, clear_iff hw h.pos]
  intro hc
  unfold mustHitB at hm
  rw [anyB_iff] at hm
  obtain ⟨j, hj, hm⟩ := hm
  have h1 := h.knot j hj
  have h2 := h.at_ j hj
  unfold Knot at h1
  have := hc j (by rw [h.len]; exact hj)
  rw [hitM_yes hm (by omega) (by omega) (by omega)] at this
  cases this
theorem Truth.two (h : Truth W K) (h2 : ansOf W S t = 2) : (clearB S t false K || (S.turns && clearB S t true K)) = true := by
  have := ans_two (W := W) (S := S) (t := t)
  rw [decide_eq_true h2] at this
  cases hm0 : mayHit W S t W.knots.length 0 with
  | false => rw [h.clear (way := 0) (b := false) rfl hm0]; rfl
  | true =>
    rw [hm0] at this
    cases hm1 : mayHit W S t W.knots.length 1 with
    | false =>
      rw [hm1] at this
      rw [h.clear (way := 1) (b := true) rfl hm1]
      cases hT : S.turns with
      | true => simp
      | false => rw [hT] at this; simp at this
    | true => rw [hm1] at this; simp at this
theorem Truth.zero (h : Truth W K) (h0 : ansOf W S t = 0) : (clearB S t false K || (S.turns && clearB S t true K)) = false := by
  have := ans_zero (W := W) (S := S) (t := t) h.knot
  rw [decide_eq_true h0] at this
  cases hm0 : mustHitB W S t W.knots.length 0 with
  | false => rw [hm0] at this; simp at this
  | true =>
    rw [hm0] at this
    rw [h.hit (way := 0) (b := false) rfl hm0]
    cases hT : S.turns with
    | false => rfl
    | true =>
      rw [hT] at this
      cases hm1 : mustHitB W S t W.knots.length 1 with
      | false => rw [hm1] at this; simp at this
      | true => rw [h.hit (way := 1) (b := true) rfl hm1]; rfl
end
theorem truth_of {W : Wood} {bits : List Int} (hW : ∀ k, k < W.knots.length → Knot (gp W.knots k)) : Truth W (trulyU W bits W.knots.length) :=
  ⟨trulyU_len _ _ _, hW, fun _ hj => trulyU_range W bits hj hW (Nat.le_refl _)⟩
theorem ans_range (W : Wood) (S : Shape) (t : Nat) : withinB (ansOf W S t) 0 2 = true := by
  unfold ansOf withinB
  (repeat' split) <;> rfl

theorem grows_pairwise {xs : List Int} {m : Int} (h : xs.Pairwise (· < ·)) (h0 : ∀ y ∈ xs, 0 ≤ y ∧ y < m) : growsB xs m = true := by
  unfold growsB
  rw [allB_iff]
  intro k hk
  have hm := h0 _ (List.getElem_mem hk)
  rw [← gi_eq hk] at hm
  unfold lastI
  simp only [Bool.and_eq_true, decide_eq_true_eq]
  refine ⟨?_, hm.2⟩
  split
  · omega
  · rw [List.pairwise_iff_getElem] at h
    have := h (k - 1) k (by omega) hk (by omega)
    rw [gi_eq hk, gi_eq (by omega : k - 1 < xs.length)]
    exact this
theorem pair_filter (f : Nat → Bool) (n : Nat) : (((List.range n).filter f).map fun (t : Nat) => (t : Int)).Pairwise (· < ·) := by
  rw [List.pairwise_map]
  exact ((List.pairwise_lt_range (n := n)).filter f).imp (fun h => by omega)
theorem grows_spots {x : Book} (hb : bookOk x = true) {i p : Nat} (hi : i < x.planks.length) (hp : p < x.parts.length) : growsB (spotsL x i p) (gw x.planks i).long = true := by
  rw [spots_good hb hi hp]
  refine grows_pairwise (pair_filter _ _) (fun y hy => ?_)
  rw [List.mem_map] at hy
  obtain ⟨t, ht, rfl⟩ := hy
  rw [List.mem_filter, List.mem_range] at ht
  have := (good_of hb).shape p hp
  have h := ht.1
  unfold many at h
  omega
theorem inc_pairwise {xs : List Int} (h : xs.Pairwise (· < ·)) : incB xs = true := by
  unfold incB
  rw [allB_iff]
  intro k hk
  rw [List.pairwise_iff_getElem] at h
  have := h k (k + 1) (by omega) (by omega) (by omega)
  rw [decide_eq_true_eq, gi_eq (by omega : k < xs.length), gi_eq (by omega : k + 1 < xs.length)]
  exact this
theorem memU_inc (s n : Nat) : incB (memU s n) = true := inc_pairwise (pair_filter _ _)

/-- What a search finds. -/
theorem srch_ok {bm : Int × Int → Option Int} {ps : List Shape} {long : Int} {parts : List Int} : ∀ (r : Nat) (M : Nat → Bool) (k : Nat) (l : List Int), srch bm ps long parts r M k = some l →
    l.length = r ∧ ∀ j, j < r → 0 ≤ gi l j ∧ gi l j ≤ long - lenOf ps parts (k + j) ∧ (bm (gi parts (k + j), gi l j)).getD 0 = 2 ∧
      ∀ m : Nat, m < 16 → gi l j ≤ m → (m : Int) < gi l j + lenOf ps parts (k + j) → M m = false ∧ ∀ j', j' < j → ¬ (gi l j' ≤ m ∧ (m : Int) < gi l j' + lenOf ps parts (k + j'))
  | 0, M, k, l, h => by
    simp only [srch, Option.some.injEq] at h
    subst h
    exact ⟨rfl, fun j hj => absurd hj (by omega)⟩
  | r + 1, M, k, l, h => by
    unfold srch at h
    obtain ⟨t, ht, h⟩ := List.exists_of_findSome?_eq_some h
    rw [List.mem_range] at ht
    split at h
    · rename_i hc
      obtain ⟨h2, hf⟩ := hc
      rw [Option.map_eq_some_iff] at h
      obtain ⟨l', hl', rfl⟩ := h
      obtain ⟨hlen, hall⟩ := srch_ok r _ (k + 1) l' hl'
      have hfr := free_iff.1 hf
      have htm : (t : Int) ≤ long - lenOf ps parts k := by unfold many at ht; omega
      refine ⟨by simp [hlen], fun j hj => ?_⟩
      cases j with
      | zero =>
        refine ⟨by simp [gi], by simpa [gi] using htm, by simpa [gi] using h2, fun m hm h1 h3 => ⟨hfr m hm (by simpa [gi] using h1) (by simp [gi] at h3; omega), fun j' hj' => absurd hj' (by omega)⟩⟩
      | succ j =>
        have e : gi ((t : Int) :: l') (j + 1) = gi l' j := by simp [gi]
        obtain ⟨a1, a2, a3, a4⟩ := hall j (by omega)
        rw [show k + 1 + j = k + (j + 1) by omega] at a2 a3 a4
        rw [e]
        refine ⟨a1, a2, a3, fun m hm h1 h3 => ?_⟩
        obtain ⟨b1, b2⟩ := a4 m hm h1 h3
        unfold orM betM at b1
        simp only [Bool.or_eq_false_iff, decide_eq_false_iff_not] at b1
        refine ⟨b1.1, fun j' hj' => ?_⟩
        cases j' with
        | zero =>
          rw [show gi ((t : Int) :: l') 0 = t by simp [gi]]
          have := b1.2
          show ¬ ((t : Int) ≤ m ∧ (m : Int) < t + lenOf ps parts (k + 0))
          rw [Nat.add_zero]; omega
        | succ j' =>
          rw [show gi ((t : Int) :: l') (j' + 1) = gi l' j' by simp [gi]]
          have := b2 j' (by omega)
          rw [show k + 1 + j' = k + (j' + 1) by omega] at this
          exact this
    · cases h

theorem lay_good {x : Book} (hb : bookOk x = true) {i : Nat} (hi : i < x.planks.length) {parts : List Int} (hp : ∀ k, k < parts.length → 0 ≤ gi parts k ∧ gi parts k < x.parts.length) (hc : incB parts = true) :
    layR x i parts = layO (layL (boardM (gw x.planks i) x.parts x.parts.length) x.parts (gw x.planks i).long parts) := by
  have ha : askE x i parts = 0 := by
    rw [askE_good hb, if_pos]
    simp only [numB, Bool.and_eq_true, decide_eq_true_eq, allB_iff]
    exact ⟨by omega, hp⟩
  unfold layR
  rw [if_pos ha, if_pos hc]
  simp only [Int.toNat_natCast]
theorem lay_laid {x : Book} (hb : bookOk x = true) {i : Nat} (hi : i < x.planks.length) {parts l K : List Int} (hp : ∀ k, k < parts.length → 0 ≤ gi parts k ∧ gi parts k < x.parts.length) (hK : Truth (gw x.planks i) K)
    (h : layL (boardM (gw x.planks i) x.parts x.parts.length) x.parts (gw x.planks i).long parts = some l) : laidB x i parts l K = true := by
  obtain ⟨hlen, hall⟩ := srch_ok _ _ _ _ h
  have hG := good_of hb
  have hL := hG.wood i hi
  unfold laidB
  rw [decide_eq_true hlen, Bool.true_and, allB_iff]
  intro k hk
  obtain ⟨a1, a2, a3, a4⟩ := hall k hk
  rw [Nat.zero_add] at a2 a3 a4
  have hpk := hp k hk
  have hS := hG.shape (gi parts k).toNat (by omega)
  have hlo : lenOf x.parts parts k = (partK x parts k).long := rfl
  rw [hlo] at a2 a4
  obtain ⟨t, ht⟩ := Int.eq_ofNat_of_zero_le a1
  rw [ht] at a2 a3 a4
  have hbm : ansOf (gw x.planks i) (partK x parts k) t = 2 := by
    unfold boardM at a3
    split at a3
    · unfold partK; simpa using a3
    · simp at a3
  have hcl := hK.two hbm
  unfold okK
  have hbad : badK x (gw x.planks i).long parts l K k = false := by
    unfold badK
    rw [ht, hcl, Bool.and_true, Bool.not_eq_false']
    unfold withinB
    simp only [Bool.and_eq_true, decide_eq_true_eq]
    omega
  rw [hbad, Bool.not_false, Bool.true_and]
  unfold freeK
  rw [allB_iff]
  intro j hj
  rw [Bool.not_eq_true', ← Bool.not_eq_true]
  unfold takenU
  rw [anyB_iff, ht]
  rintro ⟨j', hj', e⟩
  rw [decide_eq_true_eq] at e
  have hpl : (partK x parts k).long = (gs x.parts (gi parts k).toNat).long := rfl
  rw [hpl] at a2 a4 hj
  simp only [Int.toNat_natCast] at e
  have := (a4 (t + j) (by omega) (by omega) (by omega)).2 j' hj'
  rw [Nat.zero_add] at this
  exact this e
end Go.Proofs.Ytbbolibkheelmaa
namespace Go.Proofs.Ytbbolibkheelmaa
open Go.RowKit Go.Shelf

/-- Is a list before another one? -/
def lessI : List Int → List Int → Bool
  | [], [] => false
  | [], _ :: _ => true
  | _ :: _, [] => false
  | x :: xs, y :: ys => if x = y then lessI xs ys else decide (x < y)
theorem lessI_first {xs ys : List Int} {k : Nat} (h1 : k < xs.length) (h2 : k < ys.length) (h : ∀ j, j < k → gi xs j = gi ys j) (hne : gi xs k ≠ gi ys k) : lessI xs ys = decide (gi xs k < gi ys k) := by
  induction k generalizing xs ys with
  | zero =>
    match xs, ys, h1, h2 with
    | x :: xs, y :: ys, _, _ =>
      have : x ≠ y := by simpa [gi] using hne
      simp [lessI, gi, this]
  | succ k ih =>
    match xs, ys, h1, h2 with
    | x :: xs, y :: ys, h1, h2 =>
      have e : x = y := by simpa [gi] using h 0 (by omega)
      have h' : ∀ j, j < k → gi xs j = gi ys j := fun j hj => by simpa [gi] using h (j + 1) (by omega)
      have := ih (xs := xs) (ys := ys) (by simpa using h1) (by simpa using h2) h' (by simpa [gi] using hne)
      rw [lessI, if_pos e, this]
      simp [gi]
theorem lessI_end {xs ys : List Int} (h : ∀ j, j < xs.length → j < ys.length → gi xs j = gi ys j) : lessI xs ys = decide (xs.length < ys.length) := by
  induction xs generalizing ys with
  | nil => cases ys <;> simp [lessI]
  | cons x xs ih =>
    cases ys with
    | nil => simp [lessI]
    | cons y ys =>
      have e : x = y := by simpa [gi] using h 0 (by simp) (by simp)
      have := ih (ys := ys) (fun j h1 h2 => by simpa [gi] using h (j + 1) (by simpa using h1) (by simpa using h2))
      rw [lessI, if_pos e, this]
      simp

set_option maxHeartbeats 1000000 in
theorem Less_any {B1 B2 : Nat} {a b : Option Addr} {xs ys : List Int} {n m c d : Nat} {w : World} (hx : IntsAt B1 w a n xs) (hy : IntsAt B2 w b m ys) :
    Calls Try.prog 44 #[.slice a n c, .slice b m d] w fun e w' => e = .returned (.bool (lessI xs ys)) ∧ Quiet w w' := by
  have hx' := Lib.hid hx
  have hy' := Lib.hid hy
  have hL : n ≤ 140737488355328 := hx.small
  have hL2 : m ≤ 140737488355328 := hy.small
  have hnx := Lib.hid hx.len
  have hny := Lib.hid hy.len
  clear hx hy
  obtain ⟨R, hR⟩ : ∃ R, R = lessI xs ys := ⟨_, rfl⟩
  rw [← hR]
  have hR' := Lib.hid hR
  clear hR
  go_enter Try.func44, Try.ntmps44
  go_wp2
  go_loopw [5] (fun i wr => ∃ k : Nat, k ≤ n ∧ i = .int .i64 k ∧ Hid (∀ j, j < k → gi xs j = gi ys j) ∧ Quiet w wr) (fun i _ => (n - intOf i).toNat)
  case atStart => exact ⟨0, by omega, rfl, fun j hj => absurd hj (by omega), Quiet.refl _⟩
  case round =>
    obtain ⟨k, hk, rfl, hall, hq⟩ := hrel
    obtain ⟨q, rfl⟩ := hq
    have hq : Quiet w (w.drewN q) := ⟨q, rfl⟩
    by_cases hlt : k < n ∧ k < m
    · obtain ⟨hlt1, hlt2⟩ := hlt
      obtain ⟨b1, o1, rfl, hb1, hc1⟩ := hx'.out.get k hlt1
      obtain ⟨b2, o2, rfl, hb2, hc2⟩ := hy'.out.get k hlt2
      have g1 := (hc1 k hlt1).1
      have g2 := (hc2 k hlt2).1
      have hkn : (k : Int) < n := by omega
      have hkm : (k : Int) < m := by omega
      clear hc1 hc2
      obtain ⟨X, hX⟩ : ∃ X, X = gi xs k := ⟨_, rfl⟩
      obtain ⟨Y, hY⟩ : ∃ Y, Y = gi ys k := ⟨_, rfl⟩
      rw [← hX] at g1
      rw [← hY] at g2
      have hXY := Lib.hid (And.intro hX hY)
      clear hX hY
      by_cases e : X = Y
      · have e1 : (X != Y) = false := by simp [e]
        have e' := Lib.hid e
        clear e
        go_wp2
        go_quiet (fail)
        go_wp2
        go_roundw
        case rel => exact ⟨k + 1, by omega, by go_num, fun j hj => by
          by_cases ej : j = k
          · subst ej; rw [← hXY.out.1, ← hXY.out.2]; exact e'.out
          · exact hall.out j (by omega), ⟨_, rfl⟩⟩
        case measure => simp [intOf]; omega
      · have e1 : (X != Y) = true := by simp [e]
        have hRe : Hid (R = decide (X < Y)) := Lib.hid (by rw [hR'.out, lessI_first (by rw [hnx.out]; exact hlt1) (by rw [hny.out]; exact hlt2) hall.out (by rw [← hXY.out.1, ← hXY.out.2]; exact e), ← hXY.out.1, ← hXY.out.2])
        clear e
        go_wp2
        go_quiet (fail)
        go_wp2
        go_quiet (fail)
        go_wp2
        go_ret
        exact ⟨ret_bool (by rw [hRe.out]), Quiet.drewN (Quiet.drewN hq _) _⟩
    · have hend : Hid (R = decide (n < m)) := Lib.hid (by rw [hR'.out, lessI_end (fun j h1 h2 => hall.out j (by rw [hnx.out] at h1; rw [hny.out] at h2; omega)), hnx.out, hny.out])
      by_cases h1 : k < n
      · have h2 : ¬ k < m := fun h => hlt ⟨h1, h⟩
        clear hlt
        go_wp2
        go_ret
        exact ⟨ret_bool (by rw [hend.out]), hq⟩
      · clear hlt
        go_wp2
        go_ret
        exact ⟨ret_bool (by rw [hend.out]), hq⟩

/-- A list without the element at a place. -/
def cutU (xs : List Int) (p k : Nat) : List Int := ((List.range k).filter fun j => j != p).map fun j => gi xs j
theorem cutU_succ (xs : List Int) (p k : Nat) : cutU xs p (k + 1) = cutU xs p k ++ (if k = p then [] else [gi xs k]) := by
  unfold cutU
  rw [List.range_succ, List.filter_append, List.map_append]
  by_cases h : k = p
  · simp [h]
  · have : (k != p) = true := by simpa using h
    simp [h, this]
theorem cutU_len (xs : List Int) (p k : Nat) : (cutU xs p k).length ≤ k := by
  unfold cutU; rw [List.length_map]
  have := List.length_filter_le (fun j => j != p) (List.range k)
  rwa [List.length_range] at this
theorem cutU_mem {xs : List Int} {p k : Nat} {y : Int} (h : y ∈ cutU xs p k) : ∃ j, j < k ∧ y = gi xs j := by
  unfold cutU at h
  rw [List.mem_map] at h
  obtain ⟨j, hj, rfl⟩ := h
  rw [List.mem_filter, List.mem_range] at hj
  exact ⟨j, hj.1, rfl⟩

attribute [local go_sem ↓] append_alias

set_option maxRecDepth 100000 in
set_option maxHeartbeats 2000000 in
theorem Cut_cap {B : Nat} {a : Option Addr} {xs : List Int} {n c p : Nat} {w : World} (hB : B ≤ w.heap.size) (hx : IntsAt B w a n xs) (hn : n ≤ 1000) :
    Calls Try.prog 45 #[.slice a n c, .int .i64 p] w fun e w' => ∃ a m c, e = .returned (.slice a m c) ∧ IntsAt w'.heap.size w' a m (cutU xs p n) ∧ Below w.heap.size w w' ∧ ∀ ad, a = some ad → w.heap.size ≤ ad.block := by
  obtain ⟨W0, hW0⟩ : ∃ W0, W0 = w.alloc (.cells #[] 3) := ⟨_, rfl⟩
  have hb0 : Below w.heap.size w W0 := by rw [hW0]; exact (Below.refl _ _).alloc (Nat.le_refl _) _
  have ho0 : W0.ownsRow w.heap.size 3 1 (.slice (some ⟨w.heap.size, 0, none⟩) 0 0) 0 [] := by
    rw [hW0]
    exact World.ownsRow_lit (base := w.heap.size) (e := 3) (size := 1) w #[] 0 (Nat.le_refl _) (by decide) rfl
  have hx' := Lib.hid hx
  have hI : Hid (∀ j, j < n → I64 (gi xs j)) := Lib.hid (fun j hj => by
    obtain ⟨b, o, _, _, hc⟩ := hx.get j hj
    exact (hc j hj).2)
  clear hx
  go_enter Try.func45, Try.ntmps45
  replace hW0 := hW0.symm
  go_wp2_with (fail)
  clear hW0
  obtain ⟨i0, hi, hz0, hz1, hz2⟩ := info_parts intInfo3
  go_loopw [5, 6] (fun v i wr => ∃ k : Nat, k ≤ n ∧ i = .int .i64 k ∧ wr.ownsRow w.heap.size 3 1 v (cutU xs p k).length ((cutU xs p k).map intV) ∧ Below w.heap.size w wr) (fun _ i _ => (n - intOf i).toNat)
  case atStart => exact ⟨0, by omega, rfl, ho0, hb0⟩
  case round =>
    obtain ⟨k, hk, rfl, hown, hb⟩ := hrel
    obtain ⟨va, vn, vc, hv⟩ := own_slice hown
    subst hv
    by_cases hlt : k < n
    · have hsu := cutU_succ xs p k
      have hml := cutU_len xs p k
      obtain ⟨xb, xo, rfl, hxB, hxc⟩ := hx'.out.get k hlt
      have g := (bcells hb xb (xo + k) (by omega)).trans (hxc k hlt).1
      clear hxc
      have hkn : (k : Int) < n := by omega
      have lx : xb < wr.heap.size := by have := hb.size; omega
      obtain ⟨X, hX⟩ : ∃ X, X = gi xs k := ⟨_, rfl⟩
      rw [← hX] at g hsu
      clear hX
      by_cases e : k = p
      · rw [if_pos e, List.append_nil] at hsu
        have hown6 : wr.ownsRow w.heap.size 3 1 (.slice va vn vc) (cutU xs p (k + 1)).length ((cutU xs p (k + 1)).map intV) := by rw [hsu]; exact hown
        have hown6' := Lib.hid hown6
        have e1 : ((k : Int) != (p : Int)) = false := by simp [e]
        clear hsu hown6 e
        go_wp2
        go_roundw
        case rel => exact ⟨k + 1, by omega, by go_num, hown6'.out, hb⟩
        case measure => simp [intOf]; omega
      · rw [if_neg e] at hsu
        have e1 : ((k : Int) != (p : Int)) = true := by simp; omega
        clear e
        obtain ⟨v', w5, hap, hown5, hgr5, _, _⟩ := run_append_own_at (P := Try.prog) (w := wr.alloc (.cells #[.int .i64 X] 3)) w.heap.size 31 31 3 i0 (.int .i64 0) 1 8 intsUnder hi hz0 hz1 hz2 rfl (by decide) (.slice va vn vc) _ _ (hown.alloc _) ⟨wr.heap.size, 0, none⟩ 1 1 [.int .i64 X] rfl
          (fun j u hj => by
            match j, hj with
            | 0, hj =>
              simp at hj; subst hj
              exact (Blk.new wr #[.int .i64 X] 3).cell)
          (fun u hu => by simp at hu; subst hu; rfl) (by unfold maxLen; omega) (by omega) (by have := hb.size; simp; omega)
        have hlt5 := hown.lt
        have hb5 : Below w.heap.size w w5 := by
          have h1 : SameBut (fun i => w.heap.size ≤ i) wr w5 := ((SameBut.refl _ wr).alloc _).trans (same_grown hgr5 (fun k h => (hlt5 k h).1))
          exact hb.trans (h1.toBelow hb.size (fun _ h => h))
        have hown6 : w5.ownsRow w.heap.size 3 1 v' (cutU xs p (k + 1)).length ((cutU xs p (k + 1)).map intV) := by
          rw [hsu, List.length_append, List.map_append]; exact hown5
        rw [append_alias] at hap
        have hown6' := Lib.hid hown6
        clear hown5 hown6 hgr5 hsu hlt5
        go_wp2
        go_roundw
        case rel => exact ⟨k + 1, by omega, by go_num, hown6'.out, hb5⟩
        case measure => simp [intOf]; omega
    · obtain rfl : k = n := by omega
      go_wp2
      go_ret
      obtain ⟨a, m, c, e, hxx⟩ := ints_of_own hown (fun i hi => by
        obtain ⟨j, hj, e⟩ := cutU_mem (List.getElem_mem hi)
        rw [gi_eq hi, e]
        exact hI.out j hj) (by have := cutU_len xs p k; omega)
      have hlt := hown.lt
      cases e
      exact ⟨_, _, _, rfl, hxx, hb, fun ad h => (hlt ad.block (by rw [h]; rfl)).1⟩
theorem Cut_any {B : Nat} {a : Option Addr} {xs : List Int} {n c p : Nat} {w : World} (hB : B ≤ w.heap.size) (hx : IntsAt B w a n xs) (hn : n ≤ 1000) :
    Calls Try.prog 45 #[.slice a n c, .int .i64 p] w fun e w' => ∃ a m c, e = .returned (.slice a m c) ∧ IntsAt w'.heap.size w' a m (cutU xs p n) ∧ Below w.heap.size w w' :=
  (Cut_cap hB hx hn).mono fun _ _ ⟨a, m, c, h1, h2, h3, _⟩ => ⟨a, m, c, h1, h2, h3⟩
end Go.Proofs.Ytbbolibkheelmaa
namespace Go.Proofs.Ytbbolibkheelmaa
open Go.RowKit Go.Shelf

section
variable {bm : Int × Int → Option Int} {ps : List Shape} {long : Int}
/-- These inches do, behind what is taken. -/
def okL (bm : Int × Int → Option Int) (ps : List Shape) (long : Int) (parts : List Int) : (Nat → Bool) → Nat → List Int → Prop
  | _, _, [] => True
  | M, k, t :: l => 0 ≤ t ∧ t ≤ long - lenOf ps parts k ∧ (bm (gi parts k, t)).getD 0 = 2 ∧ freeB M t (lenOf ps parts k) = true ∧ okL bm ps long parts (orM M (betM t (t + lenOf ps parts k - 1))) (k + 1) l

theorem srch_okL {parts : List Int} : ∀ (r : Nat) (M : Nat → Bool) (k : Nat) (l : List Int), srch bm ps long parts r M k = some l → l.length = r ∧ okL bm ps long parts M k l
  | 0, M, k, l, h => by
    simp only [srch, Option.some.injEq] at h
    subst h
    exact ⟨rfl, trivial⟩
  | r + 1, M, k, l, h => by
    unfold srch at h
    obtain ⟨t, ht, h⟩ := List.exists_of_findSome?_eq_some h
    rw [List.mem_range] at ht
    split at h
    · rename_i hc
      rw [Option.map_eq_some_iff] at h
      obtain ⟨l', hl', rfl⟩ := h
      obtain ⟨h1, h2⟩ := srch_okL r _ (k + 1) l' hl'
      exact ⟨by simp [h1], by omega, by unfold many at ht; omega, hc.1, hc.2, h2⟩
    · cases h

theorem least_some {α : Type} {f : Nat → Option α} : ∀ t : Nat, f t ≠ none → ∃ t0, t0 ≤ t ∧ f t0 ≠ none ∧ ∀ i, i < t0 → f i = none := by
  intro t
  induction t using Nat.strongRecOn with
  | ind t ih =>
    intro h
    by_cases hx : ∃ i, i < t ∧ f i ≠ none
    · obtain ⟨i, hi, hf⟩ := hx
      obtain ⟨t0, h1, h2, h3⟩ := ih i hi hf
      exact ⟨t0, by omega, h2, h3⟩
    · refine ⟨t, Nat.le_refl _, h, fun i hi => ?_⟩
      by_cases hn : f i = none
      · exact hn
      · exact absurd ⟨i, hi, hn⟩ hx

/-- The search finds a list, if one does, and none before it does. -/
theorem srch_first {parts : List Int} : ∀ (r : Nat) (M : Nat → Bool) (k : Nat) (l : List Int), l.length = r → okL bm ps long parts M k l → ∃ l', srch bm ps long parts r M k = some l' ∧ lessI l l' = false
  | 0, M, k, l, hl, _ => by
    obtain rfl : l = [] := List.eq_nil_of_length_eq_zero hl
    exact ⟨[], rfl, rfl⟩
  | r + 1, M, k, [], hl, _ => by simp at hl
  | r + 1, M, k, t :: l, hl, h => by
    obtain ⟨h0, h1, h2, h3, h4⟩ := h
    obtain ⟨l1, hl1, hless⟩ := srch_first r _ (k + 1) l (by simpa using hl) h4
    obtain ⟨n, rfl⟩ := Int.eq_ofNat_of_zero_le h0
    obtain ⟨f, hf⟩ : ∃ f : Nat → Option (List Int), f = fun (t : Nat) => if (bm (gi parts k, (t : Int))).getD 0 = 2 ∧ freeB M t (lenOf ps parts k) = true then (srch bm ps long parts r (orM M (betM t (t + lenOf ps parts k - 1))) (k + 1)).map fun l => (t : Int) :: l else none := ⟨_, rfl⟩
    have hs : srch bm ps long parts (r + 1) M k = (List.range (many long (lenOf ps parts k))).findSome? f := by rw [hf]; rfl
    have hn : f n = some ((n : Int) :: l1) := by
      rw [hf]
      simp only
      rw [if_pos ⟨h2, h3⟩, hl1]; rfl
    obtain ⟨t0, ht0, hne, hall⟩ := least_some (f := f) n (by rw [hn]; simp)
    obtain ⟨y, hy⟩ := Option.ne_none_iff_exists'.1 hne
    refine ⟨y, by rw [hs, find_some (t := t0) (by unfold many; omega) hall hy], ?_⟩
    by_cases e : t0 = n
    · subst e
      rw [hn] at hy
      cases hy
      simp [lessI, hless]
    · rw [hf] at hy
      simp only at hy
      split at hy
      · rw [Option.map_eq_some_iff] at hy
        obtain ⟨l2, _, rfl⟩ := hy
        rw [lessI, if_neg (by omega)]
        exact decide_eq_false (by omega)
      · cases hy

theorem free_mono {M M' : Nat → Bool} (hM : ∀ m, M' m = true → M m = true) {t len : Int} (h : freeB M t len = true) : freeB M' t len = true := by
  rw [free_iff] at h ⊢
  intro i hi h1 h2
  have := h i hi h1 h2
  rw [← Bool.not_eq_true] at this ⊢
  exact fun e => this (hM i e)
/-- With less that is taken, and the same parts. -/
theorem okL_shift {parts parts' : List Int} : ∀ (l : List Int) (M M' : Nat → Bool) (k k' : Nat), (∀ m, M' m = true → M m = true) → (∀ j, j < l.length → gi parts' (k' + j) = gi parts (k + j)) → okL bm ps long parts M k l → okL bm ps long parts' M' k' l
  | [], _, _, _, _, _, _, _ => trivial
  | t :: l, M, M', k, k', hM, hp, ⟨h0, h1, h2, h3, h4⟩ => by
    have e0 : gi parts' k' = gi parts k := by have := hp 0 (by simp); simpa using this
    have el : lenOf ps parts' k' = lenOf ps parts k := by unfold lenOf; rw [e0]
    refine ⟨h0, by rw [el]; exact h1, by rw [e0]; exact h2, by rw [el]; exact free_mono hM h3, ?_⟩
    rw [el]
    refine okL_shift l _ _ (k + 1) (k' + 1) (fun m => ?_) (fun j hj => ?_) h4
    · unfold orM
      rw [Bool.or_eq_true, Bool.or_eq_true]
      exact fun h => h.imp (hM m) id
    · have := hp (j + 1) (by simpa using hj)
      rw [show k' + 1 + j = k' + (j + 1) by omega, show k + 1 + j = k + (j + 1) by omega]
      exact this
/-- One part less still lies. -/
theorem okL_erase {parts parts' : List Int} : ∀ (l : List Int) (p : Nat) (M : Nat → Bool) (k : Nat), p < l.length → (∀ j, j < p → gi parts' (k + j) = gi parts (k + j)) → (∀ j, p ≤ j → j + 1 < l.length → gi parts' (k + j) = gi parts (k + (j + 1))) →
    okL bm ps long parts M k l → okL bm ps long parts' M k (l.eraseIdx p)
  | [], _, _, _, hp, _, _, _ => absurd hp (by simp)
  | t :: l, 0, M, k, _, _, h2, h => by
    obtain ⟨_, _, _, _, h4⟩ := h
    refine okL_shift l _ M (k + 1) k (fun m hm => by unfold orM; rw [hm]; rfl) (fun j hj => ?_) h4
    rw [h2 j (by omega) (by simpa using hj), show k + 1 + j = k + (j + 1) by omega]
  | t :: l, p + 1, M, k, hp, h1, h2, ⟨a0, a1, a2, a3, a4⟩ => by
    have e0 : gi parts' k = gi parts k := by have := h1 0 (by omega); simpa using this
    have el : lenOf ps parts' k = lenOf ps parts k := by unfold lenOf; rw [e0]
    refine ⟨a0, by rw [el]; exact a1, by rw [e0]; exact a2, by rw [el]; exact a3, ?_⟩
    rw [el]
    refine okL_erase l p _ (k + 1) (by simpa using hp) (fun j hj => ?_) (fun j hj hj2 => ?_) a4
    · have := h1 (j + 1) (by omega)
      rw [show k + 1 + j = k + (j + 1) by omega]; exact this
    · have := h2 (j + 1) (by omega) (by simpa using hj2)
      rw [show k + 1 + j = k + (j + 1) by omega, show k + 1 + (j + 1) = k + (j + 1 + 1) by omega]; exact this
/-- Inches, one by one, that do. -/
theorem okL_of {parts : List Int} : ∀ (l : List Int) (M : Nat → Bool) (k : Nat), (∀ j, j < l.length → 0 ≤ gi l j ∧ gi l j ≤ long - lenOf ps parts (k + j) ∧ (bm (gi parts (k + j), gi l j)).getD 0 = 2 ∧
      ∀ m : Nat, m < 16 → gi l j ≤ m → (m : Int) < gi l j + lenOf ps parts (k + j) → M m = false ∧ ∀ j', j' < j → ¬ (gi l j' ≤ m ∧ (m : Int) < gi l j' + lenOf ps parts (k + j'))) → okL bm ps long parts M k l
  | [], _, _, _ => trivial
  | t :: l, M, k, h => by
    obtain ⟨a0, a1, a2, a3⟩ := h 0 (by simp)
    simp only [gi, List.getD_cons_zero, Nat.add_zero] at a0 a1 a2 a3
    refine ⟨a0, a1, a2, ?_, okL_of l _ (k + 1) (fun j hj => ?_)⟩
    · rw [free_iff]
      exact fun i hi h1 h2 => (a3 i hi h1 (by omega)).1
    · obtain ⟨b0, b1, b2, b3⟩ := h (j + 1) (by simpa using hj)
      have e : gi (t :: l) (j + 1) = gi l j := by simp [gi]
      rw [e] at b0 b1 b2 b3
      rw [show k + (j + 1) = k + 1 + j by omega] at b1 b2 b3
      refine ⟨b0, b1, b2, fun m hm h1 h2 => ?_⟩
      obtain ⟨c1, c2⟩ := b3 m hm h1 h2
      refine ⟨?_, fun j' hj' => ?_⟩
      · have := c2 0 (by omega)
        rw [show gi (t :: l) 0 = t by simp [gi], Nat.add_zero] at this
        unfold orM betM
        rw [c1, Bool.false_or]
        exact decide_eq_false (by omega)
      · have := c2 (j' + 1) (by omega)
        rw [show gi (t :: l) (j' + 1) = gi l j' by simp [gi], show k + (j' + 1) = k + 1 + j' by omega] at this
        exact this
end
end Go.Proofs.Ytbbolibkheelmaa
namespace Go.Proofs.Ytbbolibkheelmaa
open Go.RowKit Go.Shelf

/-- The parts of a set of numbers, increasing. -/
structure Parts (x : Book) (parts : List Int) : Prop where
  num : ∀ k, k < parts.length → 0 ≤ gi parts k ∧ gi parts k < x.parts.length
  inc : parts.Pairwise (· < ·)
  five : parts.length ≤ 5
theorem parts_mem {x : Book} {s sn : Nat} (h5 : sn ≤ 5) (hsn : sn = x.parts.length) : Parts x (memU s sn) :=
  ⟨fun k hk => by have := memU_i64 (n := s) (k := sn) (by omega) hk; rw [← hsn]; exact ⟨this.1, this.2.1⟩, pair_filter _ _, by have := memU_len s sn; omega⟩
section
variable {x : Book} {i : Nat} {parts : List Int}
theorem lay_parts (hb : bookOk x = true) (hi : i < x.planks.length) (hP : Parts x parts) : layR x i parts = layO (layL (boardM (gw x.planks i) x.parts x.parts.length) x.parts (gw x.planks i).long parts) :=
  lay_good hb hi hP.num (inc_pairwise hP.inc)
theorem spot_mem (hb : bookOk x = true) (hi : i < x.planks.length) {q : Int} (h0 : 0 ≤ q) (h1 : q < x.parts.length) {t : Int} : t ∈ spotsL x i q ↔ 0 ≤ t ∧ t ≤ (gw x.planks i).long - (gs x.parts q.toNat).long ∧ (boardM (gw x.planks i) x.parts x.parts.length (q, t)).getD 0 = 2 := by
  obtain ⟨p, rfl⟩ := Int.eq_ofNat_of_zero_le h0
  have hp : p < x.parts.length := by omega
  rw [spots_good hb hi hp, List.mem_map]
  simp only [Int.toNat_natCast]
  constructor
  · rintro ⟨n, hn, rfl⟩
    rw [List.mem_filter, List.mem_range] at hn
    refine ⟨by omega, by have := hn.1; unfold many at this; omega, ?_⟩
    unfold boardM
    simp only [Int.toNat_natCast]
    rw [if_pos (by have := hn.1; omega)]
    simpa using hn.2
  · rintro ⟨h2, h3, h4⟩
    obtain ⟨n, rfl⟩ := Int.eq_ofNat_of_zero_le h2
    refine ⟨n, ?_, rfl⟩
    rw [List.mem_filter, List.mem_range]
    refine ⟨by unfold many; omega, ?_⟩
    unfold boardM at h4
    simp only [Int.toNat_natCast] at h4
    rw [if_pos (by unfold many; omega)] at h4
    simpa using h4
theorem lay_spots (hb : bookOk x = true) (hi : i < x.planks.length) (hP : Parts x parts) {l : List Int} (h : layL (boardM (gw x.planks i) x.parts x.parts.length) x.parts (gw x.planks i).long parts = some l) {k : Nat} (hk : k < parts.length) : spotsL x i (gi parts k) ≠ [] := by
  obtain ⟨hlen, hall⟩ := srch_ok _ _ _ _ h
  obtain ⟨a1, a2, a3, _⟩ := hall k hk
  rw [Nat.zero_add] at a2 a3
  have := hP.num k hk
  exact List.ne_nil_of_mem ((spot_mem hb hi this.1 this.2).2 ⟨a1, a2, a3⟩)
theorem laid_okL (hb : bookOk x = true) (hi : i < x.planks.length) (hP : Parts x parts) {at_ : List Int} (hs : ∀ k, k < at_.length → k < parts.length → gi at_ k ∈ spotsL x i (gi parts k)) (h : laidB x i parts at_ [] = true) :
    at_.length = parts.length ∧ okL (boardM (gw x.planks i) x.parts x.parts.length) x.parts (gw x.planks i).long parts (fun _ => false) 0 at_ := by
  unfold laidB at h
  rw [Bool.and_eq_true, decide_eq_true_eq, allB_iff] at h
  obtain ⟨hlen, hall⟩ := h
  refine ⟨hlen, okL_of at_ _ 0 (fun j hj => ?_)⟩
  rw [Nat.zero_add]
  have hjp : j < parts.length := by omega
  have hn := hP.num j hjp
  obtain ⟨s1, s2, s3⟩ := (spot_mem hb hi hn.1 hn.2).1 (hs j hj hjp)
  refine ⟨s1, s2, s3, fun m hm h1 h2 => ⟨rfl, fun j' hj' e => ?_⟩⟩
  rw [Nat.zero_add] at e
  have hok := hall j hjp
  unfold okK at hok
  rw [Bool.and_eq_true] at hok
  have hf := hok.2
  unfold freeK at hf
  rw [allB_iff] at hf
  have hl : lenOf x.parts parts j = (partK x parts j).long := rfl
  rw [hl] at h2
  have := hf (m - (gi at_ j).toNat) (by omega)
  rw [Bool.not_eq_true', ← Bool.not_eq_true] at this
  refine this ?_
  unfold takenU
  rw [anyB_iff]
  refine ⟨j', hj', ?_⟩
  rw [decide_eq_true_eq, show (gi at_ j).toNat + (m - (gi at_ j).toNat) = m by omega]
  exact e
theorem laid_first (hb : bookOk x = true) (hi : i < x.planks.length) (hP : Parts x parts) {at_ : List Int} (hs : ∀ k, k < at_.length → k < parts.length → gi at_ k ∈ spotsL x i (gi parts k)) (h : laidB x i parts at_ [] = true) :
    ∃ l, layL (boardM (gw x.planks i) x.parts x.parts.length) x.parts (gw x.planks i).long parts = some l ∧ lessI at_ l = false := by
  obtain ⟨hlen, hok⟩ := laid_okL hb hi hP hs h
  exact srch_first parts.length _ 0 at_ hlen hok

theorem cutU_low (xs : List Int) (p : Nat) : ∀ n : Nat, n ≤ p → cutU xs p n = (List.range n).map fun j => gi xs j
  | 0, _ => rfl
  | n + 1, h => by rw [cutU_succ, if_neg (by omega), cutU_low xs p n (by omega), List.range_succ, List.map_append]; rfl
theorem cutU_high (xs : List Int) (p : Nat) : ∀ d : Nat, cutU xs p (p + 1 + d) = ((List.range p).map fun j => gi xs j) ++ (List.range d).map fun j => gi xs (p + 1 + j)
  | 0 => by rw [Nat.add_zero, cutU_succ, if_pos rfl, cutU_low xs p p (Nat.le_refl _)]; simp
  | d + 1 => by
    rw [show p + 1 + (d + 1) = (p + 1 + d) + 1 by omega, cutU_succ, if_neg (by omega), cutU_high xs p d, List.range_succ, List.map_append, List.append_assoc]; rfl
theorem cutU_get {xs : List Int} {p n j : Nat} (hp : p < n) (hj : j + 1 < n) : gi (cutU xs p n) j = if j < p then gi xs j else gi xs (j + 1) := by
  obtain ⟨d, rfl⟩ : ∃ d, n = p + 1 + d := ⟨n - p - 1, by omega⟩
  rw [cutU_high]
  unfold gi
  rw [List.getD_eq_getElem?_getD]
  by_cases h : j < p
  · rw [if_pos h, List.getElem?_append_left (by simpa using h), List.getElem?_map, List.getElem?_range h]; rfl
  · rw [if_neg h, List.getElem?_append_right (by simpa using h), List.length_map, List.length_range, List.getElem?_map, List.getElem?_range (by omega)]
    simp only [Option.map_some, Option.getD_some]
    rw [show p + 1 + (j - p) = j + 1 by omega]
theorem cutU_length {xs : List Int} {p n : Nat} (hp : p < n) : (cutU xs p n).length = n - 1 := by
  obtain ⟨d, rfl⟩ : ∃ d, n = p + 1 + d := ⟨n - p - 1, by omega⟩
  rw [cutU_high]; simp
theorem parts_cut (hP : Parts x parts) {p : Nat} (hp : p < parts.length) : Parts x (cutU parts p parts.length) := by
  refine ⟨fun k hk => ?_, ?_, by rw [cutU_length hp]; have := hP.five; omega⟩
  · rw [cutU_length hp] at hk
    rw [cutU_get hp (by omega)]
    split
    · exact hP.num k (by omega)
    · exact hP.num (k + 1) (by omega)
  · rw [List.pairwise_iff_getElem]
    intro a b ha hb hab
    rw [← gi_eq ha, ← gi_eq hb]
    rw [cutU_length hp] at ha hb
    have hpw := hP.inc
    rw [List.pairwise_iff_getElem] at hpw
    have key : ∀ u v, u < v → v < parts.length → gi parts u < gi parts v := fun u v h1 h2 => by
      rw [gi_eq (by omega : u < parts.length), gi_eq h2]
      exact hpw u v (by omega) h2 h1
    rw [cutU_get hp (by omega), cutU_get hp (by omega)]
    (repeat' split) <;> exact key _ _ (by omega) (by omega)
theorem lay_cut (hb : bookOk x = true) (hi : i < x.planks.length) (hP : Parts x parts) {l : List Int} (h : layL (boardM (gw x.planks i) x.parts x.parts.length) x.parts (gw x.planks i).long parts = some l) {p : Nat} (hp : p < parts.length) :
    (layR x i (cutU parts p parts.length)).2 = 0 := by
  obtain ⟨hlen, hok⟩ := srch_okL _ _ _ _ h
  have he := okL_erase (parts' := cutU parts p parts.length) l p _ 0 (by omega) (fun j hj => by rw [Nat.zero_add, cutU_get hp (by omega), if_pos hj]) (fun j hj hj2 => by rw [Nat.zero_add, Nat.zero_add, cutU_get hp (by omega), if_neg (by omega)]) hok
  obtain ⟨l', hl', _⟩ := srch_first (cutU parts p parts.length).length _ 0 _ (by rw [cutU_length hp, List.length_eraseIdx_of_lt (by omega), hlen]) he
  rw [lay_parts hb hi (parts_cut hP hp)]
  have : layL (boardM (gw x.planks i) x.parts x.parts.length) x.parts (gw x.planks i).long (cutU parts p parts.length) = some l' := hl'
  rw [this]; rfl
end
end Go.Proofs.Ytbbolibkheelmaa
