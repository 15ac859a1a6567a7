/- PlankTrue returns true for every book, every list of numbers and all four numbers; no condition. Walks: PlankTrue. Plain mathematics: what is told of places is so, wherever the knots truly are; what is laid is laid well. -/
import Derived.Test.YtilbkmogmlcpaaaPt03
import Derived.Test.YtilbkmogmlcpaaaGa11
import Derived.Test.YtilbkmogmlcpaaaGa13
import Derived.Deep.DeepCutAuto
import Derived.Test.YtilbkmogmlcpaaaPt01
namespace Go.Proofs.Ytilbkmogmlcpaaa
open Go.RowKit Go.Shelf

theorem find_neg {xs : List Int} {y : Int} : findI xs y < 0 ↔ ∀ j, j < xs.length → ¬ gi xs j = y := by
  have := findI_nonneg (xs := xs) (n := y)
  constructor
  · intro h j hj e
    have := this.2 ⟨j, hj, e⟩
    omega
  · intro h
    by_cases h0 : 0 ≤ findI xs y
    · obtain ⟨j, hj, e⟩ := this.1 h0
      exact absurd e (h j hj)
    · omega
theorem lieM_pos {S : Shape} {t way m : Nat} {b : Bool} (hw : b = decide (way ≠ 0)) : lieM S t way m = true ↔ ∃ k, k < S.joints.length ∧ (m : Int) = posJ S t b k := by
  have hp : ∀ k, posJ S t b k = if way = 0 then t + gi S.joints k else t + S.long - 1 - gi S.joints k := by
    intro k; unfold posJ; subst hw
    by_cases h : way = 0 <;> simp [h]
  unfold lieM
  by_cases h : way = 0
  · simp only [h, if_true] at hp ⊢
    unfold jointsM
    rw [anyB_iff]
    simp only [decide_eq_true_eq, hp]
  · simp only [h, if_false] at hp ⊢
    unfold turnedM
    rw [anyB_iff]
    simp only [decide_eq_true_eq, hp]
theorem clear_iff {S : Shape} {t way : Nat} {b : Bool} (hw : b = decide (way ≠ 0)) {K : List Int} (hK : ∀ j, j < K.length → 0 ≤ gi K j) : clearB S t b K = true ↔ ∀ j, j < K.length → lieM S t way (gi K j).toNat = false := by
  unfold clearB
  rw [allB_iff]
  constructor
  · intro h j hj
    rw [← Bool.not_eq_true, lieM_pos hw]
    rintro ⟨k, hk, e⟩
    have := h k hk
    rw [decide_eq_true_eq, find_neg] at this
    refine this j hj ?_
    have := hK j hj
    omega
  · intro h k hk
    rw [decide_eq_true_eq, find_neg]
    intro j hj e
    have h1 := h j hj
    rw [← Bool.not_eq_true, lieM_pos hw] at h1
    refine h1 ⟨k, hk, ?_⟩
    have := hK j hj
    omega
theorem hitC_no {k : Int × Int} {M : Nat → Bool} (h : hitC k M = false) {m : Nat} (hm : m < 16) (h1 : k.1 ≤ m) (h2 : (m : Int) ≤ k.2) : M m = false := by
  rw [← Bool.not_eq_true]
  intro hM
  have : hitC k M = true := by
    unfold hitC
    rw [anyB_iff]
    exact ⟨m, hm, by simp only [andM, knotM, betM, Bool.and_eq_true, decide_eq_true_eq]; exact ⟨hM, h1, h2⟩⟩
  rw [h] at this; cases this
theorem hitM_yes {k : Int × Int} {M : Nat → Bool} (h : hitM k M = true) {m : Nat} (hm : m < 16) (h1 : k.1 ≤ m) (h2 : (m : Int) ≤ k.2) : M m = true := by
  unfold hitM eqIn at h
  rw [allB_iff] at h
  have := h m hm
  rw [beq_iff_eq] at this
  simp only [andM, knotM, betM] at this
  rw [decide_eq_true (⟨h1, h2⟩ : k.1 ≤ (m : Int) ∧ (m : Int) ≤ k.2), Bool.and_true] at this
  exact this

/-- Where the knots truly are. -/
structure Truth (W : Wood) (K : List Int) : Prop where
  len : K.length = W.knots.length
  knot : ∀ j, j < W.knots.length → Knot (gp W.knots j)
  at_ : ∀ j, j < W.knots.length → (gp W.knots j).1 ≤ gi K j ∧ gi K j ≤ (gp W.knots j).2
section
variable {W : Wood} {K : List Int} {S : Shape} {t : Nat}
theorem Truth.pos (h : Truth W K) : ∀ j, j < K.length → 0 ≤ gi K j := fun j hj => by
  rw [h.len] at hj
  have h1 := h.knot j hj
  have h2 := h.at_ j hj
  unfold Knot at h1; omega
theorem Truth.clear (h : Truth W K) {way : Nat} {b : Bool} (hw : b = decide (way ≠ 0)) (hm : mayHit W S t W.knots.length way = false) : clearB S t b K = true := by
  rw [clear_iff hw h.pos]
  intro j hj
  have hp := h.pos j hj
  rw [h.len] at hj
  have h1 := h.knot j hj
  have h2 := h.at_ j hj
  unfold Knot at h1
  have : hitC (gp W.knots j) (lieM S t way) = false := by
    rw [← Bool.not_eq_true]
    intro hc
    have : mayHit W S t W.knots.length way = true := by unfold mayHit; rw [anyB_iff]; exact ⟨j, hj, hc⟩
    rw [hm] at this; cases this
  exact hitC_no this (by omega) (by omega) (by omega)
theorem Truth.hit (h : Truth W K) {way : Nat} {b : Bool} (hw : b = decide (way ≠ 0)) (hm : mustHitB W S t W.knots.length way = true) : clearB S t b K = false := by
  rw [← Bool.not_eq_true, clear_iff hw h.pos]
  intro hc
  unfold mustHitB at hm
  rw [anyB_iff] at hm
  obtain ⟨j, hj, hm⟩ := hm
  have h1 := h.knot j hj
  have h2 := h.at_ j hj
  unfold Knot at h1
  have := hc j (by rw [h.len]; exact hj)
  rw [hitM_yes hm (by omega) (by omega) (by omega)] at this
  cases this
theorem Truth.two (h : Truth W K) (h2 : ansOf W S t = 2) : (clearB S t false K || (S.turns && clearB S t true K)) = true := by
  have := ans_two (W := W) (S := S) (t := t)
  rw [decide_eq_true h2] at this
  cases hm0 : mayHit W S t W.knots.length 0 with
  | false => rw [h.clear (way := 0) (b := false) rfl hm0]; rfl
  | true =>
    rw [hm0] at this
    cases hm1 : mayHit W S t W.knots.length 1 with
    | false =>
      rw [hm1] at this
      rw [h.clear (way := 1) (b := true) rfl hm1]
      cases hT : S.turns with
      | true => simp
      | false => rw [hT] at this; simp at this
    | true => rw [hm1] at this; simp at this
theorem Truth.zero (h : Truth W K) (h0 : ansOf W S t = 0) : (clearB S t false K || (S.turns && clearB S t true K)) = false := by
  have := ans_zero (W := W) (S := S) (t := t) h.knot
  rw [decide_eq_true h0] at this
  cases hm0 : mustHitB W S t W.knots.length 0 with
  | false => rw [hm0] at this; simp at this
  | true =>
    rw [hm0] at this
    rw [h.hit (way := 0) (b := false) rfl hm0]
    cases hT : S.turns with
    | false => rfl
    | true =>
      rw [hT] at this
      cases hm1 : mustHitB W S t W.knots.length 1 with
      | false => rw [hm1] at this; simp at this
      | true => rw [h.hit (way := 1) (b := true) rfl hm1]; rfl
end
theorem truth_of {W : Wood} {bits : List Int} (hW : ∀ k, k < W.knots.length → Knot (gp W.knots k)) : Truth W (trulyU W bits W.knots.length) :=
  ⟨trulyU_len _ _ _, hW, fun _ hj => trulyU_range W bits hj hW (Nat.le_refl _)⟩
theorem ans_range (W : Wood) (S : Shape) (t : Nat) : withinB (ansOf W S t) 0 2 = true := by
  unfold ansOf withinB
  (repeat' split) <;> rfl

theorem grows_pairwise {xs : List Int} {m : Int} (h : xs.Pairwise (· < ·)) (h0 : ∀ y ∈ xs, 0 ≤ y ∧ y < m) : growsB xs m = true := by
  unfold growsB
  rw [allB_iff]
  intro k hk
  have hm := h0 _ (List.getElem_mem hk)
  rw [← gi_eq hk] at hm
  unfold lastI
  simp only [Bool.and_eq_true, decide_eq_true_eq]
  refine ⟨?_, hm.2⟩
  split
  · omega
  · rw [List.pairwise_iff_getElem] at h
    have := h (k - 1) k (by omega) hk (by omega)
    rw [gi_eq hk, gi_eq (by omega : k - 1 < xs.length)]
    exact this
theorem pair_filter (f : Nat → Bool) (n : Nat) : (((List.range n).filter f).map fun (t : Nat) => (t : Int)).Pairwise (· < ·) := by
  rw [List.pairwise_map]
  exact ((List.pairwise_lt_range (n := n)).filter f).imp (fun h => by omega)
theorem grows_spots {x : Book} (hb : bookOk x = true) {i p : Nat} (hi : i < x.planks.length) (hp : p < x.parts.length) : growsB (spotsL x i p) (gw x.planks i).long = true := by
  rw [spots_good hb hi hp]
  refine grows_pairwise (pair_filter _ _) (fun y hy => ?_)
  rw [List.mem_map] at hy
  obtain ⟨t, ht, rfl⟩ := hy
  rw [List.mem_filter, List.mem_range] at ht
  have := (good_of hb).shape p hp
  have h := ht.1
  unfold many at h
  omega
theorem inc_pairwise {xs : List Int} (h : xs.Pairwise (· < ·)) : incB xs = true := by
  unfold incB
  rw [allB_iff]
  intro k hk
  rw [List.pairwise_iff_getElem] at h
  have := h k (k + 1) (by omega) (by omega) (by omega)
  rw [decide_eq_true_eq, gi_eq (by omega : k < xs.length), gi_eq (by omega : k + 1 < xs.length)]
  exact this
theorem memU_inc (s n : Nat) : incB (memU s n) = true := inc_pairwise (pair_filter _ _)

/-- What a search finds. -/
theorem srch_ok {bm : Int × Int → Option Int} {ps : List Shape} {long : Int} {parts : List Int} : ∀ (r : Nat) (M : Nat → Bool) (k : Nat) (l : List Int), srch bm ps long parts r M k = some l →
    l.length = r ∧ ∀ j, j < r → 0 ≤ gi l j ∧ gi l j ≤ long - lenOf ps parts (k + j) ∧ (bm (gi parts (k + j), gi l j)).getD 0 = 2 ∧
      ∀ m : Nat, m < 16 → gi l j ≤ m → (m : Int) < gi l j + lenOf ps parts (k + j) → M m = false ∧ ∀ j', j' < j → ¬ (gi l j' ≤ m ∧ (m : Int) < gi l j' + lenOf ps parts (k + j'))
  | 0, M, k, l, h => by
    simp only [srch, Option.some.injEq] at h
    subst h
    exact ⟨rfl, fun j hj => absurd hj (by omega)⟩
  | r + 1, M, k, l, h => by
    unfold srch at h
    obtain ⟨t, ht, h⟩ := List.exists_of_findSome?_eq_some h
    rw [List.mem_range] at ht
    split at h
    · rename_i hc
      obtain ⟨h2, hf⟩ := hc
      rw [Option.map_eq_some_iff] at h
      obtain ⟨l', hl', rfl⟩ := h
      obtain ⟨hlen, hall⟩ := srch_ok r _ (k + 1) l' hl'
      have hfr := free_iff.1 hf
      have htm : (t : Int) ≤ long - lenOf ps parts k := by unfold many at ht; omega
      refine ⟨by simp [hlen], fun j hj => ?_⟩
      cases j with
      | zero =>
        refine ⟨by simp [gi], by simpa [gi] using htm, by simpa [gi] using h2, fun m hm h1 h3 => ⟨hfr m hm (by simpa [gi] using h1) (by simp [gi] at h3; omega), fun j' hj' => absurd hj' (by omega)⟩⟩
      | succ j =>
        have e : gi ((t : Int) :: l') (j + 1) = gi l' j := by simp [gi]
        obtain ⟨a1, a2, a3, a4⟩ := hall j (by omega)
        rw [show k + 1 + j = k + (j + 1) by omega] at a2 a3 a4
        rw [e]
        refine ⟨a1, a2, a3, fun m hm h1 h3 => ?_⟩
        obtain ⟨b1, b2⟩ := a4 m hm h1 h3
        unfold orM betM at b1
        simp only [Bool.or_eq_false_iff, decide_eq_false_iff_not] at b1
        refine ⟨b1.1, fun j' hj' => ?_⟩
        cases j' with
        | zero =>
          rw [show gi ((t : Int) :: l') 0 = t by simp [gi]]
          have := b1.2
          show ¬ ((t : Int) ≤ m ∧ (m : Int) < t + lenOf ps parts (k + 0))
          rw [Nat.add_zero]; omega
        | succ j' =>
          rw [show gi ((t : Int) :: l') (j' + 1) = gi l' j' by simp [gi]]
          have := b2 j' (by omega)
          rw [show k + 1 + j' = k + (j' + 1) by omega] at this
          exact this
    · cases h

theorem lay_good {x : Book} (hb : bookOk x = true) {i : Nat} (hi : i < x.planks.length) {parts : List Int} (hp : ∀ k, k < parts.length → 0 ≤ gi parts k ∧ gi parts k < x.parts.length) (hc : incB parts = true) :
    layR x i parts = layO (layL (boardM (gw x.planks i) x.parts x.parts.length) x.parts (gw x.planks i).long parts) := by
  have ha : askE x i parts = 0 := by
    rw [askE_good hb, if_pos]
    simp only [numB, Bool.and_eq_true, decide_eq_true_eq, allB_iff]
    exact ⟨by omega, hp⟩
  unfold layR
  rw [if_pos ha, if_pos hc]
  simp only [Int.toNat_natCast]
theorem lay_laid {x : Book} (hb : bookOk x = true) {i : Nat} (hi : i < x.planks.length) {parts l K : List Int} (hp : ∀ k, k < parts.length → 0 ≤ gi parts k ∧ gi parts k < x.parts.length) (hK : Truth (gw x.planks i) K)
    (h : layL (boardM (gw x.planks i) x.parts x.parts.length) x.parts (gw x.planks i).long parts = some l) : laidB x i parts l K = true := by
  obtain ⟨hlen, hall⟩ := srch_ok _ _ _ _ h
  have hG := good_of hb
  have hL := hG.wood i hi
  unfold laidB
  rw [decide_eq_true hlen, Bool.true_and, allB_iff]
  intro k hk
  obtain ⟨a1, a2, a3, a4⟩ := hall k hk
  rw [Nat.zero_add] at a2 a3 a4
  have hpk := hp k hk
  have hS := hG.shape (gi parts k).toNat (by omega)
  have hlo : lenOf x.parts parts k = (partK x parts k).long := rfl
  rw [hlo] at a2 a4
  obtain ⟨t, ht⟩ := Int.eq_ofNat_of_zero_le a1
  rw [ht] at a2 a3 a4
  have hbm : ansOf (gw x.planks i) (partK x parts k) t = 2 := by
    unfold boardM at a3
    split at a3
    · unfold partK; simpa using a3
    · simp at a3
  have hcl := hK.two hbm
  unfold okK
  have hbad : badK x (gw x.planks i).long parts l K k = false := by
    unfold badK
    rw [ht, hcl, Bool.and_true, Bool.not_eq_false']
    unfold withinB
    simp only [Bool.and_eq_true, decide_eq_true_eq]
    omega
  rw [hbad, Bool.not_false, Bool.true_and]
  unfold freeK
  rw [allB_iff]
  intro j hj
  rw [Bool.not_eq_true', ← Bool.not_eq_true]
  unfold takenU
  rw [anyB_iff, ht]
  rintro ⟨j', hj', e⟩
  rw [decide_eq_true_eq] at e
  have hpl : (partK x parts k).long = (gs x.parts (gi parts k).toNat).long := rfl
  rw [hpl] at a2 a4 hj
  simp only [Int.toNat_natCast] at e
  have := (a4 (t + j) (by omega) (by omega) (by omega)).2 j' hj'
  rw [Nat.zero_add] at this
  exact this e
end Go.Proofs.Ytilbkmogmlcpaaa
namespace Go.Proofs.Ytilbkmogmlcpaaa
open Go.RowKit Go.Shelf

set_option maxRecDepth 100000 in
set_option maxHeartbeats 4000000 in
theorem true_any {B : Nat} {pa sa ba : Option Addr} {pn pc sn sc bn bc : Nat} {x : Book} {bits : List Int} {n0 n1 n2 n3 : Int} {w : World} (hB : B ≤ w.heap.size) (hx : BookAt B w pa pn sa sn x) (hbits : IntsAt B w ba bn bits) (h2 : I64 n2) :
    Calls Try.prog 6 #[.agg #[.slice pa pn pc, .slice sa sn sc], .slice ba bn bc, .agg #[.int .i64 n0, .int .i64 n1, .int .i64 n2, .int .i64 n3]] w fun e w' => e = .returned (.bool true) ∧ Below w.heap.size w w' := by
  have hpn := Lib.hid hx.planks.len
  have hsn := Lib.hid hx.parts.len
  have hps := hx.planks.small
  have hss := hx.parts.small
  have hbs := hbits.small
  obtain ⟨W0, hW0⟩ : ∃ W0, W0 = (w.alloc (.cells #[.slice pa pn pc, .slice sa sn sc] 25)).alloc (.cells #[.int .i64 n0, .int .i64 n1, .int .i64 n2, .int .i64 n3] 44) := ⟨_, rfl⟩
  have hb0 : Below w.heap.size w W0 := by rw [hW0]; exact ((Below.refl _ _).alloc (Nat.le_refl _) _).alloc (by simp) _
  have hk0 : Blk W0 w.heap.size #[.slice pa pn pc, .slice sa sn sc] := by rw [hW0]; exact (Blk.new w _ _).alloc _
  have hn0 : Blk W0 (w.heap.size + 1) #[.int .i64 n0, .int .i64 n1, .int .i64 n2, .int .i64 n3] := by
    rw [hW0]
    have := Blk.new (w.alloc (.cells #[.slice pa pn pc, .slice sa sn sc] 25)) #[.int .i64 n0, .int .i64 n1, .int .i64 n2, .int .i64 n3] 44
    rw [World.size_alloc] at this
    exact this
  have l0 : w.heap.size + 1 < W0.heap.size := hn0.lt
  have hx0 := Lib.hid (hx.keep (w' := W0) (Nat.le_refl _) (fun b o h => bcells hb0 b o (by omega)))
  have hbt := Lib.hid hbits
  clear hx hbits
  have hh2 := Lib.hid h2
  clear h2
  go_enter Try.func6, Try.ntmps6
  replace hW0 := hW0.symm
  have q0 : W0.cell? ⟨w.heap.size, 0, none⟩ = some (.slice pa pn pc) := hk0.cell
  have q1 : W0.cell? ⟨w.heap.size, 1, none⟩ = some (.slice sa sn sc) := hk0.cell
  go_wp2_with (fail)
  clear q0 q1 hW0
  refine (sound_any (B := B) (by omega) hx0.out).mono ?_
  rintro e w1 ⟨rfl, hb1⟩
  have hbw : Below w.heap.size w w1 := hb0.trans (hb1.mono (by omega))
  have hk1 := hk0.below hb1 (by omega)
  have hn1 := hn0.below hb1 l0
  have hx1 := Lib.hid (hx0.out.keep (w' := w1) (Nat.le_refl _) (fun b o h => bcells hb1 b o (by omega)))
  have l1 : w.heap.size + 1 < w1.heap.size := Nat.lt_of_lt_of_le l0 hb1.size
  clear hb1 hb0 hk0 hn0 hx0 l0
  rcases Bool.eq_false_or_eq_true (bookOk x) with hb | hb
  case inr =>
    rw [hb]
    clear hb
    go_wp2_with (fail)
    refine (sawn_any w1).mono ?_
    rintro e w2 ⟨rfl, hb2⟩
    go_wp2
    go_ret
    exact ⟨rfl, hbw.trans (hb2.mono (by omega))⟩
  rw [hb]
  have hG := Lib.hid (good_of hb)
  have hb' := Lib.hid hb
  clear hb
  have hp1 := hG.out.planks
  have hp2 := hG.out.parts
  rw [hpn.out] at hp1
  rw [hsn.out] at hp2
  obtain ⟨p1, p2⟩ := hp1
  obtain ⟨s1, s2⟩ := hp2
  have r0 := rnd_range (n := n0) (m := pn) (by omega)
  have r1 := rnd_range (n := n1) (m := sn) (by omega)
  obtain ⟨i, hi⟩ : ∃ i : Nat, (i : Int) = rnd n0 pn := ⟨(rnd n0 pn).toNat, by omega⟩
  obtain ⟨p, hp⟩ : ∃ p : Nat, (p : Int) = rnd n1 sn := ⟨(rnd n1 sn).toNat, by omega⟩
  have hip : i < pn := by omega
  have hps2 : p < sn := by omega
  clear r0 r1
  have q0 : w1.cell? ⟨w.heap.size, 0, none⟩ = some (.slice pa pn pc) := hk1.cell
  have q1 : w1.cell? ⟨w.heap.size, 1, none⟩ = some (.slice sa sn sc) := hk1.cell
  have q2 : w1.cell? ⟨w.heap.size + 1, 0, none⟩ = some (.int .i64 n0) := hn1.cell
  have q3 : w1.cell? ⟨w.heap.size + 1, 1, none⟩ = some (.int .i64 n1) := hn1.cell
  replace hi := hi.symm
  replace hp := hp.symm
  go_upto_region 3 with fail
  go_cut [7, 8] (fun s5 s6 wx => s5 = .int .i64 (i : Int) ∧ s6 = .int .i64 (p : Int) ∧ Below w1.heap.size w1 wx)
  case first =>
    go_quiet ((go_at_call 35; exact Calls.quiet_of_same (Round_same _ (by unfold I64; omega))))
    rw [hi, hp]
    go_wp2_with fail
    go_meet
    exact ⟨rfl, rfl, below_drewN (Below.refl _ _) _⟩
  case rest =>
  obtain ⟨rfl, rfl, hb2⟩ := hcut
  clear q0 q1 q2 q3 hi hp
  obtain ⟨w2, hw2⟩ : ∃ w2, w2 = wc := ⟨_, rfl⟩
  rw [← hw2] at hb2 ⊢
  clear hw2
  have hbw2 : Below w.heap.size w w2 := hbw.trans (hb2.mono (by omega))
  have hk2 := hk1.below hb2 (by omega)
  have hn2 := hn1.below hb2 l1
  have hx2 := Lib.hid (hx1.out.keep (w' := w2) (Nat.le_refl _) (fun b o h => bcells hb2 b o (by omega)))
  have l2 : w.heap.size + 1 < w2.heap.size := Nat.lt_of_lt_of_le l1 hb2.size
  clear hbw hk1 hn1 hx1 l1 hb2
  have q0 : w2.cell? ⟨w.heap.size, 0, none⟩ = some (.slice pa pn pc) := hk2.cell
  have q1 : w2.cell? ⟨w.heap.size, 1, none⟩ = some (.slice sa sn sc) := hk2.cell
  obtain ⟨pb, po, rfl, hpB, hpc⟩ := hx2.out.planks.get i hip
  obtain ⟨kv, hkv, c0, c1, _⟩ := hpc i hip
  obtain ⟨sb, so, rfl, hsB, hsc⟩ := hx2.out.parts.get p hps2
  obtain ⟨jv, hjv, d0, d1, d2, _⟩ := hsc p hps2
  clear hpc hsc
  obtain ⟨ka, kn, kc, rfl, hks⟩ := hkv
  obtain ⟨ja, jn, jc, rfl, hjs⟩ := hjv
  obtain ⟨KW, hKW⟩ : ∃ KW, KW = gw x.planks i := ⟨_, rfl⟩
  obtain ⟨S, hS⟩ : ∃ S, S = gs x.parts p := ⟨_, rfl⟩
  rw [← hKW] at c0 hks
  rw [← hS] at d0 d2 hjs
  have hKW' := Lib.hid hKW
  have hS' := Lib.hid hS
  have hks' := Lib.hid hks
  have hjs' := Lib.hid hjs
  have lp : pb < w2.heap.size := by omega
  have ls : sb < w2.heap.size := by omega
  have m0 : w.heap.size < w2.heap.size := by omega
  have m1 : w.heap.size < w2.heap.size + 1 := by omega
  have lp1 : pb < w2.heap.size + 1 := by omega
  have ls1 : sb < w2.heap.size + 1 := by omega
  clear hKW hS hks hjs
  go_upto_region 4 with fail
  go_cut [9, 10] (fun s7 s8 wx => ∃ bW bX : Nat, s7 = .pointer (some ⟨bW, 0, none⟩) ∧ s8 = .pointer (some ⟨bX, 0, none⟩) ∧ bW ≠ bX ∧ w2.heap.size ≤ bW ∧ w2.heap.size ≤ bX ∧
    Blk wx bW #[.int .i64 KW.long, .slice ka kn kc] ∧ Blk wx bX #[.int .i64 S.long, .slice ja jn jc, .bool S.turns] ∧ Below w2.heap.size w2 wx)
  case first =>
    go_region
    · as_aux_lemma =>
      go_wp2_with fail
      go_meet
      refine ⟨w2.heap.size, w2.heap.size + 1, rfl, rfl, by omega, Nat.le_refl _, Nat.le_succ _, ?_, ?_, ?_⟩
      · exact ((Blk.new w2 _ _).alloc _).drew
      · have := Blk.new (w2.alloc (.cells #[.int .i64 KW.long, .slice ka kn kc] 48)) #[.int .i64 S.long, .slice ja jn jc, .bool S.turns] 50
        rw [World.size_alloc] at this
        exact this.drew
      · exact (((Below.refl _ _).alloc (Nat.le_refl _) _).alloc (by simp) _).drew
    · as_aux_lemma =>
      go_wp2_with fail
      go_meet
      refine ⟨w2.heap.size + 1, w2.heap.size, rfl, rfl, by omega, Nat.le_succ _, Nat.le_refl _, ?_, ?_, ?_⟩
      · have := Blk.new (w2.alloc (.cells #[.int .i64 S.long, .slice ja jn jc, .bool S.turns] 50)) #[.int .i64 KW.long, .slice ka kn kc] 48
        rw [World.size_alloc] at this
        exact this.drew
      · exact ((Blk.new w2 _ _).alloc _).drew
      · exact (((Below.refl _ _).alloc (Nat.le_refl _) _).alloc (by simp) _).drew
  case rest =>
  obtain ⟨bW, bX, rfl, rfl, hne, lW, lX, hBW, hBX, hb3⟩ := hcut
  obtain ⟨w3, hw3⟩ : ∃ w3, w3 = wc := ⟨_, rfl⟩
  rw [← hw3] at hBW hBX hb3 ⊢
  clear hw3 q0 q1 m0 m1 lp lp1 ls ls1 c0 c1 d0 d1 d2
  have hbw3 : Below w.heap.size w w3 := hbw2.trans (hb3.mono (by omega))
  have hk3 := hk2.below hb3 (by omega)
  have hn3 := hn2.below hb3 l2
  have hx3 := Lib.hid (hx2.out.keep (w' := w3) (Nat.le_refl _) (fun b o h => bcells hb3 b o (by omega)))
  have hks3 := Lib.hid (hks'.out.keep (w' := w3) (Nat.le_refl _) (fun b o h => bcells hb3 b o (by omega)))
  have hjs3 := Lib.hid (hjs'.out.keep (w' := w3) (Nat.le_refl _) (fun b o h => bcells hb3 b o (by omega)))
  have l3 : w.heap.size + 1 < w3.heap.size := Nat.lt_of_lt_of_le l2 hb3.size
  have lW1 : w.heap.size + 1 < bW := by omega
  have lX1 : w.heap.size + 1 < bX := by omega
  clear hbw2 hk2 hn2 hx2 hks' hjs' hb3 lW lX
  have hGw := hG.out.wood i (by rw [hpn.out]; exact hip)
  have hGs := hG.out.shape p (by rw [hsn.out]; exact hps2)
  rw [← hKW'.out] at hGw
  rw [← hS'.out] at hGs
  obtain ⟨gw1, gw2, gw3⟩ := hGw
  obtain ⟨gs1, gs2, gs3⟩ := hGs
  have a0 : w3.cell? ⟨bW, 0, none⟩ = some (.int .i64 KW.long) := hBW.cell
  have a1 : w3.cell? ⟨bW, 1, none⟩ = some (.slice ka kn kc) := hBW.cell
  have e0 : w3.cell? ⟨bX, 0, none⟩ = some (.int .i64 S.long) := hBX.cell
  have e1 : w3.cell? ⟨bX, 1, none⟩ = some (.slice ja jn jc) := hBX.cell
  have e2 : w3.cell? ⟨bX, 2, none⟩ = some (.bool S.turns) := hBX.cell
  have q0 : w3.cell? ⟨w.heap.size, 0, none⟩ = some (.slice (some ⟨pb, po, none⟩) pn pc) := hk3.cell
  have q1 : w3.cell? ⟨w.heap.size, 1, none⟩ = some (.slice (some ⟨sb, so, none⟩) sn sc) := hk3.cell
  have q2 : w3.cell? ⟨w.heap.size + 1, 2, none⟩ = some (.int .i64 n2) := hn3.cell
  have hxi : i < x.planks.length := by rw [hpn.out]; exact hip
  have hxp : p < x.parts.length := by rw [hsn.out]; exact hps2
  have hkn := Lib.hid hks3.out.len
  have hbt3 := Lib.hid (hbt.out.keep (w' := w3) (Nat.le_refl _) (fun b o h => bcells hbw3 b o (by omega)))
  have hKnot : Hid (∀ k, k < KW.knots.length → Knot (gp KW.knots k)) := Lib.hid (fun k hk => by rw [hKW'.out] at hk ⊢; exact hG.out.knot i hxi k hk)
  have hJin : Hid (JointsIn S) := Lib.hid (by rw [hS'.out]; exact hG.out.joint p hxp)
  have hBw : B ≤ w3.heap.size := by have := hbw3.size; omega
  go_wp2_with (fail)
  refine (truly_any (B := B) (C := B) (W := KW) hBw hBw ⟨ka, kn, kc, rfl, hks3.out⟩ hbt3.out hKnot.out gw3).mono ?_
  rintro e w4 ⟨ta, tn, tc, rfl, hK, hb4⟩
  obtain ⟨K, hKe⟩ : ∃ K, K = trulyU KW bits KW.knots.length := ⟨_, rfl⟩
  rw [← hKe] at hK
  have hTr : Hid (Truth KW K) := Lib.hid (by rw [hKe]; exact truth_of hKnot.out)
  clear hKe hbt3 q0 q1 q2 a0 a1 e0 e1 e2
  have hbw4 : Below w.heap.size w w4 := hbw3.trans (hb4.mono (by omega))
  have hk4 := hk3.below hb4 (by omega)
  have hn4 := hn3.below hb4 l3
  have hW4 := hBW.below hb4 hBW.lt
  have hX4 := hBX.below hb4 hBX.lt
  have hx4 := Lib.hid (hx3.out.keep (w' := w4) (Nat.le_refl _) (fun b o h => bcells hb4 b o (by omega)))
  have hjs4 := Lib.hid (hjs3.out.keep (w' := w4) (Nat.le_refl _) (fun b o h => bcells hb4 b o (by omega)))
  have l4 : w.heap.size + 1 < w4.heap.size := hn4.lt
  have lW4 := hW4.lt
  have lX4 := hX4.lt
  clear hb4 hbw3 hk3 hn3 hBW hBX hx3 hjs3 hks3 l3 hBw
  have a0 : w4.cell? ⟨bW, 0, none⟩ = some (.int .i64 KW.long) := hW4.cell
  have e0 : w4.cell? ⟨bX, 0, none⟩ = some (.int .i64 S.long) := hX4.cell
  have q2 : w4.cell? ⟨w.heap.size + 1, 2, none⟩ = some (.int .i64 n2) := hn4.cell
  go_wp2_with (fail)
  refine (Round_any _ (by unfold I64; omega)).mono ?_
  rintro e w5 ⟨rfl, rfl⟩
  clear q2
  go_upto_if 63 with fail
  go_cut [12] (fun _ wx => Below w4.heap.size w4 wx)
  case first =>
    by_cases hge : S.long ≤ KW.long
    case neg =>
      as_aux_lemma =>
        go_wp2_with fail
        go_meet
        exact Below.refl _ _
    obtain ⟨t, ht⟩ : ∃ t : Nat, (t : Int) = rnd n2 (KW.long - S.long + 1) := ⟨(rnd n2 (KW.long - S.long + 1)).toNat, by have := rnd_range (n := n2) (m := KW.long - S.long + 1) (by omega); omega⟩
    have ht2 : (t : Int) ≤ KW.long - S.long := by have := rnd_range (n := n2) (m := KW.long - S.long + 1) (by omega); omega
    have ht3 : (t : Int) ≤ (gw x.planks i).long - (gs x.parts p).long := by rw [← hKW'.out, ← hS'.out]; exact ht2
    have hcg := can_good hb'.out hxi hxp ht3
    rw [← hKW'.out, ← hS'.out] at hcg
    have hcg' := Lib.hid hcg
    rw [← ht]
    clear hcg ht3 ht
    have q0 : w4.cell? ⟨w.heap.size, 0, none⟩ = some (.slice (some ⟨pb, po, none⟩) pn pc) := hk4.cell
    have q1 : w4.cell? ⟨w.heap.size, 1, none⟩ = some (.slice (some ⟨sb, so, none⟩) sn sc) := hk4.cell
    go_wp2_with (fail)
    refine (Can_any (B := B) (i := i) (j := p) (t := t) (by omega) hx4.out (by unfold I64; omega)).mono ?_
    rintro e w5 ⟨rfl, hb5⟩
    rw [hcg'.out]
    obtain ⟨A, hA⟩ : ∃ A, A = ansOf KW S t := ⟨_, rfl⟩
    simp only [← hA]
    have hA' := Lib.hid hA
    clear hA a0 e0 q0 q1
    have hX5 := hX4.below hb5 lX4
    have hjs5 := Lib.hid (hjs4.out.keep (w' := w5) (Nat.le_refl _) (fun b o h => bcells hb5 b o (by omega)))
    have hK5 := Lib.hid (hK.keep (B' := w5.heap.size) (w' := w5) hb5.size (fun b o h => bcells hb5 b o h))
    have hz5 := hb5.size
    obtain ⟨c1, hc1⟩ : ∃ c1, clearB S t false K = c1 := ⟨_, rfl⟩
    obtain ⟨c2, hc2⟩ : ∃ c2, clearB S t true K = c2 := ⟨_, rfl⟩
    obtain ⟨T, hT⟩ : ∃ T, S.turns = T := ⟨_, rfl⟩
    have hIs2 : A = 2 → (c1 || (T && c2)) = true := fun h => by
      have := hTr.out.two (S := S) (t := t) (by rw [← hA'.out]; exact h)
      rw [hc1, hc2, hT] at this; exact this
    have hIs0 : A = 0 → (c1 || (T && c2)) = false := fun h => by
      have := hTr.out.zero (S := S) (t := t) (by rw [← hA'.out]; exact h)
      rw [hc1, hc2, hT] at this; exact this
    have hwi : Hid (withinB A 0 2 = true) := Lib.hid (by rw [hA'.out]; exact ans_range _ _ _)
    obtain ⟨isv, hisv⟩ : ∃ isv, isv = (c1 || (T && c2)) := ⟨_, rfl⟩
    rw [← hisv] at hIs2 hIs0
    have hIs2' := Lib.hid hIs2
    have hIs0' := Lib.hid hIs0
    have hisv' := Lib.hid hisv
    have hc1' := Lib.hid hc1
    have hc2' := Lib.hid hc2
    rw [hT] at hX5
    clear hIs2 hIs0 hisv hc1 hc2
    have e0 : w5.cell? ⟨bX, 0, none⟩ = some (.int .i64 S.long) := hX5.cell
    have e1 : w5.cell? ⟨bX, 1, none⟩ = some (.slice ja jn jc) := hX5.cell
    have e2 : w5.cell? ⟨bX, 2, none⟩ = some (.bool T) := hX5.cell
    go_upto_region 9 with fail
    go_cut [15] (fun s wx => s = .bool isv ∧ Below w5.heap.size w5 wx)
    case first =>
      go_wp2_with (fail)
      refine (clear_any (B := B) (C := w5.heap.size) (x := S) (t := t) (tb := T) (turned := false) (by omega) (Nat.le_refl _) ⟨ja, jn, jc, rfl, hjs5.out⟩ hK5.out hJin.out gs2 (by omega) (by omega)).mono ?_
      rintro e w6 ⟨rfl, hb6⟩
      rw [hc1'.out]
      have hX6 := hX5.below hb6 hX5.lt
      have hjs6 := Lib.hid (hjs5.out.keep (w' := w6) (Nat.le_refl _) (fun b o h => bcells hb6 b o (by omega)))
      have hK6 := Lib.hid (hK5.out.keep (w' := w6) hb6.size (fun b o h => bcells hb6 b o h))
      clear e0 e1 e2
      have e0 : w6.cell? ⟨bX, 0, none⟩ = some (.int .i64 S.long) := hX6.cell
      have e1 : w6.cell? ⟨bX, 1, none⟩ = some (.slice ja jn jc) := hX6.cell
      have e2 : w6.cell? ⟨bX, 2, none⟩ = some (.bool T) := hX6.cell
      have hz6 := hb6.size
      cases c1 with
      | true =>
        as_aux_lemma =>
          go_wp2_with fail
          go_meet
          exact ⟨by rw [hisv'.out]; rfl, hb6⟩
      | false =>
        cases T with
        | false =>
          as_aux_lemma =>
            go_wp2_with fail
            go_meet
            exact ⟨by rw [hisv'.out]; rfl, hb6⟩
        | true =>
          go_wp2_with (fail)
          refine (clear_any (B := B) (C := w6.heap.size) (x := S) (t := t) (tb := true) (turned := true) (by omega) (Nat.le_refl _) ⟨ja, jn, jc, rfl, hjs6.out⟩ hK6.out hJin.out gs2 (by omega) (by omega)).mono ?_
          rintro e w7 ⟨rfl, hb7⟩
          rw [hc2'.out]
          go_wp2_with fail
          go_meet
          exact ⟨by rw [hisv'.out]; cases c2 <;> rfl, hb6.trans (hb7.mono hb6.size)⟩
    case rest =>
    obtain ⟨rfl, hb6⟩ := hcut
    clear e0 e1 e2
    obtain ⟨A2, hA2⟩ : ∃ A2, (A == 2) = A2 := ⟨_, rfl⟩
    obtain ⟨A0, hA0⟩ : ∃ A0, (A == 0) = A0 := ⟨_, rfl⟩
    have h3 : (A2 = true ∧ A0 = false ∧ isv = true) ∨ (A2 = false ∧ A0 = true ∧ isv = false) ∨ (A2 = false ∧ A0 = false) := by
      by_cases g2 : A = 2
      · exact .inl ⟨by rw [← hA2]; simp [g2], by rw [← hA0]; simp [g2], hIs2'.out g2⟩
      · by_cases g0 : A = 0
        · exact .inr (.inl ⟨by rw [← hA2]; simp [g2], by rw [← hA0]; simp [g0], hIs0'.out g0⟩)
        · exact .inr (.inr ⟨by rw [← hA2]; simp [g2], by rw [← hA0]; simp [g0]⟩)
    have hend := Lib.hid (hb5.trans (hb6.mono hz5))
    rcases h3 with ⟨rfl, rfl, rfl⟩ | ⟨rfl, rfl, rfl⟩ | ⟨rfl, rfl⟩
    all_goals
      as_aux_lemma =>
        go_wp2_with (go_at_call 38; refine (In_any _ _ _ _).mono ?_; rintro e w' ⟨rfl, rfl⟩; rw [hwi.out])
        go_meet
        exact hend.out
  case rest =>
  obtain ⟨w5, hw5⟩ : ∃ w5, w5 = wc := ⟨_, rfl⟩
  rw [← hw5] at hcut ⊢
  clear hw5 a0 e0
  have hbw5 : Below w.heap.size w w5 := hbw4.trans (hcut.mono (by omega))
  have hk5 := hk4.below hcut (by omega)
  have hn5 := hn4.below hcut l4
  have hW5 := hW4.below hcut lW4
  have hx5 := Lib.hid (hx4.out.keep (w' := w5) (Nat.le_refl _) (fun b o h => bcells hcut b o (by omega)))
  have hK5 := Lib.hid (hK.keep (B' := w5.heap.size) (w' := w5) hcut.size (fun b o h => bcells hcut b o h))
  have l5 : w.heap.size + 1 < w5.heap.size := hn5.lt
  have hz5 := hcut.size
  clear hcut hbw4 hk4 hn4 hW4 hX4 hx4 hjs4 hK l4 hbt
  have q0 : w5.cell? ⟨w.heap.size, 0, none⟩ = some (.slice (some ⟨pb, po, none⟩) pn pc) := hk5.cell
  have q1 : w5.cell? ⟨w.heap.size, 1, none⟩ = some (.slice (some ⟨sb, so, none⟩) sn sc) := hk5.cell
  go_wp2_with (fail)
  refine (Spots_any (B := B) (i := i) (j := p) (by omega) hx5.out (by unfold I64; omega)).mono ?_
  rintro e w6 ⟨_, rfl, ⟨va, vn, vc, rfl, hv⟩, hb6⟩
  rw [ask_zero hb'.out hxi hxp]
  have hgr : Hid (growsB (spotsL x i p) KW.long = true) := Lib.hid (by rw [hKW'.out]; exact grows_spots hb'.out hxi hxp)
  obtain ⟨Ls, hLs⟩ : ∃ Ls, Ls = spotsL x i p := ⟨_, rfl⟩
  rw [← hLs] at hv hgr
  clear hLs q0 q1
  have hW6 := hW5.below hb6 hW5.lt
  have a0 : w6.cell? ⟨bW, 0, none⟩ = some (.int .i64 KW.long) := hW6.cell
  go_wp2_with (fail)
  refine (Grows_any (m := KW.long) hv).mono ?_
  rintro e w7 ⟨rfl, hq7⟩
  rw [hgr.out]
  have hb7 : Below w5.heap.size w5 w7 := hb6.trans ((hq7.below _).mono hb6.size)
  have hbw7 : Below w.heap.size w w7 := hbw5.trans (hb7.mono (by omega))
  have hk7 := hk5.below hb7 (by omega)
  have hn7 := hn5.below hb7 l5
  have hx7 := Lib.hid (hx5.out.keep (w' := w7) (Nat.le_refl _) (fun b o h => bcells hb7 b o (by omega)))
  have hK7 := Lib.hid (hK5.out.keep (B' := w7.heap.size) (w' := w7) hb7.size (fun b o h => bcells hb7 b o h))
  have l7 : w.heap.size + 1 < w7.heap.size := hn7.lt
  have hz7 := hb7.size
  clear hb6 hb7 hq7 hv hgr hW5 hW6 a0 hbw5 hk5 hn5 hx5 hK5 l5
  obtain ⟨N, hN⟩ : ∃ N, N = 2 ^ sn := ⟨_, rfl⟩
  have hN1 : 1 ≤ N := by rw [hN]; exact Nat.pow_pos (by decide)
  have hN32 : N ≤ 32 := by rw [hN]; exact pow_le32 s2
  have hwr0 : Hid (wrap64 (2 ^ sn) = (N : Int)) := Lib.hid (by rw [hN]; exact wrap_pow s2)
  have hNI : Hid (I64 (N : Int)) := Lib.hid (by unfold I64; omega)
  obtain ⟨sv, hsv⟩ : ∃ sv : Nat, rnd n3 N = sv := ⟨(rnd n3 N).toNat, by have := rnd_range (n := n3) (m := N) (by omega); omega⟩
  have hsv32 : sv < 32 := by have := rnd_range (n := n3) (m := N) (by omega); omega
  have hsv' := Lib.hid hsv
  clear hN hsv
  go_upto_region 15 with fail
  go_cut [18] (fun s wx => ∃ (la : Option Addr) (lm lc : Nat), s = .slice la lm lc ∧ IntsAt wx.heap.size wx la lm (memU sv sn) ∧ Below w7.heap.size w7 wx)
  case first =>
    have hO := open_wide
    have hF := hO.fn
    have hd := hO.depth
    have hS0 : SameBut (fun _ => False) w7 w7.drew := (SameBut.refl _ _).drew
    have hread : ∀ w', SameBut (fun _ => False) w7 w' → w'.cell? ⟨w.heap.size + 1, 3, none⟩ = some (.int .i64 n3) ∧ w'.cell? ⟨w.heap.size, 1, none⟩ = some (.slice (some ⟨sb, so, none⟩) sn sc) := fun w' h =>
      ⟨(hn7.same h (fun e => e)).cell, (hk7.same h (fun e => e)).cell⟩
    have hwr : IntKind.i64.wrap (2 ^ sn) = (N : Int) := (IntWalk.i64_left _).trans hwr0.out
    refine region_planW (fun w' => SameBut (fun _ => False) w7 w') [(0, true), (1, true), (2, true), (3, true), (4, true), (5, true), (7, true), (8, true), (9, true), (6, false), (10, false), (11, true)] (by kernel_rfl) (by kernel_rfl) (by kernel_rfl) (by decide) (by kernel_rfl) ?_
    iterate 9
      (refine plan_take ?_ rfl hS0 (by rfl) ?_ ?_
       rotate_left
       · intro w' hw'
         obtain ⟨q1, q2⟩ := hread w' hw'
         go_simp
         with_reducible rfl
       simp only [Act.put, List.setIfInBounds_toArray, List.set_cons_zero, List.set_cons_succ])
    refine plan_one rfl (by rfl) (fun K hK => ?_)
    go_simp
    refine (hO.calls (Round_any (n := n3) (m := N) _ hNI.out)).mono ?_
    rintro e w8 ⟨rfl, rfl⟩
    rw [hsv'.out]
    refine hK _ _ hS0 ?_
    clear hK K
    refine plan_one rfl (by rfl) (fun K hK => ?_)
    go_simp
    refine (hO.calls (List_any (s := sv) (N := sn) hsv32 s2)).mono ?_
    rintro e w8 ⟨la, lm, lc, rfl, hl8, hb8⟩
    have hS8 : SameBut (fun _ => False) w7 w8 := hS0.below hb8
    refine hK _ _ hS8 ?_
    clear hK K
    refine plan_take ?_ rfl hS8 (by rfl) ?_ ?_
    rotate_left
    · intro w' hw'
      go_simp
      with_reducible rfl
    simp only [Act.put, List.setIfInBounds_toArray, List.set_cons_zero, List.set_cons_succ]
    unfold planW okN
    go_wp2_with fail
    go_meet
    exact ⟨_, _, _, rfl, hl8, hS8.toBelow (Nat.le_refl _) (fun _ h => h.elim)⟩
  case rest =>
  obtain ⟨la, lm, lc, rfl, hl8, hb8⟩ := hcut
  obtain ⟨w8, hw8⟩ : ∃ w8, w8 = wc := ⟨_, rfl⟩
  rw [← hw8] at hl8 hb8 ⊢
  clear hw8 hwr0 hsv' hNI
  have hbw8 : Below w.heap.size w w8 := hbw7.trans (hb8.mono (by omega))
  have hk8 := hk7.below hb8 (by omega)
  have hz8 := hb8.size
  have hx8 := Lib.hid (hx7.out.keep (B' := w8.heap.size) (w' := w8) (by omega) (fun b o h => bcells hb8 b o (by omega)))
  have hK8 := Lib.hid (hK7.out.keep (B' := w8.heap.size) (w' := w8) hb8.size (fun b o h => bcells hb8 b o h))
  have hl8' := Lib.hid hl8
  have q0 : w8.cell? ⟨w.heap.size, 0, none⟩ = some (.slice (some ⟨pb, po, none⟩) pn pc) := hk8.cell
  have q1 : w8.cell? ⟨w.heap.size, 1, none⟩ = some (.slice (some ⟨sb, so, none⟩) sn sc) := hk8.cell
  obtain ⟨parts, hparts⟩ : ∃ parts, parts = memU sv sn := ⟨_, rfl⟩
  have hpr : Hid (∀ k, k < parts.length → 0 ≤ gi parts k ∧ gi parts k < x.parts.length) := Lib.hid (fun k hk => by
    rw [hparts] at hk ⊢
    have := memU_i64 (n := sv) (k := sn) (by omega) hk
    rw [hsn.out]; exact ⟨this.1, this.2.1⟩)
  have hpc : Hid (incB parts = true) := Lib.hid (by rw [hparts]; exact memU_inc _ _)
  have hp5 : Hid (parts.length ≤ 5) := Lib.hid (by rw [hparts]; have := memU_len sv sn; omega)
  rw [← hparts] at hl8'
  have hlg := lay_good hb'.out hxi hpr.out hpc.out
  obtain ⟨o, ho⟩ : ∃ o, o = layL (boardM (gw x.planks i) x.parts x.parts.length) x.parts (gw x.planks i).long parts := ⟨_, rfl⟩
  rw [← ho] at hlg
  have ho' := Lib.hid ho
  clear hl8 hparts ho hx7 hK7 hk7 hn7 hbw7 hb8
  go_wp2_with (fail)
  have hlay := Lay_any (pc := pc) (sc := sc) (i := (i : Int)) (lc := lc) (Nat.le_refl _) hx8.out hl8'.out
  rw [hlg] at hlay
  refine hlay.mono ?_
  clear hlay hlg
  rintro e w9 ⟨ra, rn, rc, rfl, hl9, hb9⟩
  have hbw9 : Below w.heap.size w w9 := hbw8.trans (hb9.mono (by omega))
  have hend : Hid (∀ w', Below w9.heap.size w9 w' → Below w.heap.size w w') := Lib.hid (fun w' h => hbw9.trans (h.mono hbw9.size))
  cases o with
  | none =>
    have hrn := hl9.len
    obtain rfl : rn = 0 := by simpa [layO] using hrn.symm
    clear hrn hl9 q0 q1
    simp only [layO]
    go_wp2_with (fail)
    refine (sawn_any _).mono ?_
    rintro e w10 ⟨rfl, hb10⟩
    go_wp2_with (fail)
    go_ret
    exact ⟨rfl, hend.out _ hb10⟩
  | some l =>
    simp only [layO] at hl9 ⊢
    have hlaid := lay_laid hb'.out hxi hpr.out (K := K) (by rw [← hKW'.out]; exact hTr.out) ho'.out.symm
    have hlaid' := Lib.hid hlaid
    clear hlaid q0 q1
    have hk9 := hk8.below hb9 (by omega)
    have q0 : w9.cell? ⟨w.heap.size, 0, none⟩ = some (.slice (some ⟨pb, po, none⟩) pn pc) := hk9.cell
    have q1 : w9.cell? ⟨w.heap.size, 1, none⟩ = some (.slice (some ⟨sb, so, none⟩) sn sc) := hk9.cell
    have hx9 := Lib.hid (hx8.out.keep (B' := w9.heap.size) (w' := w9) hb9.size (fun b o h => bcells hb9 b o h))
    have hK9 := Lib.hid (hK8.out.keep (B' := w9.heap.size) (w' := w9) hb9.size (fun b o h => bcells hb9 b o h))
    have hp9 := Lib.hid (hl8'.out.keep (B' := w9.heap.size) (w' := w9) hb9.size (fun b o h => bcells hb9 b o h))
    have hl9' := Lib.hid hl9
    clear hl9 hb9 hl8'
    go_wp2_with (fail)
    refine (laid_any (Nat.le_refl _) hx9.out hb'.out hxi hp9.out hl9'.out hK9.out hpr.out hp5.out).mono ?_
    rintro e w10 ⟨rfl, hb10⟩
    rw [hlaid'.out]
    have hend2 : Hid (Below w.heap.size w w10) := Lib.hid (hend.out _ hb10)
    go_wp2_with (fail)
    refine (sawn_any _).mono ?_
    rintro e w11 ⟨rfl, hb11⟩
    go_wp2_with (fail)
    go_ret
    exact ⟨rfl, hend2.out.trans (hb11.mono hend2.out.size)⟩
end Go.Proofs.Ytilbkmogmlcpaaa
namespace Go.Proofs.Ytilbkmogmlcpaaa
open Go.ChangeShapes Go.WideShapes Go.ChangeAt Go.RowKit Go.Deep

set_option maxRecDepth 100000 in
theorem true_lifted (os : Os) (started : os.Started) (H : Type) (enc : TypeId × Value → H) :
    ReturnsInHanded {} Try.checked os 6 .any (Rows.plankTrueSpec.pre6 enc Try.prog Try.f6 Rows.plankTrueRow.domain false) (Rows.plankTrueSpec.post enc Try.prog Try.f6 false true false false) := by
  refine returnsInHanded_of_change_sized (C := Try.checked) ownKnobs started (by kernel_rfl) Try.func6
    (ChangeSpec.witness6 (enc := enc) (C := Try.checked) false ⟨#[], #[.agg #[.slice none 0 0, .slice none 0 0], .slice none 0 0, .agg #[.int .i64 0, .int .i64 0, .int .i64 0, .int .i64 0]], []⟩ 8 (by kernel_rfl) (by kernel_rfl) (by kernel_rfl) (by kernel_rfl)) ?_
  intro W base args ds gs before hval0 hW hcnd hsz0 _
  have hval : ∀ (j : Nat) t v, Try.f6.params[j]? = some t → args[j]? = some v → Value.okWide Try.prog W .any base t v := hval0
  have hsz : (DataW.weightsEach Try.prog (Try.f6.params.toList ++ Rows.plankTrueSpec.plain.varTypes Try.prog) (ds ++ gs)).all (· ≤ reachBytes) = true := hsz0
  have hW' := hW
  obtain ⟨p, q, hA0, hV, rfl, hfz, hnd⟩ := hW
  have hA : DataW.TrodAll enc Try.prog W 0 (fun _ => true) true Try.f6.params.toList args.toList ds p := hA0
  rw [Try.params6] at hA hval hsz
  obtain ⟨v0, vs0, d0, ds0, p0, q0, hargs, rfl, rfl, h0, r0⟩ := trodAll_cons hA
  obtain ⟨v1, vs1, d1, ds1, p1, q1, rfl, rfl, rfl, h1, r1⟩ := trodAll_cons r0
  obtain ⟨v2, vs2, d2, ds2, p2, q2, rfl, rfl, rfl, h2, r2⟩ := trodAll_cons r1
  obtain ⟨rfl, rfl, rfl⟩ := trodAll_nil r2
  obtain rfl : args = #[v0, v1, v2] := by cases args; simp_all
  obtain ⟨rfl, rfl⟩ := trodVars_none hV
  have lt0 : ∀ x ∈ p0, x.block < W.heap.size := by obtain ⟨m, hm⟩ := h0; exact DataW.trod_lt m _ _ _ hm
  have lt1 : ∀ x ∈ p1, x.block < W.heap.size := by obtain ⟨m, hm⟩ := h1; exact DataW.trod_lt m _ _ _ hm
  have lt2 : ∀ x ∈ p2, x.block < W.heap.size := by obtain ⟨m, hm⟩ := h2; exact DataW.trod_lt m _ _ _ hm
  have z1 : Sized 31 d1 := sized_each hsz (j := 1) rfl rfl
  have z0 : Sized 25 d0 := sized_each hsz (j := 0) rfl rfl
  obtain ⟨pa, pn, pc, sa, sn, sc, x, rfl, hx⟩ := book_open (hval 0 25 v0 rfl rfl) h0 z0
  obtain ⟨ba, bn, bc, bits, rfl, hbits⟩ := list_open (hval 1 31 v1 rfl rfl) h1 z1
  obtain ⟨n0, n1, n2, n3, rfl, i0, i1, i2, i3⟩ := four_open (hval 2 44 v2 rfl rfl) h2
  clear hA0 hval0 hsz0
  refine (true_any (Nat.le_refl _) hx hbits i2).mono fun e W' ⟨he, bel⟩ => ?_
  subst he
  exact ⟨_, rfl, _, _, _, [], _, [], hW', trodAll_mk1 (shut_bool Try.underlying4 _), (trodAll_cons_mk (Below.trod laidOut (by kernel_rfl) (of_decide_eq_true (by kernel_rfl)) h0 bel lt0) (trodAll_cons_mk (Below.trod laidOut (by kernel_rfl) (of_decide_eq_true (by kernel_rfl)) h1 bel lt1) (trodAll_cons_mk (Below.trod laidOut (by kernel_rfl) (of_decide_eq_true (by kernel_rfl)) h2 bel lt2) trodAll_mk0))), rfl, bel.frame _, fun h => by cases h⟩

theorem plankTrue_holds : Rows.PlankTrueSaid :=
  OpenClaim.holds_of_wide 6 Try.f6 rfl rfl rfl rfl rfl rfl rfl ⟨rfl, rfl, rfl, rfl, rfl⟩ rfl rfl rfl rfl rfl (by kernel_rfl) Try.func6 (by kernel_rfl)
    (of_decide_eq_true (by kernel_rfl)) (by unfold Func.isWrapper; first | (rw [if_pos (by decide +kernel)]; kernel_rfl) | (rw [if_neg (by decide +kernel)]; exact ⟨rfl, rfl⟩))
    (fun os started H enc _ => true_lifted os started H enc)
end Go.Proofs.Ytilbkmogmlcpaaa
