/- Walks: PlankLacks. Walks: the set of a list; is a list better than another one? Walks: PlankMost. -/
import Derived.Test.YtbbolibkheelmaaPfs06
import Derived.Test.YtbbolibkheelmaaPfs05
import Derived.Test.YtbbolibkheelmaaPfs04
namespace Go.Proofs.Ytbbolibkheelmaa
open Go.RowKit Go.Shelf

theorem pow_pred {n : Nat} (hn : n ≤ 5) : ∃ U : Nat, U = 2 ^ n - 1 ∧ U < 32 ∧ U < 2 ^ n ∧ wrap64 (2 ^ n) = (U : Int) + 1 := by
  have h1 := wrap_pow hn
  have h2 := pow_le32 hn
  have h3 := Nat.pow_pos (n := n) (a := 2) (by decide)
  exact ⟨2 ^ n - 1, rfl, by omega, by omega, by rw [h1]; omega⟩
theorem pow_up {n k X : Nat} (hX : X < 2 ^ k) (hk : k ≤ n) : X < 2 ^ n := Nat.lt_of_lt_of_le hX (Nat.pow_le_pow_right (by decide) hk)
theorem enough_ones {x : Book} {m k : Nat} (hb : bookOk x = true) (hm : m = x.planks.length) (hk : k ≤ x.parts.length) : (enoughR x (2 ^ m - 1) (2 ^ k - 1)).1 = true ↔ Pack x (fun _ => True) (fun p => p < k) := by
  rw [(enough_is hb (by rw [hm]; exact ones_lt _) (by have := Nat.pow_le_pow_right (n := 2) (by decide) hk; have := ones_lt k; omega)).2]
  constructor
  · exact fun h => h.mono (fun _ _ _ => trivial) (fun p hp => by rw [has_ones]; exact decide_eq_true hp)
  · exact fun h => h.mono (fun i hi _ => by rw [has_ones, hm]; exact decide_eq_true hi) (fun p hp => by rw [has_ones] at hp; simpa using hp)

theorem enough_at {x : Book} {m k V X : Nat} (hb : bookOk x = true) (hm : m = x.planks.length) (hk : k ≤ x.parts.length) (hV : V = 2 ^ m - 1) (hX : X = 2 ^ k - 1) : (enoughR x V X).1 = true ↔ Pack x (fun _ => True) (fun p => p < k) := by
  subst hV
  subst hX
  exact enough_ones hb hm hk
theorem enough_not {x : Book} {m k V X : Nat} (hb : bookOk x = true) (hm : m = x.planks.length) (hk : k ≤ x.parts.length) (hV : V = 2 ^ m - 1) (hX : X = 2 ^ k - 1) (h : ¬ Pack x (fun _ => True) (fun p => p < k)) : (enoughR x V X).1 = false := by
  rw [← Bool.not_eq_true, enough_at hb hm hk hV hX]
  exact h

set_option maxRecDepth 100000 in
set_option maxHeartbeats 4000000 in
theorem lacks_law {B : Nat} {pa sa : Option Addr} {pn pc sn sc : Nat} {x : Book} {w : World} (hB : B ≤ w.heap.size) (hx : BookAt B w pa pn sa sn x) :
    Calls Try.prog 11 #[.agg #[.slice pa pn pc, .slice sa sn sc]] w fun e w' => e = .returned (.bool true) ∧ Below w.heap.size w w' := by
  have hpn := Lib.hid hx.planks.len
  have hsn := Lib.hid hx.parts.len
  obtain ⟨W0, hW0⟩ : ∃ W0, W0 = w.alloc (.cells #[.slice pa pn pc, .slice sa sn sc] 25) := ⟨_, rfl⟩
  have hb0 : Below w.heap.size w W0 := by rw [hW0]; exact (Below.refl _ _).alloc (Nat.le_refl _) _
  have hk : Blk W0 w.heap.size #[.slice pa pn pc, .slice sa sn sc] := by rw [hW0]; exact Blk.new w _ _
  have l0 : w.heap.size < W0.heap.size := hk.lt
  have hx0 := Lib.hid (hx.keep (w' := W0) (Nat.le_refl _) (fun b o h => bcells hb0 b o (by omega)))
  have hBw : B ≤ W0.heap.size := by omega
  clear hx
  have q0 : W0.cell? ⟨w.heap.size, 0, none⟩ = some (.slice pa pn pc) := hk.cell
  have q1 : W0.cell? ⟨w.heap.size, 1, none⟩ = some (.slice sa sn sc) := hk.cell
  obtain ⟨P, hP⟩ : ∃ P, P = (lacksR x).1 := ⟨_, rfl⟩
  obtain ⟨E, hE⟩ : ∃ E, E = (lacksR x).2 := ⟨_, rfl⟩
  have hPE := Lib.hid (And.intro hP hE)
  clear hP hE
  go_enter Try.func11, Try.ntmps11
  replace hW0 := hW0.symm
  go_wp2_with fail
  clear hW0
  refine (Lacks_any (B := B) hBw hx0.out).mono ?_
  rintro e w1 ⟨rfl, hb1⟩
  rw [← hPE.out.1, ← hPE.out.2]
  clear q0 q1
  replace hk := hk.below hb1 hk.lt
  replace hx0 := Lib.hid (hx0.out.keep (w' := w1) (Nat.le_refl _) (fun b o h => bcells hb1 b o (by omega)))
  replace hBw : B ≤ w1.heap.size := Nat.le_trans hBw hb1.size
  have hbw1 := hb0.trans (hb1.mono hb0.size)
  clear hb0 hb1
  have q0 : w1.cell? ⟨w.heap.size, 0, none⟩ = some (.slice pa pn pc) := hk.cell
  have q1 : w1.cell? ⟨w.heap.size, 1, none⟩ = some (.slice sa sn sc) := hk.cell
  go_wp2_with fail
  refine (sound_any (B := B) hBw hx0.out).mono ?_
  rintro e w2 ⟨rfl, hb2⟩
  clear q0 q1
  replace hk := hk.below hb2 hk.lt
  replace hx0 := Lib.hid (hx0.out.keep (w' := w2) (Nat.le_refl _) (fun b o h => bcells hb2 b o (by omega)))
  replace hBw : B ≤ w2.heap.size := Nat.le_trans hBw hb2.size
  have hbw2 := hbw1.trans (hb2.mono hbw1.size)
  clear hbw1 hb2
  rcases Bool.eq_false_or_eq_true (bookOk x) with hb | hb
  case inr =>
    rw [hb]
    have h1 : lacksR x = (0, 10) := by unfold lacksR; rw [if_neg (by rw [hb]; simp)]
    have hp0 := hPE.out.1
    have he0 := hPE.out.2
    rw [h1] at hp0 he0
    simp only at hp0 he0
    subst hp0
    subst he0
    clear h1 hb
    go_wp2_with fail
    refine (sawn_any _).mono ?_
    rintro e w3 ⟨rfl, hb3⟩
    go_wp2_with fail
    go_ret
    exact ⟨rfl, hbw2.trans (hb3.mono hbw2.size)⟩
  rw [hb]
  have hG := good_of hb
  have hb' := Lib.hid hb
  have hp1 := hG.planks
  have hp2 := hG.parts
  rw [hpn.out] at hp1
  rw [hsn.out] at hp2
  obtain ⟨p1, p2⟩ := hp1
  obtain ⟨s1, s2⟩ := hp2
  obtain ⟨V, hV1, hV2, hV3, hV4⟩ := pow_pred (n := pn) (by omega)
  obtain ⟨U, hU1, hU2, hU3, hU4⟩ := pow_pred (n := sn) s2
  have hall := enough_at hb hpn.out.symm (k := sn) (by rw [hsn.out]; omega) hV1 hU1
  obtain ⟨A, hA⟩ : ∃ A, A = (enoughR x V U).1 := ⟨_, rfl⟩
  rw [← hA] at hall
  have hA' := Lib.hid hA
  have hcase : (∃ k : Nat, k < sn ∧ P = k ∧ E = 0 ∧ A = false ∧ Pack x (fun _ => True) (fun p => p < k) ∧ ¬ Pack x (fun _ => True) (fun p => p < k + 1)) ∨ (P = 0 ∧ E = 4 ∧ A = true) := by
    rw [hPE.out.1, hPE.out.2]
    rcases lacks_is hb with ⟨k, k1, k2, k3, k4⟩ | ⟨k1, k2⟩
    · rw [k2]
      rw [hsn.out] at k1
      refine .inl ⟨k, k1, rfl, rfl, ?_, k3, k4⟩
      rw [← Bool.not_eq_true, hall]
      exact fun h => k4 (h.mono (fun _ _ h => h) (fun p hp => by omega))
    · rw [k1]
      refine .inr ⟨rfl, rfl, hall.2 ?_⟩
      unfold AllP at k2
      rw [hsn.out] at k2
      exact k2
  have hVp : Hid (V < 2 ^ x.planks.length) := Lib.hid (by rw [hpn.out]; exact hV3)
  have hUp : Hid (U < 2 ^ x.parts.length) := Lib.hid (by rw [hsn.out]; exact hU3)
  have hV1' := Lib.hid hV1
  have hU4' := Lib.hid hU4
  clear hG hb hall hA hV1 hV3 hU1 hU3 hU4
  have q0 : w2.cell? ⟨w.heap.size, 0, none⟩ = some (.slice pa pn pc) := hk.cell
  have q1 : w2.cell? ⟨w.heap.size, 1, none⟩ = some (.slice sa sn sc) := hk.cell
  go_upto_region 5 with fail
  clear hV4 q0 q1
  go_cut [6, 7] (fun s t wx => s = .bool A ∧ t = .bool true ∧ Below w2.heap.size w2 wx)
  case first =>
    have hO := open_wide
    have hF := hO.fn
    have hd := hO.depth
    have hS0 : SameBut (fun _ => False) w2 w2.drew := (SameBut.refl _ _).drew
    have hread : ∀ w', SameBut (fun _ => False) w2 w' → w'.cell? ⟨w.heap.size, 0, none⟩ = some (.slice pa pn pc) ∧ w'.cell? ⟨w.heap.size, 1, none⟩ = some (.slice sa sn sc) := fun w' h =>
      ⟨(hk.same h (fun e => e)).cell, (hk.same h (fun e => e)).cell⟩
    have hwr : IntKind.i64.wrap (2 ^ sn) = (U : Int) + 1 := (IntWalk.i64_left _).trans hU4'.out
    have e1 : IntKind.i64.wrap ((U : Int) + 1 - 1) = U := by rw [show (U : Int) + 1 - 1 = U by omega]; exact IntWalk.i64_in _ (by omega)
    have e2 : IntKind.i64.wrap (U : Int) = U := IntWalk.i64_in _ (by omega)
    refine region_planW (fun w' => SameBut (fun _ => False) w2 w') [(0, true), (1, true), (2, true), (3, true), (4, true), (5, true), (6, true), (7, false), (8, true), (9, true), (10, true), (11, true), (12, true)] (by kernel_rfl) (by kernel_rfl) (by kernel_rfl) (by decide) (by kernel_rfl) ?_
    iterate 7
      (refine plan_take ?_ rfl hS0 (by rfl) ?_ ?_
       rotate_left
       · intro w' hw'
         obtain ⟨q1, q2⟩ := hread w' hw'
         go_simp
         with_reducible rfl
       simp only [Act.put, List.setIfInBounds_toArray, List.set_cons_zero, List.set_cons_succ])
    refine plan_one rfl (by rfl) (fun K hK => ?_)
    go_simp
    refine (hO.calls (enough_any (B := B) (w := w2.drew) hBw (hx0.out.keep (Nat.le_refl _) (fun b o h => hS0.cell (by omega) (fun e => e))) hb'.out hVp.out hUp.out)).mono ?_
    rintro e w5 ⟨rfl, hb5⟩
    rw [← hA'.out]
    have hS5 : SameBut (fun _ => False) w2 w5 := hS0.below hb5
    refine hK _ _ hS5 ?_
    clear hK K hb5
    iterate 5
      (refine plan_take ?_ rfl hS5 (by rfl) ?_ ?_
       rotate_left
       · intro w' hw'
         go_simp
         with_reducible rfl
       simp only [Act.put, List.setIfInBounds_toArray, List.set_cons_zero, List.set_cons_succ])
    unfold planW okN
    go_wp2_with fail
    go_meet
    exact ⟨rfl, rfl, hS5.toBelow (Nat.le_refl _) (fun _ h => h.elim)⟩
  case rest =>
  obtain ⟨rfl, rfl, hb3⟩ := hcut
  obtain ⟨w3, hw3⟩ : ∃ w3, w3 = wc := ⟨_, rfl⟩
  rw [← hw3] at hb3 ⊢
  clear hw3 hA' hU4'
  replace hk := hk.below hb3 hk.lt
  replace hx0 := Lib.hid (hx0.out.keep (w' := w3) (Nat.le_refl _) (fun b o h => bcells hb3 b o (by omega)))
  replace hBw : B ≤ w3.heap.size := Nat.le_trans hBw hb3.size
  have hbw3 := hbw2.trans (hb3.mono hbw2.size)
  clear hbw2 hb3
  have q0 : w3.cell? ⟨w.heap.size, 0, none⟩ = some (.slice pa pn pc) := hk.cell
  have q1 : w3.cell? ⟨w.heap.size, 1, none⟩ = some (.slice sa sn sc) := hk.cell
  rcases hcase with ⟨k, hks, rfl, rfl, rfl, hyes, hno⟩ | ⟨rfl, rfl, rfl⟩
  case inr =>
    have hwi : Hid (withinB 0 0 ((sn : Int) - 1) = true) := Lib.hid (by simp [withinB]; omega)
    go_wp2_with (first | (go_at_call 38; refine (In_any _ _ _ _).mono ?_; rintro e w' ⟨rfl, rfl⟩; rw [hwi.out]) | (go_at_call 23; refine (sawn_any _).mono ?_; rintro e w4 ⟨rfl, hb4⟩))
    go_ret
    exact ⟨rfl, hbw3.trans (hb4.mono hbw3.size)⟩
  have hwi : Hid (withinB k 0 ((sn : Int) - 1) = true) := Lib.hid (by simp [withinB]; omega)
  obtain ⟨X, hX1, hX2, hX3, hX4⟩ := pow_pred (n := k) (by omega)
  obtain ⟨Y, hY1, hY2, hY3, hY4⟩ := pow_pred (n := k + 1) (by omega)
  have hX5 : Hid (X < 2 ^ x.parts.length) := Lib.hid (pow_up hX3 (by rw [hsn.out]; omega))
  have hY5 : Hid (Y < 2 ^ x.parts.length) := Lib.hid (pow_up hY3 (by rw [hsn.out]; omega))
  have hy1 : Hid ((enoughR x V X).1 = true) := Lib.hid ((enough_at hb'.out hpn.out.symm (by rw [hsn.out]; omega) hV1'.out hX1).2 hyes)
  have hy2 : Hid ((enoughR x V Y).1 = false) := Lib.hid (enough_not hb'.out hpn.out.symm (by rw [hsn.out]; omega) hV1'.out hY1 hno)
  have hX4' := Lib.hid hX4
  have hY4' := Lib.hid hY4
  clear hyes hno hX1 hX3 hX4 hY1 hY3 hY4
  go_upto_region 10 with (go_at_call 38; refine (In_any _ _ _ _).mono ?_; rintro e w' ⟨rfl, rfl⟩; rw [hwi.out])
  clear q0 q1
  go_cut [7, 8] (fun s t wx => s = .bool true ∧ t = .bool true ∧ Below w3.heap.size w3 wx)
  case first =>
    have hO := open_wide
    have hF := hO.fn
    have hd := hO.depth
    have hS0 : SameBut (fun _ => False) w3 w3.drew := (SameBut.refl _ _).drew
    have hread : ∀ w', SameBut (fun _ => False) w3 w' → w'.cell? ⟨w.heap.size, 0, none⟩ = some (.slice pa pn pc) ∧ w'.cell? ⟨w.heap.size, 1, none⟩ = some (.slice sa sn sc) := fun w' h =>
      ⟨(hk.same h (fun e => e)).cell, (hk.same h (fun e => e)).cell⟩
    have hwr : IntKind.i64.wrap (2 ^ k) = (X : Int) + 1 := (IntWalk.i64_left _).trans hX4'.out
    have e1 : IntKind.i64.wrap ((X : Int) + 1 - 1) = X := by rw [show (X : Int) + 1 - 1 = X by omega]; exact IntWalk.i64_in _ (by omega)
    have e2 : IntKind.i64.wrap (X : Int) = X := IntWalk.i64_in _ (by omega)
    refine region_planW (fun w' => SameBut (fun _ => False) w3 w') [(0, true), (1, true), (2, true), (3, true), (4, true), (5, false), (6, true), (7, true), (8, true), (9, true), (10, true)] (by kernel_rfl) (by kernel_rfl) (by kernel_rfl) (by decide) (by kernel_rfl) ?_
    iterate 5
      (refine plan_take ?_ rfl hS0 (by rfl) ?_ ?_
       rotate_left
       · intro w' hw'
         obtain ⟨q1, q2⟩ := hread w' hw'
         go_simp
         with_reducible rfl
       simp only [Act.put, List.setIfInBounds_toArray, List.set_cons_zero, List.set_cons_succ])
    refine plan_one rfl (by rfl) (fun K hK => ?_)
    go_simp
    refine (hO.calls (enough_any (B := B) (w := w3.drew) hBw (hx0.out.keep (Nat.le_refl _) (fun b o h => hS0.cell (by omega) (fun e => e))) hb'.out hVp.out hX5.out)).mono ?_
    rintro e w5 ⟨rfl, hb5⟩
    rw [hy1.out]
    have hS5 : SameBut (fun _ => False) w3 w5 := hS0.below hb5
    refine hK _ _ hS5 ?_
    clear hK K hb5
    iterate 5
      (refine plan_take ?_ rfl hS5 (by rfl) ?_ ?_
       rotate_left
       · intro w' hw'
         go_simp
         with_reducible rfl
       simp only [Act.put, List.setIfInBounds_toArray, List.set_cons_zero, List.set_cons_succ])
    unfold planW okN
    go_wp2_with fail
    go_meet
    exact ⟨rfl, rfl, hS5.toBelow (Nat.le_refl _) (fun _ h => h.elim)⟩
  case rest =>
  obtain ⟨rfl, rfl, hb4⟩ := hcut
  obtain ⟨w4, hw4⟩ : ∃ w4, w4 = wc := ⟨_, rfl⟩
  rw [← hw4] at hb4 ⊢
  clear hw4 hX4' hX5 hy1
  replace hk := hk.below hb4 hk.lt
  replace hx0 := Lib.hid (hx0.out.keep (w' := w4) (Nat.le_refl _) (fun b o h => bcells hb4 b o (by omega)))
  replace hBw : B ≤ w4.heap.size := Nat.le_trans hBw hb4.size
  have hbw4 := hbw3.trans (hb4.mono hbw3.size)
  clear hbw3 hb4
  go_upto_region 11 with fail
  go_cut [9, 10] (fun s t wx => s = .bool false ∧ t = .bool true ∧ Below w4.heap.size w4 wx)
  case first =>
    have hO := open_wide
    have hF := hO.fn
    have hd := hO.depth
    have hS0 : SameBut (fun _ => False) w4 w4.drew := (SameBut.refl _ _).drew
    have hread : ∀ w', SameBut (fun _ => False) w4 w' → w'.cell? ⟨w.heap.size, 0, none⟩ = some (.slice pa pn pc) ∧ w'.cell? ⟨w.heap.size, 1, none⟩ = some (.slice sa sn sc) := fun w' h =>
      ⟨(hk.same h (fun e => e)).cell, (hk.same h (fun e => e)).cell⟩
    have e0 : IntKind.i64.wrap ((k : Int) + 1) = k + 1 := IntWalk.i64_in _ (by omega)
    have e00 : ((k : Int) + 1).toNat = k + 1 := by omega
    have e01 : 0 ≤ (k : Int) + 1 := by omega
    have hwr : IntKind.i64.wrap (2 ^ (k + 1)) = (Y : Int) + 1 := (IntWalk.i64_left _).trans hY4'.out
    have e1 : IntKind.i64.wrap ((Y : Int) + 1 - 1) = Y := by rw [show (Y : Int) + 1 - 1 = Y by omega]; exact IntWalk.i64_in _ (by omega)
    have e2 : IntKind.i64.wrap (Y : Int) = Y := IntWalk.i64_in _ (by omega)
    refine region_planW (fun w' => SameBut (fun _ => False) w4 w') [(0, true), (1, true), (2, true), (3, true), (4, true), (5, true), (6, false), (7, true), (8, true), (9, true), (10, true), (11, true)] (by kernel_rfl) (by kernel_rfl) (by kernel_rfl) (by decide) (by kernel_rfl) ?_
    iterate 6
      (refine plan_take ?_ rfl hS0 (by rfl) ?_ ?_
       rotate_left
       · intro w' hw'
         obtain ⟨q1, q2⟩ := hread w' hw'
         go_simp
         with_reducible rfl
       simp only [Act.put, List.setIfInBounds_toArray, List.set_cons_zero, List.set_cons_succ])
    refine plan_one rfl (by rfl) (fun K hK => ?_)
    go_simp
    refine (hO.calls (enough_any (B := B) (w := w4.drew) hBw (hx0.out.keep (Nat.le_refl _) (fun b o h => hS0.cell (by omega) (fun e => e))) hb'.out hVp.out hY5.out)).mono ?_
    rintro e w5 ⟨rfl, hb5⟩
    rw [hy2.out]
    have hS5 : SameBut (fun _ => False) w4 w5 := hS0.below hb5
    refine hK _ _ hS5 ?_
    clear hK K hb5
    iterate 5
      (refine plan_take ?_ rfl hS5 (by rfl) ?_ ?_
       rotate_left
       · intro w' hw'
         go_simp
         with_reducible rfl
       simp only [Act.put, List.setIfInBounds_toArray, List.set_cons_zero, List.set_cons_succ])
    unfold planW okN
    go_wp2_with fail
    go_meet
    exact ⟨rfl, rfl, hS5.toBelow (Nat.le_refl _) (fun _ h => h.elim)⟩
  case rest =>
  obtain ⟨rfl, rfl, hb5⟩ := hcut
  have hbw5 := hbw4.trans (hb5.mono hbw4.size)
  go_wp2_with fail
  refine (sawn_any _).mono ?_
  rintro e w6 ⟨rfl, hb6⟩
  go_wp2_with fail
  go_ret
  exact ⟨rfl, hbw5.trans (hb6.mono hbw5.size)⟩
end Go.Proofs.Ytbbolibkheelmaa
namespace Go.Proofs.Ytbbolibkheelmaa
open Go.RowKit Go.Shelf

def setU (xs : List Int) : Nat → Nat
  | 0 => 0
  | k + 1 => setU xs k ||| 2 ^ (gi xs k).toNat
theorem setU_has (xs : List Int) (p : Nat) : ∀ k, hasN (setU xs k) p = true ↔ ∃ j, j < k ∧ (gi xs j).toNat = p
  | 0 => by simp [setU, has_zero]
  | k + 1 => by
    unfold setU
    rw [has_or, Bool.or_eq_true, setU_has xs p k]
    have h2 : hasN (2 ^ (gi xs k).toNat) p = true ↔ (gi xs k).toNat = p := by rw [has_test, Nat.testBit_two_pow, decide_eq_true_eq]
    rw [h2]
    constructor
    · rintro (⟨j, hj, e⟩ | e)
      · exact ⟨j, by omega, e⟩
      · exact ⟨k, by omega, e⟩
    · rintro ⟨j, hj, e⟩
      by_cases h : j = k
      · subst h; exact .inr e
      · exact .inl ⟨j, by omega, e⟩
theorem setU_lt {xs : List Int} {k : Nat} (h : ∀ j, j < k → 0 ≤ gi xs j ∧ gi xs j < 5) : setU xs k < 32 := lt_of_has (n := 5) fun p hp => by
  obtain ⟨j, hj, e⟩ := (setU_has xs p k).1 hp
  have := h j hj
  omega
theorem setU_mem {s : Nat} (hs : s < 32) : setU (memL s) (memL s).length = s := set_ext fun p => by
  rw [Bool.eq_iff_iff, setU_has]
  constructor
  · rintro ⟨j, hj, e⟩
    have hm : gi (memL s) j ∈ memL s := by rw [gi_eq hj]; exact List.getElem_mem hj
    obtain ⟨q, e2, hq⟩ := (mem_memL hs).1 hm
    rw [e2] at e
    obtain rfl : q = p := by omega
    exact hq
  · intro hp
    obtain ⟨j, hj, e⟩ := List.mem_iff_getElem.1 ((mem_memL hs).2 ⟨p, rfl, hp⟩)
    exact ⟨j, hj, by rw [gi_eq hj, e]; rfl⟩
theorem memU_ge {s k : Nat} (h : s < 2 ^ k) : ∀ n, memU s (k + n) = memU s k
  | 0 => rfl
  | n + 1 => by
    rw [← Nat.add_assoc, memU_succ, memU_ge h n]
    have : hasN s (k + n) = false := by
      rw [← Bool.not_eq_true]; exact fun hp => by have := has_lt h hp; omega
    rw [this]; simp
theorem memU_L {s n : Nat} (h : s < 2 ^ n) (hs : s < 32) : memU s n = memL s := by
  unfold memL
  have h1 := lt_len hs
  by_cases h2 : lenN s ≤ n
  · have := memU_ge h1 (n - lenN s)
    rwa [show lenN s + (n - lenN s) = n by omega] at this
  · have := memU_ge h (lenN s - n)
    rw [show n + (lenN s - n) = lenN s by omega] at this
    exact this.symm

set_option maxHeartbeats 1000000 in
theorem Set_any {B : Nat} {a : Option Addr} {xs : List Int} {n c : Nat} {w : World} (hx : IntsAt B w a n xs) (h5 : ∀ k, k < n → 0 ≤ gi xs k ∧ gi xs k < 5) :
    Calls Try.prog 49 #[.slice a n c] w fun e w' => e = .returned (.int .i64 (setU xs n)) ∧ Quiet w w' := by
  have hx' := Lib.hid hx
  have hL : n ≤ 140737488355328 := hx.small
  have h5' := Lib.hid h5
  clear hx h5
  go_enter Try.func49, Try.ntmps49
  go_wp2
  go_loopw [3, 4] (fun v i wr => ∃ k : Nat, k ≤ n ∧ i = .int .i64 k ∧ v = .int .i64 (setU xs k) ∧ Quiet w wr) (fun _ i _ => (n - intOf i).toNat)
  case atStart => exact ⟨0, by omega, rfl, rfl, Quiet.refl _⟩
  case round =>
    obtain ⟨k, hk, rfl, rfl, hq⟩ := hrel
    obtain ⟨q, rfl⟩ := hq
    have hq : Quiet w (w.drewN q) := ⟨q, rfl⟩
    by_cases hlt : k < n
    · obtain ⟨b1, o1, rfl, hb1, hc1⟩ := hx'.out.get k hlt
      have g1 := (hc1 k hlt).1
      have hX := h5'.out k hlt
      obtain ⟨X, hXe⟩ : ∃ X : Nat, gi xs k = X := ⟨(gi xs k).toNat, by omega⟩
      rw [hXe] at g1 hX
      have hkn : (k : Int) < n := by omega
      have hsl : setU xs k < 32 := setU_lt fun j hj => h5'.out j (by omega)
      have hsu : setU xs (k + 1) = setU xs k ||| 2 ^ X := by show setU xs k ||| 2 ^ (gi xs k).toNat = _; rw [hXe, Int.toNat_natCast]
      obtain ⟨A, hA⟩ : ∃ A, A = setU xs k := ⟨_, rfl⟩
      rw [← hA] at hsl hsu ⊢
      have hp := pow_le32 (n := X) (by omega)
      have hp4 : 2 ^ X ≤ 16 := by
        have h4 : X = 0 ∨ X = 1 ∨ X = 2 ∨ X = 3 ∨ X = 4 := by omega
        rcases h4 with rfl | rfl | rfl | rfl | rfl <;> decide
      have hwr := wrap_pow (n := X) (by omega)
      obtain ⟨Z, hZ⟩ : ∃ Z, Z = 2 ^ X := ⟨_, rfl⟩
      rw [← hZ] at hsu hp4 hwr
      have hor := (or_bit hsl (show Z < 32 by omega)).1
      obtain ⟨C, hC⟩ : ∃ C, C = A ||| Z := ⟨_, rfl⟩
      rw [← hC] at hor hsu
      have hsu' := Lib.hid hsu
      clear hc1 hA hp hZ hC hsu hXe
      go_wp2
      go_roundw
      case rel => exact ⟨k + 1, by omega, by go_num, by rw [hsu'.out], hq⟩
      case measure => simp [intOf]; omega
    · obtain rfl : k = n := by omega
      go_wp2
      go_ret
      exact ⟨rfl, hq⟩

def shorterI (xs ys : List Int) : Bool := if xs.length = ys.length then lessI xs ys else decide (xs.length < ys.length)
theorem shorter_fewer (xs ys : List Int) : shorterI xs ys = fewerB xs xs.length ys ys.length := by
  rw [fewer_is]
  unfold shorterI
  by_cases h : xs.length = ys.length
  · rw [if_pos h]; simp [h]
  · rw [if_neg h]
    have h1 : decide ((xs.length : Int) = ys.length) = false := decide_eq_false (by omega)
    have h2 : decide ((xs.length : Int) < ys.length) = decide (xs.length < ys.length) := by rw [decide_eq_decide]; omega
    rw [h1, h2]; simp
set_option maxHeartbeats 1000000 in
theorem Shorter_any {B1 B2 : Nat} {a b : Option Addr} {xs ys : List Int} {n m c d : Nat} {w : World} (hx : IntsAt B1 w a n xs) (hy : IntsAt B2 w b m ys) :
    Calls Try.prog 47 #[.slice a n c, .slice b m d] w fun e w' => e = .returned (.bool (shorterI xs ys)) ∧ Quiet w w' := by
  have hx' := Lib.hid hx
  have hy' := Lib.hid hy
  have hL : n ≤ 140737488355328 := hx.small
  have hL2 : m ≤ 140737488355328 := hy.small
  have hnx := Lib.hid hx.len
  have hny := Lib.hid hy.len
  clear hx hy
  obtain ⟨R, hR⟩ : ∃ R, R = shorterI xs ys := ⟨_, rfl⟩
  rw [← hR]
  unfold shorterI at hR
  rw [hnx.out, hny.out] at hR
  go_enter Try.func47, Try.ntmps47
  by_cases h : n = m
  · rw [if_pos h] at hR
    have hR' := Lib.hid hR
    have h1 : ((n : Int) != (m : Int)) = false := by simp [h]
    clear hR h
    go_wp2_with fail
    refine (Less_any hx'.out hy'.out).mono ?_
    rintro e w1 ⟨rfl, hq⟩
    rw [← hR'.out]
    go_wp2_with fail
    go_ret
    exact ⟨rfl, hq⟩
  · rw [if_neg h] at hR
    have hR' := Lib.hid hR
    have h1 : ((n : Int) != (m : Int)) = true := by simp; omega
    clear hR h
    go_wp2_with fail
    go_ret
    exact ⟨ret_bool (by rw [hR'.out]), Quiet.refl _⟩
end Go.Proofs.Ytbbolibkheelmaa
namespace Go.Proofs.Ytbbolibkheelmaa
open Go.RowKit Go.Shelf

section
variable {x : Book}
theorem memL_five {s : Nat} {k : Nat} (hk : k < (memL s).length) : 0 ≤ gi (memL s) k ∧ gi (memL s) k < 5 := by
  have := memU_i64 (n := s) (k := lenN s) (i := k) (by have := lenN_le s; omega) hk
  have h2 := lenN_le s
  have h3 := this.2.1
  refine ⟨this.1, ?_⟩
  show gi (memU s (lenN s)) k < 5
  omega
theorem memL_le {s n : Nat} (h : s < 2 ^ n) (hs : s < 32) : (memL s).length ≤ n := by rw [← memU_L h hs]; exact memU_len s n
theorem grows_mem {s n : Nat} (h : s < 2 ^ n) (hs : s < 32) : growsB (memL s) n = true := grows_pairwise (pair_filter _ _) (fun y hy => by
  obtain ⟨p, e, hp⟩ := (mem_memL hs).1 hy
  have := has_lt h hp
  omega)
theorem enough_all (hb : bookOk x = true) {m V s : Nat} (hm : m = x.planks.length) (hV : V = 2 ^ m - 1) (hs : s < 2 ^ x.parts.length) : (enoughR x V s).1 = allF x s := by
  rw [Bool.eq_iff_iff, (enough_is hb (by rw [hV, hm]; exact ones_lt _) hs).2, all_pack hb hs]
  constructor
  · exact fun h => h.mono (fun _ _ _ => trivial) (fun _ h => h)
  · exact fun h => h.mono (fun i hi _ => by rw [hV, has_ones, hm]; exact decide_eq_true hi) (fun _ h => h)
theorem memL_full {s n : Nat} (h : s < 2 ^ n) (hs : s < 32) (hl : (memL s).length = n) : s = 2 ^ n - 1 := by
  refine set_ext fun p => ?_
  rw [has_ones]
  by_cases hp : p < n
  · rw [decide_eq_true hp]
    by_cases hx : hasN s p = true
    · exact hx
    · exfalso
      have hlt : (memU s n).length < n := by
        unfold memU
        rw [List.length_map]
        have h1 : ((List.range n).filter (hasN s)).length < (List.range n).length := by
          rw [List.length_filter_lt_length_iff_exists]
          exact ⟨p, List.mem_range.2 hp, by simpa using hx⟩
        rwa [List.length_range] at h1
      rw [memU_L h hs] at hlt
      omega
  · rw [decide_eq_false hp, ← Bool.not_eq_true]
    exact fun h' => hp (has_lt h h')
/-- All parts can be cut just if the most parts are all. -/
theorem most_all (hb : bookOk x = true) {s : Nat} (h : BestOf moreB (allF x) 32 s) (hs : s < 2 ^ x.parts.length) : (memL s).length = x.parts.length ↔ AllP x := by
  have hs32 := lt32 hb hs
  constructor
  · intro hl
    have e := memL_full hs hs32 hl
    have := (all_pack hb hs).1 h.2.1
    unfold AllP
    refine this.mono (fun _ _ h => h) (fun p hp => ?_)
    rw [e, has_ones]; exact decide_eq_true hp
  · intro hA
    have hf : allF x (2 ^ x.parts.length - 1) = true := (all_pack hb (ones_lt _)).2 (hA.mono (fun _ _ h => h) (fun p hp => by rw [has_ones] at hp; simpa using hp))
    have hlt := lt32 hb (ones_lt x.parts.length)
    have h3 := h.2.2 _ hlt hf
    rw [more_is, Bool.or_eq_false_iff, decide_eq_false_iff_not] at h3
    have hle := memL_le hs hs32
    have hfull : (memL (2 ^ x.parts.length - 1)).length = x.parts.length := by
      rw [← memU_L (ones_lt x.parts.length) hlt]
      unfold memU
      rw [List.length_map, List.filter_eq_self.2, List.length_range]
      intro p hp
      rw [has_ones]; exact decide_eq_true (List.mem_range.1 hp)
    have := h3.1
    omega
end

set_option maxRecDepth 100000 in
set_option maxHeartbeats 4000000 in
theorem most_law {B : Nat} {pa sa : Option Addr} {pn pc sn sc : Nat} {x : Book} {n0 : Int} {w : World} (hB : B ≤ w.heap.size) (hx : BookAt B w pa pn sa sn x) :
    Calls Try.prog 10 #[.agg #[.slice pa pn pc, .slice sa sn sc], .int .i64 n0] w fun e w' => e = .returned (.bool true) ∧ Below w.heap.size w w' := by
  have hpn := Lib.hid hx.planks.len
  have hsn := Lib.hid hx.parts.len
  obtain ⟨w0, hw0⟩ : ∃ w0, w0 = w.alloc (.cells #[.slice pa pn pc, .slice sa sn sc] 25) := ⟨_, rfl⟩
  have hbw0 : Below w.heap.size w w0 := by rw [hw0]; exact (Below.refl _ _).alloc (Nat.le_refl _) _
  have hk : Blk w0 w.heap.size #[.slice pa pn pc, .slice sa sn sc] := by rw [hw0]; exact Blk.new w _ _
  have l0 : w.heap.size < w0.heap.size := hk.lt
  have hx0 := Lib.hid (hx.keep (w' := w0) (Nat.le_refl _) (fun b o h => bcells hbw0 b o (by omega)))
  have hBw : B ≤ w0.heap.size := by omega
  clear hx
  have q0 : w0.cell? ⟨w.heap.size, 0, none⟩ = some (.slice pa pn pc) := hk.cell
  have q1 : w0.cell? ⟨w.heap.size, 1, none⟩ = some (.slice sa sn sc) := hk.cell
  obtain ⟨L, hL⟩ : ∃ L, L = (mostR x).1 := ⟨_, rfl⟩
  obtain ⟨E, hE⟩ : ∃ E, E = (mostR x).2 := ⟨_, rfl⟩
  have hLE := Lib.hid (And.intro hL hE)
  clear hL hE
  go_enter Try.func10, Try.ntmps10
  replace hw0 := hw0.symm
  go_wp2_with fail
  clear hw0
  refine (Most_any (B := B) hBw hx0.out).mono ?_
  rintro e w1 ⟨la, ln, lc, rfl, hl, hb1⟩
  rw [← hLE.out.1] at hl
  rw [← hLE.out.2]
  clear q0 q1
  replace hk := hk.below hb1 hk.lt
  replace hx0 := Lib.hid (hx0.out.keep (w' := w1) (Nat.le_refl _) (fun b o h => bcells hb1 b o (by omega)))
  replace hBw : B ≤ w1.heap.size := Nat.le_trans hBw hb1.size
  have hbw1 := hbw0.trans (hb1.mono hbw0.size)
  clear hbw0 hb1
  have hl1 := Lib.hid hl
  clear hl
  have q0 : w1.cell? ⟨w.heap.size, 0, none⟩ = some (.slice pa pn pc) := hk.cell
  have q1 : w1.cell? ⟨w.heap.size, 1, none⟩ = some (.slice sa sn sc) := hk.cell
  go_wp2_with fail
  refine (sound_any (B := B) hBw hx0.out).mono ?_
  rintro e w2 ⟨rfl, hb2⟩
  clear q0 q1
  have hl2 := Lib.hid (hl1.out.keep (w' := w2) hb2.size (fun b o h => bcells hb2 b o h))
  replace hk := hk.below hb2 hk.lt
  replace hx0 := Lib.hid (hx0.out.keep (w' := w2) (Nat.le_refl _) (fun b o h => bcells hb2 b o (by omega)))
  replace hBw : B ≤ w2.heap.size := Nat.le_trans hBw hb2.size
  have hbw2 := hbw1.trans (hb2.mono hbw1.size)
  clear hbw1 hb2
  clear hl1
  have hlen := Lib.hid hl2.out.len
  rcases Bool.eq_false_or_eq_true (bookOk x) with hb | hb
  case inr =>
    rw [hb]
    have h1 : mostR x = ([], 10) := by unfold mostR; rw [if_neg (by rw [hb]; simp)]
    have hp0 := hLE.out.1
    have he0 := hLE.out.2
    rw [h1] at hp0 he0
    simp only at hp0 he0
    subst hp0
    subst he0
    obtain rfl : ln = 0 := by simpa using hlen.out.symm
    clear h1 hb
    go_wp2_with fail
    refine (sawn_any _).mono ?_
    rintro e w3 ⟨rfl, hb3⟩
    go_wp2_with fail
    go_ret
    exact ⟨rfl, hbw2.trans (hb3.mono hbw2.size)⟩
  rw [hb]
  have hG := good_of hb
  have hb' := Lib.hid hb
  have hp1 := hG.planks
  have hp2 := hG.parts
  rw [hpn.out] at hp1
  rw [hsn.out] at hp2
  obtain ⟨p1, p2⟩ := hp1
  obtain ⟨s1, s2⟩ := hp2
  obtain ⟨V, hV1, hV2, hV3, hV4⟩ := pow_pred (n := pn) (by omega)
  have hVp : Hid (V < 2 ^ x.planks.length) := Lib.hid (by rw [hpn.out]; exact hV3)
  obtain ⟨s, hbest, hs2, hR⟩ := most_is hb
  have hs32 := lt32 hb hs2
  have hLs := hLE.out.1
  have hEs := hLE.out.2
  rw [hR] at hLs hEs
  simp only at hLs hEs
  subst hLs
  subst hEs
  have hset : Hid (setU (memL s) ln = s) := Lib.hid (by rw [← hlen.out]; exact setU_mem hs32)
  have hfive : Hid (∀ k, k < ln → 0 ≤ gi (memL s) k ∧ gi (memL s) k < 5) := Lib.hid (fun k hk => memL_five (by rw [hlen.out]; exact hk))
  have hs2' := Lib.hid hs2
  have hAs : Hid ((enoughR x V s).1 = true) := Lib.hid (by rw [enough_all hb hpn.out.symm hV1 hs2]; exact hbest.2.1)
  have hgr : Hid (growsB (memL s) sn = true) := Lib.hid (grows_mem (by rw [← hsn.out]; exact hs2) hs32)
  have hall := Lib.hid (most_all hb hbest hs2)
  have hln5 : ln ≤ 5 := by rw [← hlen.out]; have h1 := memL_le hs2 hs32; have h2 := hsn.out; omega
  -- the parts that the number chooses
  obtain ⟨N, hN⟩ : ∃ N, N = 2 ^ sn := ⟨_, rfl⟩
  have hN1 : 1 ≤ N := by rw [hN]; exact Nat.pow_pos (by decide)
  have hN32 : N ≤ 32 := by rw [hN]; exact pow_le32 s2
  have hwr0 : Hid (wrap64 (2 ^ sn) = (N : Int)) := Lib.hid (by rw [hN]; exact wrap_pow s2)
  have hNI : Hid (I64 (N : Int)) := Lib.hid (by unfold I64; omega)
  obtain ⟨sv, hsv⟩ : ∃ sv : Nat, rnd n0 N = sv := ⟨(rnd n0 N).toNat, by have := rnd_range (n := n0) (m := N) (by omega); omega⟩
  have hsvN : sv < N := by have := rnd_range (n := n0) (m := N) (by omega); omega
  have hsv32 : sv < 32 := by omega
  have hsv2 : Hid (sv < 2 ^ x.parts.length) := Lib.hid (by rw [hsn.out, ← hN]; exact hsvN)
  have hmem : Hid (memU sv sn = memL sv) := Lib.hid (memU_L (by rw [← hN]; exact hsvN) hsv32)
  have hsv' := Lib.hid hsv
  have hsetv : Hid (setU (memL sv) (memL sv).length = sv) := Lib.hid (setU_mem hsv32)
  have hfivev : Hid (∀ k, k < (memL sv).length → 0 ≤ gi (memL sv) k ∧ gi (memL sv) k < 5) := Lib.hid (fun k hk => memL_five hk)
  obtain ⟨D, hD⟩ : ∃ D, D = (enoughR x V sv).1 := ⟨_, rfl⟩
  have hD' := Lib.hid hD
  have hbetter : Hid (D = true → moreB (memL sv) (memL sv).length (memL s) (memL s).length = false) := Lib.hid (fun h => by
    rw [hD, enough_all hb hpn.out.symm hV1 hsv2.out] at h
    exact hbest.2.2 sv hsv32 h)
  have hFew : Hid (((fewestR x).2 = 0 ∧ AllP x) ∨ ((fewestR x).2 = 4 ∧ ¬ AllP x)) := Lib.hid (by
    rcases fewest_is hb with ⟨h1, h2⟩ | ⟨_, _, h1, h2⟩
    · exact .inr ⟨by rw [h1], h2⟩
    · exact .inl ⟨by rw [h1], h2⟩)
  clear hN hsv hD hG hb hs2 hR hbest hV1 hV3
  have q0 : w2.cell? ⟨w.heap.size, 0, none⟩ = some (.slice pa pn pc) := hk.cell
  have q1 : w2.cell? ⟨w.heap.size, 1, none⟩ = some (.slice sa sn sc) := hk.cell
  go_upto_region 5 with fail
  clear hV4 q0 q1
  go_cut [8, 9] (fun s t wx => s = .bool true ∧ t = .bool true ∧ Below w2.heap.size w2 wx)
  case first =>
    have hO := open_wide
    have hF := hO.fn
    have hd := hO.depth
    have hS0 : SameBut (fun _ => False) w2 w2.drew := (SameBut.refl _ _).drew
    have hread : ∀ w', SameBut (fun _ => False) w2 w' → w'.cell? ⟨w.heap.size, 0, none⟩ = some (.slice pa pn pc) ∧ w'.cell? ⟨w.heap.size, 1, none⟩ = some (.slice sa sn sc) := fun w' h =>
      ⟨(hk.same h (fun e => e)).cell, (hk.same h (fun e => e)).cell⟩
    refine region_planW (fun w' => SameBut (fun _ => False) w2 w') [(0, true), (1, true), (2, true), (3, false), (4, false), (5, true), (6, true), (7, true), (8, true), (9, true)] (by kernel_rfl) (by kernel_rfl) (by kernel_rfl) (by decide) (by kernel_rfl) ?_
    iterate 3
      (refine plan_take ?_ rfl hS0 (by rfl) ?_ ?_
       rotate_left
       · intro w' hw'
         obtain ⟨q1, q2⟩ := hread w' hw'
         go_simp
         with_reducible rfl
       simp only [Act.put, List.setIfInBounds_toArray, List.set_cons_zero, List.set_cons_succ])
    refine plan_one rfl (by rfl) (fun K hK => ?_)
    go_simp
    refine (hO.calls (Set_any (w := w2.drew) (hl2.out.keep (Nat.le_refl _) (fun b o h => rfl)) hfive.out)).mono ?_
    rintro e w4 ⟨rfl, hq4⟩
    rw [hset.out]
    have hS4 : SameBut (fun _ => False) w2 w4 := hS0.below (hq4.below _)
    refine hK _ _ hS4 ?_
    clear hK K hq4
    refine plan_one rfl (by rfl) (fun K hK => ?_)
    go_simp
    refine (hO.calls (enough_any (B := B) (by have := hS4.size; omega) (hx0.out.keep (Nat.le_refl _) (fun b o h => hS4.cell (by omega) (fun e => e))) hb'.out hVp.out hs2'.out)).mono ?_
    rintro e w5 ⟨rfl, hb5⟩
    rw [hAs.out]
    have hS5 : SameBut (fun _ => False) w2 w5 := hS4.below hb5
    refine hK _ _ hS5 ?_
    clear hK K hb5
    iterate 5
      (refine plan_take ?_ rfl hS5 (by rfl) ?_ ?_
       rotate_left
       · intro w' hw'
         go_simp
         with_reducible rfl
       simp only [Act.put, List.setIfInBounds_toArray, List.set_cons_zero, List.set_cons_succ])
    unfold planW okN
    go_wp2_with fail
    go_meet
    exact ⟨rfl, rfl, hS5.toBelow (Nat.le_refl _) (fun _ h => h.elim)⟩
  case rest =>
  obtain ⟨rfl, rfl, hb3⟩ := hcut
  obtain ⟨w3, hw3⟩ : ∃ w3, w3 = wc := ⟨_, rfl⟩
  rw [← hw3] at hb3 ⊢
  clear hw3
  have hl3 := Lib.hid (hl2.out.keep (w' := w3) hb3.size (fun b o h => bcells hb3 b o h))
  replace hk := hk.below hb3 hk.lt
  replace hx0 := Lib.hid (hx0.out.keep (w' := w3) (Nat.le_refl _) (fun b o h => bcells hb3 b o (by omega)))
  replace hBw : B ≤ w3.heap.size := Nat.le_trans hBw hb3.size
  have hbw3 := hbw2.trans (hb3.mono hbw2.size)
  clear hbw2 hb3
  clear hl2
  go_upto_region 6 with fail
  go_cut [10] (fun s wx => ∃ (ma : Option Addr) (mn mc : Nat), s = .slice ma mn mc ∧ IntsAt wx.heap.size wx ma mn (memU sv sn) ∧ Below w3.heap.size w3 wx)
  case first =>
    have hO := open_wide
    have hF := hO.fn
    have hd := hO.depth
    have hS0 : SameBut (fun _ => False) w3 w3.drew := (SameBut.refl _ _).drew
    have hread : ∀ w', SameBut (fun _ => False) w3 w' → w'.cell? ⟨w.heap.size, 0, none⟩ = some (.slice pa pn pc) ∧ w'.cell? ⟨w.heap.size, 1, none⟩ = some (.slice sa sn sc) := fun w' h =>
      ⟨(hk.same h (fun e => e)).cell, (hk.same h (fun e => e)).cell⟩
    have hwr : IntKind.i64.wrap (2 ^ sn) = (N : Int) := (IntWalk.i64_left _).trans hwr0.out
    refine region_planW (fun w' => SameBut (fun _ => False) w3 w') [(0, true), (1, true), (2, true), (3, true), (4, true), (6, true), (7, true), (8, true), (5, false), (9, false), (10, true)] (by kernel_rfl) (by kernel_rfl) (by kernel_rfl) (by decide) (by kernel_rfl) ?_
    iterate 8
      (refine plan_take ?_ rfl hS0 (by rfl) ?_ ?_
       rotate_left
       · intro w' hw'
         obtain ⟨q1, q2⟩ := hread w' hw'
         go_simp
         with_reducible rfl
       simp only [Act.put, List.setIfInBounds_toArray, List.set_cons_zero, List.set_cons_succ])
    refine plan_one rfl (by rfl) (fun K hK => ?_)
    go_simp
    refine (hO.calls (Round_any (n := n0) (m := N) _ hNI.out)).mono ?_
    rintro e w8 ⟨rfl, rfl⟩
    rw [hsv'.out]
    refine hK _ _ hS0 ?_
    clear hK K
    refine plan_one rfl (by rfl) (fun K hK => ?_)
    go_simp
    refine (hO.calls (List_any (s := sv) (N := sn) hsv32 s2)).mono ?_
    rintro e w8 ⟨ma, mn, mc, rfl, hl8, hb8⟩
    have hS8 : SameBut (fun _ => False) w3 w8 := hS0.below hb8
    refine hK _ _ hS8 ?_
    clear hK K
    iterate 1
      (refine plan_take ?_ rfl hS8 (by rfl) ?_ ?_
       rotate_left
       · intro w' hw'
         go_simp
         with_reducible rfl
       simp only [Act.put, List.setIfInBounds_toArray, List.set_cons_zero, List.set_cons_succ])
    unfold planW okN
    go_wp2_with fail
    go_meet
    exact ⟨_, _, _, rfl, hl8, hS8.toBelow (Nat.le_refl _) (fun _ h => h.elim)⟩
  case rest =>
  obtain ⟨ma, mn, mc, rfl, hm, hb4⟩ := hcut
  obtain ⟨w4, hw4⟩ : ∃ w4, w4 = wc := ⟨_, rfl⟩
  rw [← hw4] at hm hb4 ⊢
  clear hw4
  rw [hmem.out] at hm
  have hm4 := Lib.hid hm
  have hmn := Lib.hid hm.len
  have hl4 := Lib.hid (hl3.out.keep (w' := w4) hb4.size (fun b o h => bcells hb4 b o h))
  replace hk := hk.below hb4 hk.lt
  replace hx0 := Lib.hid (hx0.out.keep (w' := w4) (Nat.le_refl _) (fun b o h => bcells hb4 b o (by omega)))
  replace hBw : B ≤ w4.heap.size := Nat.le_trans hBw hb4.size
  have hbw4 := hbw3.trans (hb4.mono hbw3.size)
  clear hbw3 hb4
  rw [show (memL sv).length = mn from hmn.out] at hsetv hfivev
  have hmn5 : mn ≤ 5 := by
    have h1 := memL_le (s := sv) (n := 5) (by omega) hsv32
    have h2 := hmn.out
    omega
  clear hl3 hm hwr0 hsv' hNI hmem
  go_upto_region 7 with fail
  go_cut [11, 12] (fun s t wx => s = .bool D ∧ t = .bool true ∧ Below w4.heap.size w4 wx)
  case first =>
    have hO := open_wide
    have hF := hO.fn
    have hd := hO.depth
    have hS0 : SameBut (fun _ => False) w4 w4.drew := (SameBut.refl _ _).drew
    have hread : ∀ w', SameBut (fun _ => False) w4 w' → w'.cell? ⟨w.heap.size, 0, none⟩ = some (.slice pa pn pc) ∧ w'.cell? ⟨w.heap.size, 1, none⟩ = some (.slice sa sn sc) := fun w' h =>
      ⟨(hk.same h (fun e => e)).cell, (hk.same h (fun e => e)).cell⟩
    refine region_planW (fun w' => SameBut (fun _ => False) w4 w') [(0, true), (1, true), (2, true), (3, false), (4, false), (5, true), (6, true), (7, true), (8, true), (9, true)] (by kernel_rfl) (by kernel_rfl) (by kernel_rfl) (by decide) (by kernel_rfl) ?_
    iterate 3
      (refine plan_take ?_ rfl hS0 (by rfl) ?_ ?_
       rotate_left
       · intro w' hw'
         obtain ⟨q1, q2⟩ := hread w' hw'
         go_simp
         with_reducible rfl
       simp only [Act.put, List.setIfInBounds_toArray, List.set_cons_zero, List.set_cons_succ])
    refine plan_one rfl (by rfl) (fun K hK => ?_)
    go_simp
    refine (hO.calls (Set_any (w := w4.drew) (hm4.out.keep (Nat.le_refl _) (fun b o h => rfl)) hfivev.out)).mono ?_
    rintro e w5 ⟨rfl, hq4⟩
    rw [hsetv.out]
    have hS4 : SameBut (fun _ => False) w4 w5 := hS0.below (hq4.below _)
    refine hK _ _ hS4 ?_
    clear hK K hq4
    refine plan_one rfl (by rfl) (fun K hK => ?_)
    go_simp
    refine (hO.calls (enough_any (B := B) (by have := hS4.size; omega) (hx0.out.keep (Nat.le_refl _) (fun b o h => hS4.cell (by omega) (fun e => e))) hb'.out hVp.out hsv2.out)).mono ?_
    rintro e w6 ⟨rfl, hb5⟩
    rw [← hD'.out]
    have hS5 : SameBut (fun _ => False) w4 w6 := hS4.below hb5
    refine hK _ _ hS5 ?_
    clear hK K hb5
    iterate 5
      (refine plan_take ?_ rfl hS5 (by rfl) ?_ ?_
       rotate_left
       · intro w' hw'
         go_simp
         with_reducible rfl
       simp only [Act.put, List.setIfInBounds_toArray, List.set_cons_zero, List.set_cons_succ])
    unfold planW okN
    go_wp2_with fail
    go_meet
    exact ⟨rfl, rfl, hS5.toBelow (Nat.le_refl _) (fun _ h => h.elim)⟩
  case rest =>
  obtain ⟨rfl, rfl, hb5⟩ := hcut
  obtain ⟨w5, hw5⟩ : ∃ w5, w5 = wc := ⟨_, rfl⟩
  rw [← hw5] at hb5 ⊢
  clear hw5
  have hl5 := Lib.hid (hl4.out.keep (w' := w5) hb5.size (fun b o h => bcells hb5 b o h))
  have hm5 := Lib.hid (hm4.out.keep (w' := w5) hb5.size (fun b o h => bcells hb5 b o h))
  replace hk := hk.below hb5 hk.lt
  replace hx0 := Lib.hid (hx0.out.keep (w' := w5) (Nat.le_refl _) (fun b o h => bcells hb5 b o (by omega)))
  replace hBw : B ≤ w5.heap.size := Nat.le_trans hBw hb5.size
  have hbw5 := hbw4.trans (hb5.mono hbw4.size)
  clear hbw4 hb5
  clear hl4 hm4 hsetv hfivev hset hfive hAs hD' hsv2 hVp
  have q0 : w5.cell? ⟨w.heap.size, 0, none⟩ = some (.slice pa pn pc) := hk.cell
  have q1 : w5.cell? ⟨w.heap.size, 1, none⟩ = some (.slice sa sn sc) := hk.cell
  go_wp2_with fail
  refine (Fewest_any (B := B) hBw hx0.out).mono ?_
  rintro e w6 ⟨fa, fn, fc, rfl, _, hb6⟩
  obtain ⟨F, hF⟩ : ∃ F, F = (fewestR x).2 := ⟨_, rfl⟩
  rw [← hF] at hFew ⊢
  clear hF q0 q1
  have hl6 := Lib.hid (hl5.out.keep (w' := w6) hb6.size (fun b o h => bcells hb6 b o h))
  have hm6 := Lib.hid (hm5.out.keep (w' := w6) hb6.size (fun b o h => bcells hb6 b o h))
  replace hk := hk.below hb6 hk.lt
  replace hx0 := Lib.hid (hx0.out.keep (w' := w6) (Nat.le_refl _) (fun b o h => bcells hb6 b o (by omega)))
  replace hBw : B ≤ w6.heap.size := Nat.le_trans hBw hb6.size
  have hbw6 := hbw5.trans (hb6.mono hbw5.size)
  clear hbw5 hb6
  clear hl5 hm5
  have hfl : (ln = sn ∧ F = 0) ∨ (ln ≠ sn ∧ F = 4) := by
    have h1 := hall.out
    rw [hlen.out, hsn.out] at h1
    rcases hFew.out with ⟨h2, h3⟩ | ⟨h2, h3⟩
    · exact .inl ⟨h1.2 h3, h2⟩
    · exact .inr ⟨fun e => h3 (h1.1 e), h2⟩
  have hend : D = false ∨ mn < ln ∨ (mn = ln ∧ lessI (memL sv) (memL s) = false) := by
    cases hd : D with
    | false => exact .inl rfl
    | true =>
      have h1 := hbetter.out hd
      rw [more_is, Bool.or_eq_false_iff, decide_eq_false_iff_not] at h1
      have e1 := hlen.out
      have e2 := hmn.out
      by_cases h2 : mn < ln
      · exact .inr (.inl h2)
      · refine .inr (.inr ⟨by omega, ?_⟩)
        have h3 := h1.2
        rw [decide_eq_true (by omega), Bool.true_and] at h3
        exact h3
  clear hbetter hall hFew hlen hmn
  have q0 : w6.cell? ⟨w.heap.size, 0, none⟩ = some (.slice pa pn pc) := hk.cell
  have q1 : w6.cell? ⟨w.heap.size, 1, none⟩ = some (.slice sa sn sc) := hk.cell
  go_upto_region 9 with fail
  go_cut [101] (fun s wx => s = .bool false ∧ Below w6.heap.size w6 wx)
  case first =>
    rcases hfl with ⟨rfl, rfl⟩ | ⟨hne, rfl⟩
    · go_wp2_with (go_at_call 39; refine (Grows_any (m := (ln : Int)) hl6.out).mono ?_; rintro e w7 ⟨rfl, hq7⟩; rw [hgr.out]; obtain ⟨q, rfl⟩ := hq7)
      go_meet
      exact ⟨rfl, below_drewN (Below.refl _ _) _⟩
    · have hne' : ((ln : Int) == (sn : Int)) = false := by simp; omega
      clear hne
      go_wp2_with (go_at_call 39; refine (Grows_any (m := (sn : Int)) hl6.out).mono ?_; rintro e w7 ⟨rfl, hq7⟩; rw [hgr.out]; obtain ⟨q, rfl⟩ := hq7)
      go_meet
      exact ⟨rfl, below_drewN (Below.refl _ _) _⟩
  case rest =>
  obtain ⟨rfl, hb7⟩ := hcut
  obtain ⟨w7, hw7⟩ : ∃ w7, w7 = wc := ⟨_, rfl⟩
  rw [← hw7] at hb7 ⊢
  clear hw7
  have hl7 := Lib.hid (hl6.out.keep (w' := w7) hb7.size (fun b o h => bcells hb7 b o h))
  have hm7 := Lib.hid (hm6.out.keep (w' := w7) hb7.size (fun b o h => bcells hb7 b o h))
  have hbw7 := hbw6.trans (hb7.mono hbw6.size)
  clear q0 q1 hfl hb7 hgr
  rcases hend with rfl | hlt | ⟨he, hless⟩
  · go_wp2_with fail
    refine (sawn_any _).mono ?_
    rintro e w8 ⟨rfl, hb8⟩
    go_wp2_with fail
    go_ret
    exact ⟨rfl, hbw7.trans (hb8.mono hbw7.size)⟩
  · have h1 : ((mn : Int) < (ln : Int)) := by omega
    cases D
    all_goals
      go_wp2_with fail
      refine (sawn_any _).mono ?_
      rintro e w8 ⟨rfl, hb8⟩
      go_wp2_with fail
      go_ret
      exact ⟨rfl, hbw7.trans (hb8.mono hbw7.size)⟩
  · subst he
    have hless' := Lib.hid hless
    clear hless
    cases D
    · go_wp2_with fail
      refine (sawn_any _).mono ?_
      rintro e w8 ⟨rfl, hb8⟩
      go_wp2_with fail
      go_ret
      exact ⟨rfl, hbw7.trans (hb8.mono hbw7.size)⟩
    · go_wp2_with fail
      refine (Less_any hm7.out hl7.out).mono ?_
      rintro e w8 ⟨rfl, hq8⟩
      rw [hless'.out]
      have hbw8 := hbw7.trans ((hq8.below _).mono hbw7.size)
      go_wp2_with fail
      refine (sawn_any _).mono ?_
      rintro e w9 ⟨rfl, hb9⟩
      go_wp2_with fail
      go_ret
      exact ⟨rfl, hbw8.trans (hb9.mono hbw8.size)⟩
end Go.Proofs.Ytbbolibkheelmaa
