/- Walks: can all parts of a set be cut from the planks of another one? Walks: PlankLacks. -/
import Derived.Test.YtilbkmogmlcpaaaPtn08
namespace Go.Proofs.Ytilbkmogmlcpaaa
open Go.RowKit Go.Shelf

set_option maxRecDepth 100000 in
set_option maxHeartbeats 4000000 in
theorem enough_any {B : Nat} {pa sa : Option Addr} {pn pc sn sc S s : Nat} {x : Book} {w : World} (hB : B ≤ w.heap.size) (hx : BookAt B w pa pn sa sn x) (hb : bookOk x = true) (hS : S < 2 ^ x.planks.length) (hs : s < 2 ^ x.parts.length) :
    Calls Try.prog 46 #[.agg #[.slice pa pn pc, .slice sa sn sc], .int .i64 S, .int .i64 s] w fun e w' => e = .returned (.tuple #[.bool (enoughR x S s).1, .bool true]) ∧ Below w.heap.size w w' := by
  have hG := good_of hb
  have hpn := hx.planks.len
  have hsn := hx.parts.len
  have hp := hG.planks
  have hq := hG.parts
  have hS32 : S < 32 := by have := pow_le32 (n := x.planks.length) (by omega); omega
  have hs32 := lt32 hb hs
  obtain ⟨e1, e2⟩ := enough_is hb hS hs
  obtain ⟨R, hR⟩ : ∃ R, R = (enoughR x S s).1 := ⟨_, rfl⟩
  rw [← hR]
  obtain ⟨W0, hW0⟩ : ∃ W0, W0 = w.alloc (.cells #[.slice pa pn pc, .slice sa sn sc] 25) := ⟨_, rfl⟩
  have hb0 : Below w.heap.size w W0 := by rw [hW0]; exact (Below.refl _ _).alloc (Nat.le_refl _) _
  have hk0 : Blk W0 w.heap.size #[.slice pa pn pc, .slice sa sn sc] := by rw [hW0]; exact Blk.new w _ _
  have l0 : w.heap.size < W0.heap.size := hk0.lt
  have hx0 := Lib.hid (hx.keep (w' := W0) (Nat.le_refl _) (fun b o h => bcells hb0 b o (by omega)))
  have q0 : W0.cell? ⟨w.heap.size, 0, none⟩ = some (.slice pa pn pc) := hk0.cell
  have q1 : W0.cell? ⟨w.heap.size, 1, none⟩ = some (.slice sa sn sc) := hk0.cell
  have hpn1 : 0 < pn := by omega
  have hpn5 : pn ≤ 5 := by omega
  have hsn1 : 0 < sn := by omega
  have hsn5 : sn ≤ 5 := by omega
  clear hx hpn hsn hp hq hG
  unfold enoughR at hR e1
  by_cases h0 : s = 0 ∨ S = 0
  · rw [if_pos h0] at hR
    have hR' := Lib.hid hR
    clear hR e1 e2
    go_enter Try.func46, Try.ntmps46
    replace hW0 := hW0.symm
    by_cases h1 : s = 0
    · have h2 : ((s : Int) == 0) = true := by simp [h1]
      have h3 : Hid (R = true) := Lib.hid (by rw [hR'.out]; exact decide_eq_true h1)
      clear h0 h1
      go_wp2_with fail
      go_ret2
      exact ⟨by rw [h3.out]; rfl, hb0⟩
    · have h2 : ((s : Int) == 0) = false := by simp [h1]
      have h4 : ((S : Int) == 0) = true := by simp [h0.resolve_left h1]
      have h3 : Hid (R = false) := Lib.hid (by rw [hR'.out]; exact decide_eq_false h1)
      clear h0 h1
      go_wp2_with fail
      go_ret2
      exact ⟨by rw [h3.out]; rfl, hb0⟩
  · rw [if_neg h0] at hR e1
    have h2 : ((s : Int) == 0) = false := by simp; omega
    have h4 : ((S : Int) == 0) = false := by simp; omega
    obtain ⟨E, hE⟩ : ∃ E, E = (fewestR (onlyB x S s)).2 := ⟨_, rfl⟩
    rw [← hE] at hR e1
    have hE' := Lib.hid hE
    have h5 : (E = 0 ∧ R = true) ∨ (E = 4 ∧ R = false) := by
      rw [Bool.or_eq_true, decide_eq_true_eq, decide_eq_true_eq] at e1
      rcases e1 with e | e
      · exact .inl ⟨e, by rw [hR]; exact decide_eq_true e⟩
      · exact .inr ⟨e, by rw [hR, e]; rfl⟩
    clear h0 hR e1 e2 hE
    go_enter Try.func46, Try.ntmps46
    replace hW0 := hW0.symm
    go_wp2_with fail
    clear hW0
    refine (only_any (B := B) (by omega) hx0.out hpn1 hpn5 hsn1 hsn5 hS32 hs32).mono ?_
    rintro e w1 ⟨qa, qn, qc, ta, tn, tc, rfl, hy, hb1⟩
    have hbw1 := hb0.trans (hb1.mono hb0.size)
    clear q0 q1
    go_wp2_with fail
    refine (Fewest_any (Nat.le_refl _) hy).mono ?_
    rintro e w2 ⟨ra, rn, rc, rfl, hl, hb2⟩
    rw [← hE'.out]
    have hbw2 := hbw1.trans (hb2.mono hbw1.size)
    clear hl hb2
    rcases h5 with ⟨rfl, rfl⟩ | ⟨rfl, rfl⟩
    · go_wp2_with fail
      go_ret2
      exact ⟨rfl, hbw2⟩
    · go_wp2_with fail
      go_ret2
      exact ⟨rfl, hbw2⟩
end Go.Proofs.Ytilbkmogmlcpaaa
namespace Go.Proofs.Ytilbkmogmlcpaaa
open Go.RowKit Go.Shelf

theorem pow_pred {n : Nat} (hn : n ≤ 5) : ∃ U : Nat, U = 2 ^ n - 1 ∧ U < 32 ∧ U < 2 ^ n ∧ wrap64 (2 ^ n) = (U : Int) + 1 := by
  have h1 := wrap_pow hn
  have h2 := pow_le32 hn
  have h3 := Nat.pow_pos (n := n) (a := 2) (by decide)
  exact ⟨2 ^ n - 1, rfl, by omega, by omega, by rw [h1]; omega⟩
theorem pow_up {n k X : Nat} (hX : X < 2 ^ k) (hk : k ≤ n) : X < 2 ^ n := Nat.lt_of_lt_of_le hX (Nat.pow_le_pow_right (by decide) hk)
theorem enough_ones {x : Book} {m k : Nat} (hb : bookOk x = true) (hm : m = x.planks.length) (hk : k ≤ x.parts.length) : (enoughR x (2 ^ m - 1) (2 ^ k - 1)).1 = true ↔ Pack x (fun _ => True) (fun p => p < k) := by
  rw [(enough_is hb (by rw [hm]; exact ones_lt _) (by have := Nat.pow_le_pow_right (n := 2) (by decide) hk; have := ones_lt k; omega)).2]
  constructor
  · exact fun h => h.mono (fun _ _ _ => trivial) (fun p hp => by rw [has_ones]; exact decide_eq_true hp)
  · exact fun h => h.mono (fun i hi _ => by rw [has_ones, hm]; exact decide_eq_true hi) (fun p hp => by rw [has_ones] at hp; simpa using hp)

theorem enough_at {x : Book} {m k V X : Nat} (hb : bookOk x = true) (hm : m = x.planks.length) (hk : k ≤ x.parts.length) (hV : V = 2 ^ m - 1) (hX : X = 2 ^ k - 1) : (enoughR x V X).1 = true ↔ Pack x (fun _ => True) (fun p => p < k) := by
  subst hV
  subst hX
  exact enough_ones hb hm hk
theorem enough_not {x : Book} {m k V X : Nat} (hb : bookOk x = true) (hm : m = x.planks.length) (hk : k ≤ x.parts.length) (hV : V = 2 ^ m - 1) (hX : X = 2 ^ k - 1) (h : ¬ Pack x (fun _ => True) (fun p => p < k)) : (enoughR x V X).1 = false := by
  rw [← Bool.not_eq_true, enough_at hb hm hk hV hX]
  exact h

set_option maxRecDepth 100000 in
set_option maxHeartbeats 4000000 in
theorem lacks_law {B : Nat} {pa sa : Option Addr} {pn pc sn sc : Nat} {x : Book} {w : World} (hB : B ≤ w.heap.size) (hx : BookAt B w pa pn sa sn x) :
    Calls Try.prog 11 #[.agg #[.slice pa pn pc, .slice sa sn sc]] w fun e w' => e = .returned (.bool true) ∧ Below w.heap.size w w' := by
  have hpn := Lib.hid hx.planks.len
  have hsn := Lib.hid hx.parts.len
  obtain ⟨W0, hW0⟩ : ∃ W0, W0 = w.alloc (.cells #[.slice pa pn pc, .slice sa sn sc] 25) := ⟨_, rfl⟩
  have hb0 : Below w.heap.size w W0 := by rw [hW0]; exact (Below.refl _ _).alloc (Nat.le_refl _) _
  have hk : Blk W0 w.heap.size #[.slice pa pn pc, .slice sa sn sc] := by rw [hW0]; exact Blk.new w _ _
  have l0 : w.heap.size < W0.heap.size := hk.lt
  have hx0 := Lib.hid (hx.keep (w' := W0) (Nat.le_refl _) (fun b o h => bcells hb0 b o (by omega)))
  have hBw : B ≤ W0.heap.size := by omega
  clear hx
  have q0 : W0.cell? ⟨w.heap.size, 0, none⟩ = some (.slice pa pn pc) := hk.cell
  have q1 : W0.cell? ⟨w.heap.size, 1, none⟩ = some (.slice sa sn sc) := hk.cell
  obtain ⟨P, hP⟩ : ∃ P, P = (lacksR x).1 := ⟨_, rfl⟩
  obtain ⟨E, hE⟩ : ∃ E, E = (lacksR x).2 := ⟨_, rfl⟩
  have hPE := Lib.hid (And.intro hP hE)
  clear hP hE
  go_enter Try.func11, Try.ntmps11
  replace hW0 := hW0.symm
  go_wp2_with fail
  clear hW0
  refine (Lacks_any (B := B) hBw hx0.out).mono ?_
  rintro e w1 ⟨rfl, hb1⟩
  rw [← hPE.out.1, ← hPE.out.2]
  clear q0 q1
  replace hk := hk.below hb1 hk.lt
  replace hx0 := Lib.hid (hx0.out.keep (w' := w1) (Nat.le_refl _) (fun b o h => bcells hb1 b o (by omega)))
  replace hBw : B ≤ w1.heap.size := Nat.le_trans hBw hb1.size
  have hbw1 := hb0.trans (hb1.mono hb0.size)
  clear hb0 hb1
  have q0 : w1.cell? ⟨w.heap.size, 0, none⟩ = some (.slice pa pn pc) := hk.cell
  have q1 : w1.cell? ⟨w.heap.size, 1, none⟩ = some (.slice sa sn sc) := hk.cell
  go_wp2_with fail
  refine (sound_any (B := B) hBw hx0.out).mono ?_
  rintro e w2 ⟨rfl, hb2⟩
  clear q0 q1
  replace hk := hk.below hb2 hk.lt
  replace hx0 := Lib.hid (hx0.out.keep (w' := w2) (Nat.le_refl _) (fun b o h => bcells hb2 b o (by omega)))
  replace hBw : B ≤ w2.heap.size := Nat.le_trans hBw hb2.size
  have hbw2 := hbw1.trans (hb2.mono hbw1.size)
  clear hbw1 hb2
  rcases Bool.eq_false_or_eq_true (bookOk x) with hb | hb
  case inr =>
    rw [hb]
    have h1 : lacksR x = (0, 10) := by unfold lacksR; rw [if_neg (by rw [hb]; simp)]
    have hp0 := hPE.out.1
    have he0 := hPE.out.2
    rw [h1] at hp0 he0
    simp only at hp0 he0
    subst hp0
    subst he0
    clear h1 hb
    go_wp2_with fail
    refine (sawn_any _).mono ?_
    rintro e w3 ⟨rfl, hb3⟩
    go_wp2_with fail
    go_ret
    exact ⟨rfl, hbw2.trans (hb3.mono hbw2.size)⟩
  rw [hb]
  have hG := good_of hb
  have hb' := Lib.hid hb
  have hp1 := hG.planks
  have hp2 := hG.parts
  rw [hpn.out] at hp1
  rw [hsn.out] at hp2
  obtain ⟨p1, p2⟩ := hp1
  obtain ⟨s1, s2⟩ := hp2
  obtain ⟨V, hV1, hV2, hV3, hV4⟩ := pow_pred (n := pn) (by omega)
  obtain ⟨U, hU1, hU2, hU3, hU4⟩ := pow_pred (n := sn) s2
  have hall := enough_at hb hpn.out.symm (k := sn) (by rw [hsn.out]; omega) hV1 hU1
  obtain ⟨A, hA⟩ : ∃ A, A = (enoughR x V U).1 := ⟨_, rfl⟩
  rw [← hA] at hall
  have hA' := Lib.hid hA
  have hcase : (∃ k : Nat, k < sn ∧ P = k ∧ E = 0 ∧ A = false ∧ Pack x (fun _ => True) (fun p => p < k) ∧ ¬ Pack x (fun _ => True) (fun p => p < k + 1)) ∨ (P = 0 ∧ E = 4 ∧ A = true) := by
    rw [hPE.out.1, hPE.out.2]
    rcases lacks_is hb with ⟨k, k1, k2, k3, k4⟩ | ⟨k1, k2⟩
    · rw [k2]
      rw [hsn.out] at k1
      refine .inl ⟨k, k1, rfl, rfl, ?_, k3, k4⟩
      rw [← Bool.not_eq_true, hall]
      exact fun h => k4 (h.mono (fun _ _ h => h) (fun p hp => by omega))
    · rw [k1]
      refine .inr ⟨rfl, rfl, hall.2 ?_⟩
      unfold AllP at k2
      rw [hsn.out] at k2
      exact k2
  have hVp : Hid (V < 2 ^ x.planks.length) := Lib.hid (by rw [hpn.out]; exact hV3)
  have hUp : Hid (U < 2 ^ x.parts.length) := Lib.hid (by rw [hsn.out]; exact hU3)
  have hV1' := Lib.hid hV1
  have hU4' := Lib.hid hU4
  clear hG hb hall hA hV1 hV3 hU1 hU3 hU4
  have q0 : w2.cell? ⟨w.heap.size, 0, none⟩ = some (.slice pa pn pc) := hk.cell
  have q1 : w2.cell? ⟨w.heap.size, 1, none⟩ = some (.slice sa sn sc) := hk.cell
  go_upto_region 5 with fail
  clear hV4 q0 q1
  go_cut [6, 7] (fun s t wx => s = .bool A ∧ t = .bool true ∧ Below w2.heap.size w2 wx)
  case first =>
    have hO := open_wide
    have hF := hO.fn
    have hd := hO.depth
    have hS0 : SameBut (fun _ => False) w2 w2.drew := (SameBut.refl _ _).drew
    have hread : ∀ w', SameBut (fun _ => False) w2 w' → w'.cell? ⟨w.heap.size, 0, none⟩ = some (.slice pa pn pc) ∧ w'.cell? ⟨w.heap.size, 1, none⟩ = some (.slice sa sn sc) := fun w' h =>
      ⟨(hk.same h (fun e => e)).cell, (hk.same h (fun e => e)).cell⟩
    have hwr : IntKind.i64.wrap (2 ^ sn) = (U : Int) + 1 := (IntWalk.i64_left _).trans hU4'.out
    have e1 : IntKind.i64.wrap ((U : Int) + 1 - 1) = U := by rw [show (U : Int) + 1 - 1 = U by omega]; exact IntWalk.i64_in _ (by omega)
    have e2 : IntKind.i64.wrap (U : Int) = U := IntWalk.i64_in _ (by omega)
    refine region_planW (fun w' => SameBut (fun _ => False) w2 w') [(0, true), (1, true), (2, true), (3, true), (4, true), (5, true), (6, true), (7, false), (8, true), (9, true), (10, true), (11, true), (12, true)] (by kernel_rfl) (by kernel_rfl) (by kernel_rfl) (by decide) (by kernel_rfl) ?_
    iterate 7
      (refine plan_take ?_ rfl hS0 (by rfl) ?_ ?_
       rotate_left
       · intro w' hw'
         obtain ⟨q1, q2⟩ := hread w' hw'
         go_simp
         with_reducible rfl
       simp only [Act.put, List.setIfInBounds_toArray, List.set_cons_zero, List.set_cons_succ])
    refine plan_one rfl (by rfl) (fun K hK => ?_)
    go_simp
    refine (hO.calls (enough_any (B := B) (w := w2.drew) hBw (hx0.out.keep (Nat.le_refl _) (fun b o h => hS0.cell (by omega) (fun e => e))) hb'.out hVp.out hUp.out)).mono ?_
    rintro e w5 ⟨rfl, hb5⟩
    rw [← hA'.out]
    have hS5 : SameBut (fun _ => False) w2 w5 := hS0.below hb5
    refine hK _ _ hS5 ?_
    clear hK K hb5
    iterate 5
      (refine plan_take ?_ rfl hS5 (by rfl) ?_ ?_
       rotate_left
       · intro w' hw'
         go_simp
         with_reducible rfl
       simp only [Act.put, List.setIfInBounds_toArray, List.set_cons_zero, List.set_cons_succ])
    unfold planW okN
    go_wp2_with fail
    go_meet
    exact ⟨rfl, rfl, hS5.toBelow (Nat.le_refl _) (fun _ h => h.elim)⟩
  case rest =>
  obtain ⟨rfl, rfl, hb3⟩ := hcut
  obtain ⟨w3, hw3⟩ : ∃ w3, w3 = wc := ⟨_, rfl⟩
  rw [← hw3] at hb3 ⊢
  clear hw3 hA' hU4'
  replace hk := hk.below hb3 hk.lt
  replace hx0 := Lib.hid (hx0.out.keep (w' := w3) (Nat.le_refl _) (fun b o h => bcells hb3 b o (by omega)))
  replace hBw : B ≤ w3.heap.size := Nat.le_trans hBw hb3.size
  have hbw3 := hbw2.trans (hb3.mono hbw2.size)
  clear hbw2 hb3
  have q0 : w3.cell? ⟨w.heap.size, 0, none⟩ = some (.slice pa pn pc) := hk.cell
  have q1 : w3.cell? ⟨w.heap.size, 1, none⟩ = some (.slice sa sn sc) := hk.cell
  rcases hcase with ⟨k, hks, rfl, rfl, rfl, hyes, hno⟩ | ⟨rfl, rfl, rfl⟩
  case inr =>
    have hwi : Hid (withinB 0 0 ((sn : Int) - 1) = true) := Lib.hid (by simp [withinB]; omega)
    go_wp2_with (first | (go_at_call 38; refine (In_any _ _ _ _).mono ?_; rintro e w' ⟨rfl, rfl⟩; rw [hwi.out]) | (go_at_call 23; refine (sawn_any _).mono ?_; rintro e w4 ⟨rfl, hb4⟩))
    go_ret
    exact ⟨rfl, hbw3.trans (hb4.mono hbw3.size)⟩
  have hwi : Hid (withinB k 0 ((sn : Int) - 1) = true) := Lib.hid (by simp [withinB]; omega)
  obtain ⟨X, hX1, hX2, hX3, hX4⟩ := pow_pred (n := k) (by omega)
  obtain ⟨Y, hY1, hY2, hY3, hY4⟩ := pow_pred (n := k + 1) (by omega)
  have hX5 : Hid (X < 2 ^ x.parts.length) := Lib.hid (pow_up hX3 (by rw [hsn.out]; omega))
  have hY5 : Hid (Y < 2 ^ x.parts.length) := Lib.hid (pow_up hY3 (by rw [hsn.out]; omega))
  have hy1 : Hid ((enoughR x V X).1 = true) := Lib.hid ((enough_at hb'.out hpn.out.symm (by rw [hsn.out]; omega) hV1'.out hX1).2 hyes)
  have hy2 : Hid ((enoughR x V Y).1 = false) := Lib.hid (enough_not hb'.out hpn.out.symm (by rw [hsn.out]; omega) hV1'.out hY1 hno)
  have hX4' := Lib.hid hX4
  have hY4' := Lib.hid hY4
  clear hyes hno hX1 hX3 hX4 hY1 hY3 hY4
  go_upto_region 10 with (go_at_call 38; refine (In_any _ _ _ _).mono ?_; rintro e w' ⟨rfl, rfl⟩; rw [hwi.out])
  clear q0 q1
  go_cut [7, 8] (fun s t wx => s = .bool true ∧ t = .bool true ∧ Below w3.heap.size w3 wx)
  case first =>
    have hO := open_wide
    have hF := hO.fn
    have hd := hO.depth
    have hS0 : SameBut (fun _ => False) w3 w3.drew := (SameBut.refl _ _).drew
    have hread : ∀ w', SameBut (fun _ => False) w3 w' → w'.cell? ⟨w.heap.size, 0, none⟩ = some (.slice pa pn pc) ∧ w'.cell? ⟨w.heap.size, 1, none⟩ = some (.slice sa sn sc) := fun w' h =>
      ⟨(hk.same h (fun e => e)).cell, (hk.same h (fun e => e)).cell⟩
    have hwr : IntKind.i64.wrap (2 ^ k) = (X : Int) + 1 := (IntWalk.i64_left _).trans hX4'.out
    have e1 : IntKind.i64.wrap ((X : Int) + 1 - 1) = X := by rw [show (X : Int) + 1 - 1 = X by omega]; exact IntWalk.i64_in _ (by omega)
    have e2 : IntKind.i64.wrap (X : Int) = X := IntWalk.i64_in _ (by omega)
    refine region_planW (fun w' => SameBut (fun _ => False) w3 w') [(0, true), (1, true), (2, true), (3, true), (4, true), (5, false), (6, true), (7, true), (8, true), (9, true), (10, true)] (by kernel_rfl) (by kernel_rfl) (by kernel_rfl) (by decide) (by kernel_rfl) ?_
    iterate 5
      (refine plan_take ?_ rfl hS0 (by rfl) ?_ ?_
       rotate_left
       · intro w' hw'
         obtain ⟨q1, q2⟩ := hread w' hw'
         go_simp
         with_reducible rfl
       simp only [Act.put, List.setIfInBounds_toArray, List.set_cons_zero, List.set_cons_succ])
    refine plan_one rfl (by rfl) (fun K hK => ?_)
    go_simp
    refine (hO.calls (enough_any (B := B) (w := w3.drew) hBw (hx0.out.keep (Nat.le_refl _) (fun b o h => hS0.cell (by omega) (fun e => e))) hb'.out hVp.out hX5.out)).mono ?_
    rintro e w5 ⟨rfl, hb5⟩
    rw [hy1.out]
    have hS5 : SameBut (fun _ => False) w3 w5 := hS0.below hb5
    refine hK _ _ hS5 ?_
    clear hK K hb5
    iterate 5
      (refine plan_take ?_ rfl hS5 (by rfl) ?_ ?_
       rotate_left
       · intro w' hw'
         go_simp
         with_reducible rfl
       simp only [Act.put, List.setIfInBounds_toArray, List.set_cons_zero, List.set_cons_succ])
    unfold planW okN
    go_wp2_with fail
    go_meet
    exact ⟨rfl, rfl, hS5.toBelow (Nat.le_refl _) (fun _ h => h.elim)⟩
  case rest =>
  obtain ⟨rfl, rfl, hb4⟩ := hcut
  obtain ⟨w4, hw4⟩ : ∃ w4, w4 = wc := ⟨_, rfl⟩
  rw [← hw4] at hb4 ⊢
  clear hw4 hX4' hX5 hy1
  replace hk := hk.below hb4 hk.lt
  replace hx0 := Lib.hid (hx0.out.keep (w' := w4) (Nat.le_refl _) (fun b o h => bcells hb4 b o (by omega)))
  replace hBw : B ≤ w4.heap.size := Nat.le_trans hBw hb4.size
  have hbw4 := hbw3.trans (hb4.mono hbw3.size)
  clear hbw3 hb4
  go_upto_region 11 with fail
  go_cut [9, 10] (fun s t wx => s = .bool false ∧ t = .bool true ∧ Below w4.heap.size w4 wx)
  case first =>
    have hO := open_wide
    have hF := hO.fn
    have hd := hO.depth
    have hS0 : SameBut (fun _ => False) w4 w4.drew := (SameBut.refl _ _).drew
    have hread : ∀ w', SameBut (fun _ => False) w4 w' → w'.cell? ⟨w.heap.size, 0, none⟩ = some (.slice pa pn pc) ∧ w'.cell? ⟨w.heap.size, 1, none⟩ = some (.slice sa sn sc) := fun w' h =>
      ⟨(hk.same h (fun e => e)).cell, (hk.same h (fun e => e)).cell⟩
    have e0 : IntKind.i64.wrap ((k : Int) + 1) = k + 1 := IntWalk.i64_in _ (by omega)
    have e00 : ((k : Int) + 1).toNat = k + 1 := by omega
    have e01 : 0 ≤ (k : Int) + 1 := by omega
    have hwr : IntKind.i64.wrap (2 ^ (k + 1)) = (Y : Int) + 1 := (IntWalk.i64_left _).trans hY4'.out
    have e1 : IntKind.i64.wrap ((Y : Int) + 1 - 1) = Y := by rw [show (Y : Int) + 1 - 1 = Y by omega]; exact IntWalk.i64_in _ (by omega)
    have e2 : IntKind.i64.wrap (Y : Int) = Y := IntWalk.i64_in _ (by omega)
    refine region_planW (fun w' => SameBut (fun _ => False) w4 w') [(0, true), (1, true), (2, true), (3, true), (4, true), (5, true), (6, false), (7, true), (8, true), (9, true), (10, true), (11, true)] (by kernel_rfl) (by kernel_rfl) (by kernel_rfl) (by decide) (by kernel_rfl) ?_
    iterate 6
      (refine plan_take ?_ rfl hS0 (by rfl) ?_ ?_
       rotate_left
       · intro w' hw'
         obtain ⟨q1, q2⟩ := hread w' hw'
         go_simp
         with_reducible rfl
       simp only [Act.put, List.setIfInBounds_toArray, List.set_cons_zero, List.set_cons_succ])
    refine plan_one rfl (by rfl) (fun K hK => ?_)
    go_simp
    refine (hO.calls (enough_any (B := B) (w := w4.drew) hBw (hx0.out.keep (Nat.le_refl _) (fun b o h => hS0.cell (by omega) (fun e => e))) hb'.out hVp.out hY5.out)).mono ?_
    rintro e w5 ⟨rfl, hb5⟩
    rw [hy2.out]
    have hS5 : SameBut (fun _ => False) w4 w5 := hS0.below hb5
    refine hK _ _ hS5 ?_
    clear hK K hb5
    iterate 5
      (refine plan_take ?_ rfl hS5 (by rfl) ?_ ?_
       rotate_left
       · intro w' hw'
         go_simp
         with_reducible rfl
       simp only [Act.put, List.setIfInBounds_toArray, List.set_cons_zero, List.set_cons_succ])
    unfold planW okN
    go_wp2_with fail
    go_meet
    exact ⟨rfl, rfl, hS5.toBelow (Nat.le_refl _) (fun _ h => h.elim)⟩
  case rest =>
  obtain ⟨rfl, rfl, hb5⟩ := hcut
  have hbw5 := hbw4.trans (hb5.mono hbw4.size)
  go_wp2_with fail
  refine (sawn_any _).mono ?_
  rintro e w6 ⟨rfl, hb6⟩
  go_wp2_with fail
  go_ret
  exact ⟨rfl, hbw5.trans (hb6.mono hbw5.size)⟩
end Go.Proofs.Ytilbkmogmlcpaaa
