/- Walks: the specification's Most. Walks: the specification's Lacks. -/
import Derived.Test.YtbbolibkheelmaaPfs13
import Derived.Deep.DeepCutAuto
import Derived.Test.YtbbolibkheelmaaPfs07
namespace Go.Proofs.Ytbbolibkheelmaa
open Go.RowKit Go.Shelf

set_option maxRecDepth 100000 in
set_option maxHeartbeats 1000000 in
theorem every_any {pa sa : Option Addr} {pn pc sn sc : Nat} {w : World} (hp : pn ≤ 3) :
    Calls Try.prog 86 #[.agg #[.slice pa pn pc, .slice sa sn sc]] w fun e w' => ∃ a m c, e = .returned (.slice a m c) ∧ IntsAt w'.heap.size w' a m (memU (2 ^ pn - 1) pn) ∧ Below w.heap.size w w' ∧ m ≤ c := by
  obtain ⟨w0, hw0⟩ : ∃ w0, w0 = w.alloc (.cells #[.slice pa pn pc, .slice sa sn sc] 25) := ⟨_, rfl⟩
  have hbw0 : Below w.heap.size w w0 := by rw [hw0]; exact (Below.refl _ _).alloc (Nat.le_refl _) _
  have hk : Blk w0 w.heap.size #[.slice pa pn pc, .slice sa sn sc] := by rw [hw0]; exact Blk.new w _ _
  have l0 : w.heap.size < w0.heap.size := hk.lt
  obtain ⟨M, hM⟩ : ∃ M, M = 2 ^ pn := ⟨_, rfl⟩
  obtain ⟨U, hU⟩ : ∃ U, U = M - 1 := ⟨_, rfl⟩
  have hM32 : M ≤ 32 := by rw [hM]; exact pow_le32 (by omega)
  have hM1 : 1 ≤ M := by rw [hM]; exact Nat.pow_pos (by decide)
  have hwr : IntKind.i64.wrap (2 ^ pn) = (M : Int) := (IntWalk.i64_left _).trans (by rw [hM]; exact wrap_pow (by omega))
  have hsu : IntKind.i64.wrap ((M : Int) - 1) = (U : Int) := by rw [show (M : Int) - 1 = (U : Int) by omega]; exact IntWalk.i64_in _ (by omega)
  rw [← hM, ← hU]
  have hU32 : U < 32 := by omega
  clear hM hU hM1
  have q0 : w0.cell? ⟨w.heap.size, 0, none⟩ = some (.slice pa pn pc) := hk.cell
  have q1 : w0.cell? ⟨w.heap.size, 1, none⟩ = some (.slice sa sn sc) := hk.cell
  go_enter Try.func86, Try.ntmps86
  replace hw0 := hw0.symm
  go_upto_region 1 with fail
  clear hw0 q0 q1
  have hO := open_wide
  have hF := hO.fn
  have hd := hO.depth
  have hS0 : SameBut (fun _ => False) w0 w0.drew := (SameBut.refl _ _).drew
  have hread : ∀ w', SameBut (fun _ => False) w0 w' → w'.cell? ⟨w.heap.size, 0, none⟩ = some (.slice pa pn pc) ∧ w'.cell? ⟨w.heap.size, 1, none⟩ = some (.slice sa sn sc) := fun w' h =>
    ⟨(hk.same h (fun e => e)).cell, (hk.same h (fun e => e)).cell⟩
  refine region_planW (fun w' => SameBut (fun _ => False) w0 w') [(0, true), (1, true), (2, true), (3, true), (4, true), (5, true), (6, true), (7, true), (8, false), (9, true)] (by kernel_rfl) (by kernel_rfl) (by kernel_rfl) (by decide) (by kernel_rfl) ?_
  iterate 8
    (refine plan_take ?_ rfl hS0 (by rfl) ?_ ?_
     rotate_left
     · intro w' hw'
       obtain ⟨q1, q2⟩ := hread w' hw'
       go_simp
       with_reducible rfl
     simp only [Act.put, List.setIfInBounds_toArray, List.set_cons_zero, List.set_cons_succ])
  refine plan_one rfl (by rfl) (fun K hK => ?_)
  go_simp
  refine (hO.calls (List_cap (s := U) (N := pn) (w := w0.drew) hU32 (by omega))).mono ?_
  rintro e w5 ⟨a, m, c, rfl, hl, hb5, hc⟩
  have hS5 : SameBut (fun _ => False) w0 w5 := hS0.below hb5
  refine hK _ _ hS5 ?_
  clear hK K
  iterate 1
    (refine plan_take ?_ rfl hS5 (by rfl) ?_ ?_
     rotate_left
     · intro w' hw'
       go_simp
       with_reducible rfl
     simp only [Act.put, List.setIfInBounds_toArray, List.set_cons_zero, List.set_cons_succ])
  unfold planW okN
  go_wp2_with fail
  go_ret
  exact ⟨a, m, c, rfl, hl, hbw0.trans ((hS5.toBelow (Nat.le_refl _) (fun _ h => h.elim)).mono hbw0.size), hc⟩

set_option maxRecDepth 100000 in
set_option maxHeartbeats 8000000 in
theorem refmost_any {B : Nat} {pa sa : Option Addr} {pn pc sn sc : Nat} {x : Book} {w : World} (hB : B ≤ w.heap.size) (hx : BookAt B w pa pn sa sn x) (hb : bookOk x = true) :
    Calls Try.prog 81 #[.agg #[.slice pa pn pc, .slice sa sn sc]] w fun e w' => ∃ a m c, e = .returned (.slice a m c) ∧ IntsAt w'.heap.size w' a m (mostR x).1 ∧ Below w.heap.size w w' := by
  have hb' := Lib.hid hb
  have hpn := Lib.hid hx.planks.len
  have hsn := Lib.hid hx.parts.len
  have hp1 := (good_of hb).planks
  have hp2 := (good_of hb).parts
  rw [hpn.out] at hp1
  rw [hsn.out] at hp2
  obtain ⟨p1, p2⟩ := hp1
  obtain ⟨s1, s2⟩ := hp2
  obtain ⟨N, hN⟩ : ∃ N, N = 2 ^ sn := ⟨_, rfl⟩
  have hN32 : N ≤ 32 := by rw [hN]; exact pow_le32 s2
  have hN1 : 1 ≤ N := by rw [hN]; exact Nat.pow_pos (by decide)
  have hNx : Hid (2 ^ x.parts.length = N) := Lib.hid (by rw [hsn.out, hN])
  have hmem : Hid (∀ k, k < N → memU k sn = memL k) := Lib.hid (fun k hk => memU_L (by rw [← hN]; exact hk) (by omega))
  have hwr0 : Hid (wrap64 (2 ^ sn) = (N : Int)) := Lib.hid (by rw [hN]; exact wrap_pow s2)
  obtain ⟨R, hR⟩ : ∃ R, R = (mostR x).1 := ⟨_, rfl⟩
  rw [← hR]
  have hR' := Lib.hid hR
  obtain ⟨w0, hw0⟩ : ∃ w0, w0 = w.alloc (.cells #[.slice pa pn pc, .slice sa sn sc] 25) := ⟨_, rfl⟩
  have hbw0 : Below w.heap.size w w0 := by rw [hw0]; exact (Below.refl _ _).alloc (Nat.le_refl _) _
  have hk : Blk w0 w.heap.size #[.slice pa pn pc, .slice sa sn sc] := by rw [hw0]; exact Blk.new w _ _
  have l0 : w.heap.size < w0.heap.size := hk.lt
  have hx0 := Lib.hid (hx.keep (w' := w0) (Nat.le_refl _) (fun b o h => bcells hbw0 b o (by omega)))
  have hBw : B ≤ w0.heap.size := by omega
  clear hx hb hN hR
  have q0 : w0.cell? ⟨w.heap.size, 0, none⟩ = some (.slice pa pn pc) := hk.cell
  have q1 : w0.cell? ⟨w.heap.size, 1, none⟩ = some (.slice sa sn sc) := hk.cell
  go_enter Try.func81, Try.ntmps81
  replace hw0 := hw0.symm
  go_wp2_with fail
  clear hw0
  refine (tables_any (B := B) hBw hx0.out hb'.out).mono ?_
  rintro e w1 ⟨ta, tc, rfl, ht, hb1⟩
  clear q0 q1
  replace hk := hk.below hb1 hk.lt
  replace hx0 := Lib.hid (hx0.out.keep (w' := w1) (Nat.le_refl _) (fun b o h => bcells hb1 b o (by omega)))
  replace hBw : B ≤ w1.heap.size := Nat.le_trans hBw hb1.size
  have hbw1 := hbw0.trans (hb1.mono hbw0.size)
  clear hbw0 hb1
  have ht1 := Lib.hid ht
  clear ht
  obtain ⟨w2, hw2⟩ : ∃ w2, w2 = w1.alloc (.cells #[] 3) := ⟨_, rfl⟩
  have hb2 : Below w1.heap.size w1 w2 := by rw [hw2]; exact (Below.refl _ _).alloc (Nat.le_refl _) _
  have ht2 := Lib.hid (ht1.out.keep (w' := w2) hb2.size (fun b o h => bcells hb2 b o h))
  replace hw2 := hw2.symm
  have q0 : w1.cell? ⟨w.heap.size, 0, none⟩ = some (.slice pa pn pc) := hk.cell
  have q1 : w1.cell? ⟨w.heap.size, 1, none⟩ = some (.slice sa sn sc) := hk.cell
  go_wp2_with fail
  clear hw2 q0 q1 ht1
  replace hk := hk.below hb2 hk.lt
  replace hx0 := Lib.hid (hx0.out.keep (w' := w2) (Nat.le_refl _) (fun b o h => bcells hb2 b o (by omega)))
  replace hBw : B ≤ w2.heap.size := Nat.le_trans hBw hb2.size
  have hbw2 := hbw1.trans (hb2.mono hbw1.size)
  clear hbw1 hb2
  have l2 := hk.lt
  have hwr := hwr0.out
  go_loopw [4, 5] (fun u v wr => ∃ (k b bn bc : Nat) (ba : Option Addr), k ≤ N ∧ v = .int .i64 k ∧ u = .slice ba bn bc ∧ Hid (IntsAt wr.heap.size wr ba bn (memL b)) ∧ Hid (b < N) ∧ Hid (SoFar moreB (allF x) k b) ∧ Below w2.heap.size w2 wr) (fun _ v _ => N - (intOf v).toNat)
  case atStart => exact ⟨0, 0, 0, 0, _, by omega, rfl, rfl, Lib.hid ⟨by rw [memL_zero]; rfl, by omega, fun i hi => absurd hi (by omega)⟩, Lib.hid (by omega), Lib.hid ⟨all_zero hb'.out, fun j hj => absurd hj (by omega)⟩, Below.refl _ _⟩
  case round =>
    obtain ⟨k, b, bn, bc, ba, hk2, rfl, rfl, hbest, hbN, hso, hbr⟩ := hrel
    have hkr := hk.below hbr l2
    have hzr := hbr.size
    have hbwr := hbw2.trans (hbr.mono hbw2.size)
    have q0 : wr.cell? ⟨w.heap.size, 0, none⟩ = some (.slice pa pn pc) := hkr.cell
    have q1 : wr.cell? ⟨w.heap.size, 1, none⟩ = some (.slice sa sn sc) := hkr.cell
    by_cases hlt : k < N
    case neg =>
      obtain rfl : k = N := by omega
      have hRb : Hid (R = memL b) := Lib.hid (by
        have h1 := hso.out
        rw [← hNx.out] at h1
        rw [hR'.out, sofar_most hb'.out h1])
      go_wp2_with fail
      go_ret
      exact ⟨ba, bn, bc, rfl, by rw [hRb.out]; exact hbest.out, hbwr⟩
    have hki : (k : Int) < N := by omega
    have hk32 : k < 32 := by omega
    go_wp2_with fail
    refine (List_any (s := k) (N := sn) hk32 s2).mono ?_
    rintro e w3 ⟨la, ln, lc, rfl, hl, hb3⟩
    rw [hmem.out k hlt] at hl
    clear q0 q1
    have hk3 := hkr.below hb3 hkr.lt
    have hbr3 := hbr.trans (hb3.mono hbr.size)
    have hbw3 := hbwr.trans (hb3.mono hbwr.size)
    have hbest3 := Lib.hid (hbest.out.keep (w' := w3) hb3.size (fun b o h => bcells hb3 b o h))
    have hl3 := Lib.hid hl
    have hll := hl.len
    have hbl := hbest.out.len
    have hls := hl.small
    have hbs := hbest.out.small
    have hz3 := hb3.size
    obtain ⟨D, hD⟩ : ∃ D, D = lessI (memL k) (memL b) := ⟨_, rfl⟩
    obtain ⟨A, hA⟩ : ∃ A, A = allF x k := ⟨_, rfl⟩
    have hmore : Hid (moreB (memL k) (memL k).length (memL b) (memL b).length = (decide (bn < ln) || (decide (ln = bn) && D))) := Lib.hid (by rw [more_asked, hll, hbl, hD])
    have hD' := Lib.hid hD
    have hA' := Lib.hid hA
    clear hl hbest hkr hbr hbwr hb3 hll hbl hD hA
    have q0 : w3.cell? ⟨w.heap.size, 0, none⟩ = some (.slice pa pn pc) := hk3.cell
    have q1 : w3.cell? ⟨w.heap.size, 1, none⟩ = some (.slice sa sn sc) := hk3.cell
    go_upto_region 7 with fail
    obtain ⟨C, hC⟩ : ∃ C, C = (decide (bn < ln) || (decide (ln = bn) && D)) := ⟨_, rfl⟩
    rw [← hC] at hmore
    go_cut [46] (fun s wx => s = .bool (C && A) ∧ Below w3.heap.size w3 wx)
    case first =>
      have hgive : Hid (∀ (w4 : World), Below w3.heap.size w3 w4 → Calls Try.prog 86 #[.agg #[.slice pa pn pc, .slice sa sn sc]] w4 fun e w5 => ∃ a m c, e = .returned (.slice a m c) ∧ Below w3.heap.size w3 w5 ∧ Calls Try.prog 87 #[.slice ta pn tc, .slice a m c, .int .i64 k] w5 fun e w6 => e = .returned (.bool A) ∧ Below w3.heap.size w3 w6) := Lib.hid (fun w4 hb4 => by
        have hz4 := hb4.size
        have hcell : ∀ b o, b < w2.heap.size → w4.cell? ⟨b, o, none⟩ = w2.cell? ⟨b, o, none⟩ := fun b o h => (bcells hb4 b o (by omega)).trans (bcells hbr3 b o h)
        refine (every_any p2).mono ?_
        rintro e w5 ⟨a, m, c, rfl, he, hb5, hmc⟩
        have hz5 := hb5.size
        refine ⟨a, m, c, rfl, hb4.trans (hb5.mono hz4), ?_⟩
        refine (given_any hb'.out (memU (2 ^ pn - 1) pn) w2.heap.size w5.heap.size ta a pn tc m c k w5 (by omega) (ht2.out.keep (Nat.le_refl _) (fun b o h => (bcells hb5 b o (by omega)).trans (hcell b o (by omega)))) (Nat.le_refl _) he hmc (fun y hy => ?_) (by rw [hNx.out]; exact hlt)).mono ?_
        · obtain ⟨p, rfl, hp, _⟩ := mem_memU.1 hy
          rw [hpn.out]; omega
        · rintro e w6 ⟨rfl, hb6⟩
          refine ⟨?_, (hb4.trans (hb5.mono hz4)).trans (hb6.mono (by omega))⟩
          have := shared_all hb'.out (s := k) (by rw [hNx.out]; exact hlt)
          rw [hpn.out] at this
          rw [this, hA'.out])
      by_cases hgt : bn < ln
      · have hgI : (bn : Int) < ln := by omega
        have hCt : C = true := by rw [hC]; simp [hgt]
        subst hCt
        clear hC hgt
        go_wp2_with fail
        refine (hgive.out w3 (Below.refl _ _)).mono ?_
        rintro e w5 ⟨a, m, c, rfl, hb5, hcall⟩
        go_wp2_with fail
        refine hcall.mono ?_
        rintro e w6 ⟨rfl, hb6⟩
        clear hcall
        go_wp2_with fail
        go_meet
        exact ⟨by cases A <;> rfl, hb6⟩
      · have hgI : ¬ (bn : Int) < ln := by omega
        by_cases heq : ln = bn
        · have heI : ((ln : Int) == (bn : Int)) = true := by simp [heq]
          have hCD : C = D := by rw [hC]; simp [heq]
          subst hCD
          clear hC heq hgt
          go_wp2_with fail
          refine (Less_any hl3.out hbest3.out).mono ?_
          rintro e w4 ⟨rfl, hq4⟩
          rw [← hD'.out]
          have hb4 := hq4.below w3.heap.size
          have hk4 := hk3.below hb4 hk3.lt
          clear q0 q1
          have q0 : w4.cell? ⟨w.heap.size, 0, none⟩ = some (.slice pa pn pc) := hk4.cell
          have q1 : w4.cell? ⟨w.heap.size, 1, none⟩ = some (.slice sa sn sc) := hk4.cell
          cases C with
          | false =>
            go_wp2_with fail
            go_meet
            exact ⟨rfl, hb4⟩
          | true =>
            go_wp2_with fail
            refine (hgive.out w4 hb4).mono ?_
            rintro e w5 ⟨a, m, c, rfl, hb5, hcall⟩
            go_wp2_with fail
            refine hcall.mono ?_
            rintro e w6 ⟨rfl, hb6⟩
            clear hcall
            go_wp2_with fail
            go_meet
            exact ⟨by cases A <;> rfl, hb6⟩
        · have heI : ((ln : Int) == (bn : Int)) = false := by simp; omega
          have hCf : C = false := by rw [hC]; simp [heq, hgt]
          subst hCf
          clear hC heq hgt
          go_wp2_with fail
          go_meet
          exact ⟨rfl, Below.refl _ _⟩
    case rest =>
    obtain ⟨rfl, hb4⟩ := hcut
    obtain ⟨w4, hw4⟩ : ∃ w4, w4 = wc := ⟨_, rfl⟩
    rw [← hw4] at hb4 ⊢
    clear hw4
    have hbr4 := hbr3.trans (hb4.mono hbr3.size)
    have hbest4 := Lib.hid (hbest3.out.keep (w' := w4) hb4.size (fun b o h => bcells hb4 b o h))
    have hl4 := Lib.hid (hl3.out.keep (w' := w4) hb4.size (fun b o h => bcells hb4 b o h))
    clear hC hb4 hbr3 hbest3 hl3
    obtain ⟨Y, hY⟩ : ∃ Y, Y = (C && A) := ⟨_, rfl⟩
    rw [← hY]
    have hY' := Lib.hid hY
    clear hY
    cases Y with
    | true =>
      have hnew : Hid (SoFar moreB (allF x) (k + 1) k) := Lib.hid (by
        have h1 := hY'.out
        rw [eq_comm, Bool.and_eq_true] at h1
        exact sofar_take more_law hso.out (by rw [hmore.out]; exact h1.1) (by rw [← hA'.out]; exact h1.2))
      go_wp2_with fail
      go_roundw
      case rel => exact ⟨k + 1, k, ln, lc, la, by omega, by go_num, rfl, hl4, Lib.hid hlt, hnew, hbr4⟩
      case measure => simp [intOf]; omega
    | false =>
      have hnew : Hid (SoFar moreB (allF x) (k + 1) b) := Lib.hid (by
        have h1 := hY'.out
        refine sofar_keep hso.out (fun h => ?_)
        rw [hmore.out, ← hA'.out] at h
        rw [h.1, h.2] at h1
        cases h1)
      go_wp2_with fail
      go_roundw
      case rel => exact ⟨k + 1, b, bn, bc, ba, by omega, by go_num, rfl, hbest4, hbN, hnew, hbr4⟩
      case measure => simp [intOf]; omega

set_option maxRecDepth 100000 in
set_option maxHeartbeats 1000000 in
theorem refMost_any {B : Nat} {pa sa : Option Addr} {pn pc sn sc : Nat} {x : Book} {w : World} (hB : B ≤ w.heap.size) (hx : BookAt B w pa pn sa sn x) :
    Calls Try.prog 27 #[.agg #[.slice pa pn pc, .slice sa sn sc]] w fun e w' => ∃ a m c, e = .returned (.tuple #[.slice a m c, .int .i64 (mostR x).2]) ∧ IntsAt w'.heap.size w' a m (mostR x).1 ∧ Below w.heap.size w w' := by
  obtain ⟨w0, hw0⟩ : ∃ w0, w0 = w.alloc (.cells #[.slice pa pn pc, .slice sa sn sc] 25) := ⟨_, rfl⟩
  have hbw0 : Below w.heap.size w w0 := by rw [hw0]; exact (Below.refl _ _).alloc (Nat.le_refl _) _
  have hk : Blk w0 w.heap.size #[.slice pa pn pc, .slice sa sn sc] := by rw [hw0]; exact Blk.new w _ _
  have l0 : w.heap.size < w0.heap.size := hk.lt
  have hx0 := Lib.hid (hx.keep (w' := w0) (Nat.le_refl _) (fun b o h => bcells hbw0 b o (by omega)))
  have hBw : B ≤ w0.heap.size := by omega
  clear hx
  have q0 : w0.cell? ⟨w.heap.size, 0, none⟩ = some (.slice pa pn pc) := hk.cell
  have q1 : w0.cell? ⟨w.heap.size, 1, none⟩ = some (.slice sa sn sc) := hk.cell
  obtain ⟨R, hR⟩ : ∃ R, R = mostR x := ⟨_, rfl⟩
  rw [← hR]
  have hR' := Lib.hid hR
  clear hR
  go_enter Try.func27, Try.ntmps27
  replace hw0 := hw0.symm
  go_wp2_with fail
  clear hw0
  refine (refCheck_any (B := B) hBw hx0.out).mono ?_
  rintro e w1 ⟨rfl, hb1⟩
  clear q0 q1
  replace hk := hk.below hb1 hk.lt
  replace hx0 := Lib.hid (hx0.out.keep (w' := w1) (Nat.le_refl _) (fun b o h => bcells hb1 b o (by omega)))
  replace hBw : B ≤ w1.heap.size := Nat.le_trans hBw hb1.size
  have hbw1 := hbw0.trans (hb1.mono hbw0.size)
  clear hbw0 hb1
  have q0 : w1.cell? ⟨w.heap.size, 0, none⟩ = some (.slice pa pn pc) := hk.cell
  have q1 : w1.cell? ⟨w.heap.size, 1, none⟩ = some (.slice sa sn sc) := hk.cell
  rcases Bool.eq_false_or_eq_true (bookOk x) with hb | hb
  · rw [hb]
    have hb' := Lib.hid hb
    have hRe : Hid (R.2 = 0) := Lib.hid (by rw [hR'.out]; unfold mostR; rw [if_pos hb])
    clear hb
    go_wp2_with fail
    refine (refmost_any (B := B) hBw hx0.out hb'.out).mono ?_
    rintro e w2 ⟨a, m, c, rfl, hl, hb2⟩
    go_wp2_with fail
    go_ret2
    exact ⟨a, m, c, by rw [hRe.out]; rfl, by rw [hR'.out]; exact hl, hbw1.trans (hb2.mono hbw1.size)⟩
  · rw [hb]
    have hRe : Hid (R = ([], 10)) := Lib.hid (by rw [hR'.out]; unfold mostR; rw [if_neg (by rw [hb]; simp)])
    clear hb
    go_wp2_with fail
    go_ret2
    exact ⟨none, 0, 0, by rw [hRe.out]; rfl, by rw [hRe.out]; exact ⟨rfl, by omega, fun i hi => by omega⟩, hbw1⟩
end Go.Proofs.Ytbbolibkheelmaa
namespace Go.Proofs.Ytbbolibkheelmaa
open Go.RowKit Go.Shelf

set_option maxRecDepth 100000 in
set_option maxHeartbeats 4000000 in
theorem refLacks_any {B : Nat} {pa sa : Option Addr} {pn pc sn sc : Nat} {x : Book} {w : World} (hB : B ≤ w.heap.size) (hx : BookAt B w pa pn sa sn x) :
    Calls Try.prog 31 #[.agg #[.slice pa pn pc, .slice sa sn sc]] w fun e w' => e = .returned (.tuple #[.int .i64 (lacksR x).1, .int .i64 (lacksR x).2]) ∧ Below w.heap.size w w' := by
  have hpn := Lib.hid hx.planks.len
  have hsn := Lib.hid hx.parts.len
  obtain ⟨R, hR⟩ : ∃ R, R = lacksR x := ⟨_, rfl⟩
  rw [← hR]
  have hR' := Lib.hid hR
  obtain ⟨w0, hw0⟩ : ∃ w0, w0 = w.alloc (.cells #[.slice pa pn pc, .slice sa sn sc] 25) := ⟨_, rfl⟩
  have hbw0 : Below w.heap.size w w0 := by rw [hw0]; exact (Below.refl _ _).alloc (Nat.le_refl _) _
  have hk : Blk w0 w.heap.size #[.slice pa pn pc, .slice sa sn sc] := by rw [hw0]; exact Blk.new w _ _
  have l0 : w.heap.size < w0.heap.size := hk.lt
  have hx0 := Lib.hid (hx.keep (w' := w0) (Nat.le_refl _) (fun b o h => bcells hbw0 b o (by omega)))
  have hBw : B ≤ w0.heap.size := by omega
  clear hx hR
  have q0 : w0.cell? ⟨w.heap.size, 0, none⟩ = some (.slice pa pn pc) := hk.cell
  have q1 : w0.cell? ⟨w.heap.size, 1, none⟩ = some (.slice sa sn sc) := hk.cell
  go_enter Try.func31, Try.ntmps31
  replace hw0 := hw0.symm
  go_wp2_with fail
  clear hw0
  refine (refCheck_any (B := B) hBw hx0.out).mono ?_
  rintro e w1 ⟨rfl, hb1⟩
  clear q0 q1
  replace hk := hk.below hb1 hk.lt
  replace hx0 := Lib.hid (hx0.out.keep (w' := w1) (Nat.le_refl _) (fun b o h => bcells hb1 b o (by omega)))
  replace hBw : B ≤ w1.heap.size := Nat.le_trans hBw hb1.size
  have hbw1 := hbw0.trans (hb1.mono hbw0.size)
  clear hbw0 hb1
  rcases Bool.eq_false_or_eq_true (bookOk x) with hb | hb
  case inr =>
    rw [hb]
    have hRe : Hid (R = (0, 10)) := Lib.hid (by rw [hR'.out]; unfold lacksR; rw [if_neg (by rw [hb]; simp)])
    clear hb
    go_wp2_with fail
    go_ret2
    exact ⟨by rw [hRe.out]; rfl, hbw1⟩
  rw [hb]
  have hb' := Lib.hid hb
  have hp1 := (good_of hb).planks
  have hp2 := (good_of hb).parts
  rw [hpn.out] at hp1
  rw [hsn.out] at hp2
  obtain ⟨p1, p2⟩ := hp1
  obtain ⟨s1, s2⟩ := hp2
  have hRl : Hid (R = lackL (allF x) sn) := Lib.hid (by rw [hR'.out]; unfold lacksR; rw [if_pos hb, hsn.out])
  clear hb
  have q0 : w1.cell? ⟨w.heap.size, 0, none⟩ = some (.slice pa pn pc) := hk.cell
  have q1 : w1.cell? ⟨w.heap.size, 1, none⟩ = some (.slice sa sn sc) := hk.cell
  go_wp2_with fail
  refine (tables_any (B := B) hBw hx0.out hb'.out).mono ?_
  rintro e w2 ⟨ta, tc, rfl, ht, hb2⟩
  clear q0 q1
  replace hk := hk.below hb2 hk.lt
  replace hx0 := Lib.hid (hx0.out.keep (w' := w2) (Nat.le_refl _) (fun b o h => bcells hb2 b o (by omega)))
  replace hBw : B ≤ w2.heap.size := Nat.le_trans hBw hb2.size
  have hbw2 := hbw1.trans (hb2.mono hbw1.size)
  clear hbw1 hb2
  have ht2 := Lib.hid ht
  clear ht
  go_wp2_with fail
  have l2 := hk.lt
  go_loopw [6] (fun v wr => ∃ k : Nat, k ≤ sn ∧ v = .int .i64 k ∧ Hid (∀ j, j < k → allF x (2 ^ (j + 1) - 1) = true) ∧ Below w2.heap.size w2 wr) (fun v _ => sn - (intOf v).toNat)
  case atStart => exact ⟨0, by omega, rfl, Lib.hid (fun j hj => absurd hj (Nat.not_lt_zero j)), Below.refl _ _⟩
  case round =>
    obtain ⟨k, hk2, rfl, hall, hbr⟩ := hrel
    have hkr := hk.below hbr l2
    have hzr := hbr.size
    have hbwr := hbw2.trans (hbr.mono hbw2.size)
    have q0 : wr.cell? ⟨w.heap.size, 0, none⟩ = some (.slice pa pn pc) := hkr.cell
    have q1 : wr.cell? ⟨w.heap.size, 1, none⟩ = some (.slice sa sn sc) := hkr.cell
    by_cases hlt : k < sn
    case neg =>
      obtain rfl : k = sn := by omega
      have hRe : Hid (R = (0, 4)) := Lib.hid (by rw [hRl.out]; exact lackL_none hall.out)
      go_wp2_with fail
      go_ret2
      exact ⟨by rw [hRe.out]; rfl, hbwr⟩
    have hki : (k : Int) < sn := by omega
    obtain ⟨q, hq⟩ : ∃ q, q = k + 1 := ⟨_, rfl⟩
    have hadd : IntKind.i64.wrap ((k : Int) + 1) = (q : Int) := by rw [show (k : Int) + 1 = (q : Int) by omega]; exact IntWalk.i64_in _ (by omega)
    obtain ⟨N, hN⟩ : ∃ N, N = 2 ^ q := ⟨_, rfl⟩
    obtain ⟨U, hU⟩ : ∃ U, U = N - 1 := ⟨_, rfl⟩
    have hN32 : N ≤ 32 := by rw [hN]; exact pow_le32 (by omega)
    have hN1 : 1 ≤ N := by rw [hN]; exact Nat.pow_pos (by decide)
    have hwr : IntKind.i64.wrap (2 ^ q) = (N : Int) := (IntWalk.i64_left _).trans (by rw [hN]; exact wrap_pow (by omega))
    have hsu : IntKind.i64.wrap ((N : Int) - 1) = (U : Int) := by rw [show (N : Int) - 1 = (U : Int) by omega]; exact IntWalk.i64_in _ (by omega)
    obtain ⟨A, hA⟩ : ∃ A, A = allF x U := ⟨_, rfl⟩
    have hUx : Hid (U < 2 ^ x.parts.length) := Lib.hid (by
      have := Nat.pow_le_pow_right (n := 2) (by decide) (show q ≤ x.parts.length by rw [hsn.out]; omega)
      rw [← hN] at this; omega)
    have hAg : Hid (sharedR x (memU (2 ^ pn - 1) pn) U = A) := Lib.hid (by
      have := shared_all hb'.out (s := U) hUx.out
      rw [hpn.out] at this
      rw [this, hA])
    have hAk : Hid (allF x (2 ^ (k + 1) - 1) = A) := Lib.hid (by rw [← hq, ← hN, ← hU, hA])
    have hq5 : q ≤ 5 := by omega
    have hq64 : min q 64 = q := by omega
    clear hA hU hN hq
    go_upto_region 8 with fail
    clear q0 q1
    go_cut [29] (fun s wx => s = .bool (!A) ∧ Below wr.heap.size wr wx)
    case first =>
      have hO := open_wide
      have hF := hO.fn
      have hd := hO.depth
      have hS0 : SameBut (fun _ => False) wr wr.drew := (SameBut.refl _ _).drew
      have hread : ∀ w', SameBut (fun _ => False) wr w' → w'.cell? ⟨w.heap.size, 0, none⟩ = some (.slice pa pn pc) ∧ w'.cell? ⟨w.heap.size, 1, none⟩ = some (.slice sa sn sc) := fun w' h =>
        ⟨(hkr.same h (fun e => e)).cell, (hkr.same h (fun e => e)).cell⟩
      refine region_planW (fun w' => SameBut (fun _ => False) wr w') [(0, true), (1, true), (3, true), (4, true), (5, true), (6, true), (2, false), (7, false), (8, true)] (by kernel_rfl) (by kernel_rfl) (by kernel_rfl) (by decide) (by kernel_rfl) ?_
      iterate 6
        (refine plan_take ?_ rfl hS0 (by rfl) ?_ ?_
         rotate_left
         · intro w' hw'
           obtain ⟨q1, q2⟩ := hread w' hw'
           go_simp
           with_reducible rfl
         simp only [Act.put, List.setIfInBounds_toArray, List.set_cons_zero, List.set_cons_succ])
      refine plan_one rfl (by rfl) (fun K hK => ?_)
      go_simp
      refine (hO.calls (every_any (w := wr.drew) p2)).mono ?_
      rintro e w5 ⟨ea, en, ec, rfl, he, hb5, hec⟩
      have hS5 : SameBut (fun _ => False) wr w5 := hS0.below hb5
      have hz5 := hS5.size
      refine hK _ _ hS5 ?_
      clear hK K
      refine plan_one rfl (by rfl) (fun K hK => ?_)
      go_simp
      refine (hO.calls (given_any hb'.out (memU (2 ^ pn - 1) pn) w2.heap.size w5.heap.size ta ea pn tc en ec U w5 (by omega) (ht2.out.keep (Nat.le_refl _) (fun b o h => (hS5.cell (by omega) (fun e => e)).trans (bcells hbr b o h))) (Nat.le_refl _) he hec (fun y hy => by
        obtain ⟨p, rfl, hp, _⟩ := mem_memU.1 hy
        rw [hpn.out]; omega) hUx.out)).mono ?_
      rintro e w6 ⟨rfl, hb6⟩
      rw [hAg.out]
      have hS6 : SameBut (fun _ => False) wr w6 := hS5.below hb6
      refine hK _ _ hS6 ?_
      clear hK K
      iterate 1
        (refine plan_take ?_ rfl hS6 (by rfl) ?_ ?_
         rotate_left
         · intro w' hw'
           go_simp
           with_reducible rfl
         simp only [Act.put, List.setIfInBounds_toArray, List.set_cons_zero, List.set_cons_succ])
      unfold planW okN
      go_wp2_with fail
      go_meet
      exact ⟨rfl, hS6.toBelow (Nat.le_refl _) (fun _ h => h.elim)⟩
    case rest =>
    obtain ⟨rfl, hb3⟩ := hcut
    obtain ⟨w3, hw3⟩ : ∃ w3, w3 = wc := ⟨_, rfl⟩
    rw [← hw3] at hb3 ⊢
    clear hw3
    clear hwr hsu hadd hkr hq64
    have hbr3 := hbr.trans (hb3.mono hbr.size)
    have hbw3 := hbwr.trans (hb3.mono hbwr.size)
    cases A with
    | false =>
      have hRe : Hid (R = ((k : Int), 0)) := Lib.hid (by rw [hRl.out]; exact lackL_some hlt hall.out hAk.out)
      go_wp2_with fail
      go_ret2
      exact ⟨by rw [hRe.out]; rfl, hbw3⟩
    | true =>
      have hnew : Hid (∀ j, j < k + 1 → allF x (2 ^ (j + 1) - 1) = true) := Lib.hid (fun j hj => by
        by_cases e : j = k
        · subst e; exact hAk.out
        · exact hall.out j (by omega))
      go_wp2_with fail
      go_roundw
      case rel => exact ⟨k + 1, by omega, by go_num, hnew, hbr3⟩
      case measure => simp [intOf]; omega
end Go.Proofs.Ytbbolibkheelmaa
