/- PlankFewests returns true for every book; no condition. Walks: PlankFewests. Walks: the specification's Fewest. -/
import Derived.Test.YtbbolibkheelmaaPfs14
import Derived.Test.YtbbolibkheelmaaPfs07
import Derived.Test.YtbbolibkheelmaaPfs15
import Derived.Test.YtbbolibkheelmaaGa15
import Derived.Test.YtbbolibkheelmaaPfs01
namespace Go.Proofs.Ytbbolibkheelmaa
open Go.RowKit Go.Shelf

set_option maxRecDepth 100000 in
set_option maxHeartbeats 8000000 in
theorem refFewest_any {B : Nat} {pa sa : Option Addr} {pn pc sn sc : Nat} {x : Book} {w : World} (hB : B ≤ w.heap.size) (hx : BookAt B w pa pn sa sn x) :
    Calls Try.prog 29 #[.agg #[.slice pa pn pc, .slice sa sn sc]] w fun e w' => ∃ a m c, e = .returned (.tuple #[.slice a m c, .int .i64 (fewestR x).2]) ∧ IntsAt w'.heap.size w' a m (fewestR x).1 ∧ Below w.heap.size w w' := by
  have hpn := Lib.hid hx.planks.len
  have hsn := Lib.hid hx.parts.len
  obtain ⟨R, hR⟩ : ∃ R, R = fewestR x := ⟨_, rfl⟩
  rw [← hR]
  have hR' := Lib.hid hR
  obtain ⟨w0, hw0⟩ : ∃ w0, w0 = w.alloc (.cells #[.slice pa pn pc, .slice sa sn sc] 25) := ⟨_, rfl⟩
  have hbw0 : Below w.heap.size w w0 := by rw [hw0]; exact (Below.refl _ _).alloc (Nat.le_refl _) _
  have hk : Blk w0 w.heap.size #[.slice pa pn pc, .slice sa sn sc] := by rw [hw0]; exact Blk.new w _ _
  have l0 : w.heap.size < w0.heap.size := hk.lt
  have hx0 := Lib.hid (hx.keep (w' := w0) (Nat.le_refl _) (fun b o h => bcells hbw0 b o (by omega)))
  have hBw : B ≤ w0.heap.size := by omega
  clear hx hR
  have q0 : w0.cell? ⟨w.heap.size, 0, none⟩ = some (.slice pa pn pc) := hk.cell
  have q1 : w0.cell? ⟨w.heap.size, 1, none⟩ = some (.slice sa sn sc) := hk.cell
  go_enter Try.func29, Try.ntmps29
  replace hw0 := hw0.symm
  go_wp2_with fail
  clear hw0
  refine (refCheck_any (B := B) hBw hx0.out).mono ?_
  rintro e w1 ⟨rfl, hb1⟩
  clear q0 q1
  replace hk := hk.below hb1 hk.lt
  replace hx0 := Lib.hid (hx0.out.keep (w' := w1) (Nat.le_refl _) (fun b o h => bcells hb1 b o (by omega)))
  replace hBw : B ≤ w1.heap.size := Nat.le_trans hBw hb1.size
  have hbw1 := hbw0.trans (hb1.mono hbw0.size)
  clear hbw0 hb1
  rcases Bool.eq_false_or_eq_true (bookOk x) with hb | hb
  case inr =>
    rw [hb]
    have hRe : Hid (R = ([], 10)) := Lib.hid (by rw [hR'.out]; unfold fewestR; rw [if_neg (by rw [hb]; simp)])
    clear hb
    go_wp2_with fail
    go_ret2
    exact ⟨none, 0, 0, by rw [hRe.out]; rfl, by rw [hRe.out]; exact ⟨rfl, by omega, fun i hi => by omega⟩, hbw1⟩
  rw [hb]
  have hb' := Lib.hid hb
  have hp1 := (good_of hb).planks
  have hp2 := (good_of hb).parts
  rw [hpn.out] at hp1
  rw [hsn.out] at hp2
  obtain ⟨p1, p2⟩ := hp1
  obtain ⟨s1, s2⟩ := hp2
  obtain ⟨M, hM⟩ : ∃ M, M = 2 ^ pn := ⟨_, rfl⟩
  obtain ⟨V, hV⟩ : ∃ V, V = M - 1 := ⟨_, rfl⟩
  have hM32 : M ≤ 32 := by rw [hM]; exact pow_le32 (by omega)
  have hM1 : 1 ≤ M := by rw [hM]; exact Nat.pow_pos (by decide)
  have hwrM : Hid (wrap64 (2 ^ pn) = (M : Int)) := Lib.hid (by rw [hM]; exact wrap_pow (by omega))
  have hMx : Hid (2 ^ x.planks.length = M) := Lib.hid (by rw [hpn.out, hM])
  have hmem : Hid (∀ k, k < M → memU k pn = memL k) := Lib.hid (fun k hk => memU_L (by rw [← hM]; exact hk) (by omega))
  obtain ⟨N, hN⟩ : ∃ N, N = 2 ^ sn := ⟨_, rfl⟩
  obtain ⟨U, hU⟩ : ∃ U, U = N - 1 := ⟨_, rfl⟩
  have hN32 : N ≤ 32 := by rw [hN]; exact pow_le32 s2
  have hN1 : 1 ≤ N := by rw [hN]; exact Nat.pow_pos (by decide)
  have hNx : Hid (2 ^ x.parts.length = N) := Lib.hid (by rw [hsn.out, hN])
  have hwr : IntKind.i64.wrap (2 ^ sn) = (N : Int) := (IntWalk.i64_left _).trans (by rw [hN]; exact wrap_pow s2)
  have hsu : IntKind.i64.wrap ((N : Int) - 1) = (U : Int) := by rw [show (N : Int) - 1 = (U : Int) by omega]; exact IntWalk.i64_in _ (by omega)
  have hgiveU : Hid (∀ S : Nat, sharedR x (memU S pn) U = wholeF x S) := Lib.hid (fun S => by
    have := shared_whole hb (S := S)
    rw [hpn.out, hNx.out, ← hU] at this
    exact this)
  have hUx : Hid (U < 2 ^ x.parts.length) := Lib.hid (by rw [hNx.out]; omega)
  have hin : Hid (∀ S : Nat, ∀ y ∈ memU S pn, 0 ≤ y ∧ y < (x.planks.length : Int)) := Lib.hid (fun S y hy => by
    obtain ⟨p, rfl, hp, _⟩ := mem_memU.1 hy
    rw [hpn.out]; omega)
  have hVM : Hid (2 ^ pn - 1 = V) := Lib.hid (by rw [hV, hM])
  have hVlt : V < M := by omega
  clear hb hM hN hU hV
  have q0 : w1.cell? ⟨w.heap.size, 0, none⟩ = some (.slice pa pn pc) := hk.cell
  have q1 : w1.cell? ⟨w.heap.size, 1, none⟩ = some (.slice sa sn sc) := hk.cell
  go_upto_region 4 with fail
  clear q0 q1
  go_cut [5, 6] (fun s t wx => ∃ ta tc, s = .slice ta pn tc ∧ t = .int .i64 U ∧ TabAt wx.heap.size wx ta pn x ∧ Below w1.heap.size w1 wx)
  case first =>
    have hO := open_wide
    have hF := hO.fn
    have hd := hO.depth
    have hS0 : SameBut (fun _ => False) w1 w1.drew := (SameBut.refl _ _).drew
    have hread : ∀ w', SameBut (fun _ => False) w1 w' → w'.cell? ⟨w.heap.size, 0, none⟩ = some (.slice pa pn pc) ∧ w'.cell? ⟨w.heap.size, 1, none⟩ = some (.slice sa sn sc) := fun w' h =>
      ⟨(hk.same h (fun e => e)).cell, (hk.same h (fun e => e)).cell⟩
    refine region_planW (fun w' => SameBut (fun _ => False) w1 w') [(0, true), (2, true), (3, true), (4, true), (5, true), (6, true), (1, false), (7, true), (8, true)] (by kernel_rfl) (by kernel_rfl) (by kernel_rfl) (by decide) (by kernel_rfl) ?_
    iterate 6
      (refine plan_take ?_ rfl hS0 (by rfl) ?_ ?_
       rotate_left
       · intro w' hw'
         obtain ⟨q1, q2⟩ := hread w' hw'
         go_simp
         with_reducible rfl
       simp only [Act.put, List.setIfInBounds_toArray, List.set_cons_zero, List.set_cons_succ])
    refine plan_one rfl (by rfl) (fun K hK => ?_)
    go_simp
    refine (hO.calls (tables_any (B := B) (w := w1.drew) (by show B ≤ w1.heap.size; exact hBw) (hx0.out.keep (Nat.le_refl _) (fun b o h => rfl)) hb'.out)).mono ?_
    rintro e w5 ⟨ta, tc, rfl, ht, hb5⟩
    have hS5 : SameBut (fun _ => False) w1 w5 := hS0.below hb5
    refine hK _ _ hS5 ?_
    clear hK K
    iterate 2
      (refine plan_take ?_ rfl hS5 (by rfl) ?_ ?_
       rotate_left
       · intro w' hw'
         go_simp
         with_reducible rfl
       simp only [Act.put, List.setIfInBounds_toArray, List.set_cons_zero, List.set_cons_succ])
    unfold planW okN
    go_wp2_with fail
    go_meet
    exact ⟨ta, tc, rfl, rfl, ht, hS5.toBelow (Nat.le_refl _) (fun _ h => h.elim)⟩
  case rest =>
  obtain ⟨ta, tc, rfl, rfl, ht, hb2⟩ := hcut
  obtain ⟨w2, hw2⟩ : ∃ w2, w2 = wc := ⟨_, rfl⟩
  rw [← hw2] at ht hb2 ⊢
  clear hw2
  clear hwr hsu
  replace hk := hk.below hb2 hk.lt
  replace hx0 := Lib.hid (hx0.out.keep (w' := w2) (Nat.le_refl _) (fun b o h => bcells hb2 b o (by omega)))
  replace hBw : B ≤ w2.heap.size := Nat.le_trans hBw hb2.size
  have hbw2 := hbw1.trans (hb2.mono hbw1.size)
  clear hbw1 hb2
  have ht2 := Lib.hid ht
  clear ht
  have q0 : w2.cell? ⟨w.heap.size, 0, none⟩ = some (.slice pa pn pc) := hk.cell
  have q1 : w2.cell? ⟨w.heap.size, 1, none⟩ = some (.slice sa sn sc) := hk.cell
  go_wp2_with fail
  refine (every_any p2).mono ?_
  rintro e w3 ⟨ea, en, ec, rfl, he, hb3, hec⟩
  rw [hVM.out] at he
  clear q0 q1
  have ht3 := Lib.hid (ht2.out.keep (w' := w3) hb3.size (fun b o h => bcells hb3 b o h))
  replace hk := hk.below hb3 hk.lt
  replace hx0 := Lib.hid (hx0.out.keep (w' := w3) (Nat.le_refl _) (fun b o h => bcells hb3 b o (by omega)))
  replace hBw : B ≤ w3.heap.size := Nat.le_trans hBw hb3.size
  have hbw3 := hbw2.trans (hb3.mono hbw2.size)
  clear hbw2 hb3
  have he3 := Lib.hid he
  clear he ht2
  go_wp2_with fail
  refine (given_any hb'.out (memU V pn) w3.heap.size w3.heap.size ta ea pn tc en ec U w3 (Nat.le_refl _) ht3.out (Nat.le_refl _) he3.out hec (hin.out V) hUx.out).mono ?_
  rintro e w4 ⟨rfl, hb4⟩
  rw [hgiveU.out]
  have ht4 := Lib.hid (ht3.out.keep (w' := w4) hb4.size (fun b o h => bcells hb4 b o h))
  have he4 := he3.out.keep (w' := w4) hb4.size (fun b o h => bcells hb4 b o h)
  rw [hmem.out V hVlt] at he4
  replace hk := hk.below hb4 hk.lt
  replace hx0 := Lib.hid (hx0.out.keep (w' := w4) (Nat.le_refl _) (fun b o h => bcells hb4 b o (by omega)))
  replace hBw : B ≤ w4.heap.size := Nat.le_trans hBw hb4.size
  have hbw4 := hbw3.trans (hb4.mono hbw3.size)
  clear hbw3 hb4
  have he5 := Lib.hid he4
  clear he3 ht3 he4 hec
  obtain ⟨G, hG⟩ : ∃ G, G = wholeF x V := ⟨_, rfl⟩
  rw [← hG]
  have hG' := Lib.hid hG
  clear hG
  cases G with
  | false =>
    have hRe : Hid (R = ([], 4)) := Lib.hid (by
      rw [hR'.out]
      refine none_fewest hb'.out ?_
      rw [hpn.out, hVM.out]; exact hG'.out.symm)
    go_wp2_with fail
    go_ret2
    exact ⟨none, 0, 0, by rw [hRe.out]; rfl, by rw [hRe.out]; exact ⟨rfl, by omega, fun i hi => by omega⟩, hbw4⟩
  | true =>
  go_wp2_with fail
  have l4 := hk.lt
  have hwr := hwrM.out
  go_loopw [7, 8] (fun u v wr => ∃ (k b bn bc : Nat) (ba : Option Addr), k ≤ M ∧ v = .int .i64 k ∧ u = .slice ba bn bc ∧ Hid (IntsAt wr.heap.size wr ba bn (memL b)) ∧ Hid (b < M) ∧ Hid (SoFar fewerB (wholeF x) k b) ∧ Below w4.heap.size w4 wr) (fun _ v _ => M - (intOf v).toNat)
  case atStart => exact ⟨0, V, en, ec, ea, by omega, rfl, rfl, he5, Lib.hid hVlt, Lib.hid ⟨hG'.out.symm, fun j hj => absurd hj (by omega)⟩, Below.refl _ _⟩
  case round =>
    obtain ⟨k, b, bn, bc, ba, hk2, rfl, rfl, hbest, hbN, hso, hbr⟩ := hrel
    have hkr := hk.below hbr l4
    have hzr := hbr.size
    have hbwr := hbw4.trans (hbr.mono hbw4.size)
    have q0 : wr.cell? ⟨w.heap.size, 0, none⟩ = some (.slice pa pn pc) := hkr.cell
    have q1 : wr.cell? ⟨w.heap.size, 1, none⟩ = some (.slice sa sn sc) := hkr.cell
    by_cases hlt : k < M
    case neg =>
      obtain rfl : k = M := by omega
      have hRb : Hid (R = (memL b, 0)) := Lib.hid (by
        have h1 := hso.out
        rw [← hMx.out] at h1
        rw [hR'.out]
        exact sofar_fewest hb'.out (by rw [hMx.out]; exact hbN.out) h1)
      go_wp2_with fail
      go_ret2
      exact ⟨ba, bn, bc, by rw [hRb.out]; rfl, by rw [hRb.out]; exact hbest.out, hbwr⟩
    have hki : (k : Int) < M := by omega
    have hk32 : k < 32 := by omega
    go_wp2_with fail
    refine (List_cap (s := k) (N := pn) hk32 (by omega)).mono ?_
    rintro e w5 ⟨la, ln, lc, rfl, hl, hb5, hlc⟩
    clear q0 q1
    have hk5 := hkr.below hb5 hkr.lt
    have hbr5 := hbr.trans (hb5.mono hbr.size)
    have hbest5 := Lib.hid (hbest.out.keep (w' := w5) hb5.size (fun b o h => bcells hb5 b o h))
    have hl5 := Lib.hid hl
    have hz5 := hb5.size
    obtain ⟨D, hD⟩ : ∃ D, D = shorterI (memL k) (memL b) := ⟨_, rfl⟩
    obtain ⟨A, hA⟩ : ∃ A, A = wholeF x k := ⟨_, rfl⟩
    have hD' : Hid (D = fewerB (memL k) (memL k).length (memL b) (memL b).length) := Lib.hid (by rw [hD, shorter_fewer])
    have hD2 := Lib.hid hD
    have hA' := Lib.hid hA
    clear hl hbest hkr hbr hbwr hb5 hD hA
    have hl6 : Hid (IntsAt w5.heap.size w5 la ln (memL k)) := Lib.hid (by rw [← hmem.out k hlt]; exact hl5.out)
    go_wp2_with fail
    refine (Shorter_any hl6.out hbest5.out).mono ?_
    rintro e w6 ⟨rfl, hq6⟩
    rw [← hD2.out]
    have hb6 := hq6.below w5.heap.size
    have hbr6 := hbr5.trans (hb6.mono hbr5.size)
    have hz6 := hb6.size
    have hbest6 := Lib.hid (hbest5.out.keep (w' := w6) hb6.size (fun b o h => bcells hb6 b o h))
    have hl7 := Lib.hid (hl6.out.keep (w' := w6) hb6.size (fun b o h => bcells hb6 b o h))
    have hlU := Lib.hid (hl5.out.keep (w' := w6) hb6.size (fun b o h => bcells hb6 b o h))
    clear hb6 hq6 hbr5 hbest5 hl5 hl6 hk5
    cases D with
    | false =>
      have hnew : Hid (SoFar fewerB (wholeF x) (k + 1) b) := Lib.hid (sofar_keep hso.out (fun h => by rw [← hD'.out] at h; cases h.1))
      go_wp2_with fail
      go_roundw
      case rel => exact ⟨k + 1, b, bn, bc, ba, by omega, by go_num, rfl, hbest6, hbN, hnew, hbr6⟩
      case measure => simp [intOf]; omega
    | true =>
      go_wp2_with fail
      refine (given_any hb'.out (memU k pn) w4.heap.size w6.heap.size ta la pn tc ln lc U w6 (by omega) (ht4.out.keep (Nat.le_refl _) (fun b o h => bcells hbr6 b o h)) (Nat.le_refl _) hlU.out hlc (hin.out k) hUx.out).mono ?_
      rintro e w7 ⟨rfl, hb7⟩
      rw [hgiveU.out, ← hA'.out]
      have hbr7 := hbr6.trans (hb7.mono hbr6.size)
      have hbest7 := Lib.hid (hbest6.out.keep (w' := w7) hb7.size (fun b o h => bcells hb7 b o h))
      have hl8 := Lib.hid (hl7.out.keep (w' := w7) hb7.size (fun b o h => bcells hb7 b o h))
      clear hb7 hbr6 hbest6 hl7 hlU
      cases A with
      | false =>
        have hnew : Hid (SoFar fewerB (wholeF x) (k + 1) b) := Lib.hid (sofar_keep hso.out (fun h => by rw [← hA'.out] at h; cases h.2))
        go_wp2_with fail
        go_roundw
        case rel => exact ⟨k + 1, b, bn, bc, ba, by omega, by go_num, rfl, hbest7, hbN, hnew, hbr7⟩
        case measure => simp [intOf]; omega
      | true =>
        have hnew : Hid (SoFar fewerB (wholeF x) (k + 1) k) := Lib.hid (sofar_take fewer_law hso.out hD'.out.symm hA'.out.symm)
        go_wp2_with fail
        go_roundw
        case rel => exact ⟨k + 1, k, ln, lc, la, by omega, by go_num, rfl, hl8, Lib.hid hlt, hnew, hbr7⟩
        case measure => simp [intOf]; omega

end Go.Proofs.Ytbbolibkheelmaa
namespace Go.Proofs.Ytbbolibkheelmaa
open Go.RowKit Go.Shelf

set_option maxRecDepth 100000 in
set_option maxHeartbeats 4000000 in
theorem fewests_law {B : Nat} {pa sa : Option Addr} {pn pc sn sc : Nat} {x : Book} {w : World} (hB : B ≤ w.heap.size) (hx : BookAt B w pa pn sa sn x) :
    Calls Try.prog 5 #[.agg #[.slice pa pn pc, .slice sa sn sc]] w fun e w' => e = .returned (.bool true) ∧ Below w.heap.size w w' := by
  obtain ⟨w0, hw0⟩ : ∃ w0, w0 = w.alloc (.cells #[.slice pa pn pc, .slice sa sn sc] 25) := ⟨_, rfl⟩
  have hbw0 : Below w.heap.size w w0 := by rw [hw0]; exact (Below.refl _ _).alloc (Nat.le_refl _) _
  have hk : Blk w0 w.heap.size #[.slice pa pn pc, .slice sa sn sc] := by rw [hw0]; exact Blk.new w _ _
  have l0 : w.heap.size < w0.heap.size := hk.lt
  have hx0 := Lib.hid (hx.keep (w' := w0) (Nat.le_refl _) (fun b o h => bcells hbw0 b o (by omega)))
  have hBw : B ≤ w0.heap.size := by omega
  clear hx
  obtain ⟨R, hR⟩ : ∃ R, R = fewestR x := ⟨_, rfl⟩
  obtain ⟨M, hM⟩ : ∃ M, M = lacksR x := ⟨_, rfl⟩
  obtain ⟨L, hL⟩ : ∃ L, L = lookR x := ⟨_, rfl⟩
  have hR' := Lib.hid hR
  have hM' := Lib.hid hM
  have hL' := Lib.hid hL
  clear hR hM hL
  have q0 : w0.cell? ⟨w.heap.size, 0, none⟩ = some (.slice pa pn pc) := hk.cell
  have q1 : w0.cell? ⟨w.heap.size, 1, none⟩ = some (.slice sa sn sc) := hk.cell
  go_enter Try.func5, Try.ntmps5
  replace hw0 := hw0.symm
  go_wp2_with fail
  clear hw0
  refine (Fewest_any (B := B) hBw hx0.out).mono ?_
  rintro e w1 ⟨ra, rn, rc, rfl, hr, hb1⟩
  rw [← hR'.out] at hr ⊢
  clear q0 q1
  replace hk := hk.below hb1 hk.lt
  replace hx0 := Lib.hid (hx0.out.keep (w' := w1) (Nat.le_refl _) (fun b o h => bcells hb1 b o (by omega)))
  replace hBw : B ≤ w1.heap.size := Nat.le_trans hBw hb1.size
  have hbw1 := hbw0.trans (hb1.mono hbw0.size)
  clear hbw0 hb1
  have hr1 := Lib.hid hr
  clear hr
  have q0 : w1.cell? ⟨w.heap.size, 0, none⟩ = some (.slice pa pn pc) := hk.cell
  have q1 : w1.cell? ⟨w.heap.size, 1, none⟩ = some (.slice sa sn sc) := hk.cell
  go_wp2_with fail
  refine (refFewest_any (B := B) hBw hx0.out).mono ?_
  rintro e w2 ⟨ta, tn, tc, rfl, ht, hb2⟩
  rw [← hR'.out] at ht ⊢
  clear q0 q1
  have hr2 := Lib.hid (hr1.out.keep (w' := w2) hb2.size (fun b o h => bcells hb2 b o h))
  replace hk := hk.below hb2 hk.lt
  replace hx0 := Lib.hid (hx0.out.keep (w' := w2) (Nat.le_refl _) (fun b o h => bcells hb2 b o (by omega)))
  replace hBw : B ≤ w2.heap.size := Nat.le_trans hBw hb2.size
  have hbw2 := hbw1.trans (hb2.mono hbw1.size)
  clear hbw1 hb2
  have ht2 := Lib.hid ht
  clear ht hr1
  go_wp2_with fail
  refine (Equal_any hr2.out ht2.out).mono ?_
  rintro e w3 ⟨rfl, hq3⟩
  rw [show decide (R.1 = R.1) = true from decide_eq_true rfl]
  have hb3 := hq3.below w2.heap.size
  replace hk := hk.below hb3 hk.lt
  replace hx0 := Lib.hid (hx0.out.keep (w' := w3) (Nat.le_refl _) (fun b o h => bcells hb3 b o (by omega)))
  replace hBw : B ≤ w3.heap.size := Nat.le_trans hBw hb3.size
  have hbw3 := hbw2.trans (hb3.mono hbw2.size)
  clear hbw2 hb3
  clear hq3 hr2 ht2
  have q0 : w3.cell? ⟨w.heap.size, 0, none⟩ = some (.slice pa pn pc) := hk.cell
  have q1 : w3.cell? ⟨w.heap.size, 1, none⟩ = some (.slice sa sn sc) := hk.cell
  go_wp2_with fail
  refine (Lacks_any (B := B) hBw hx0.out).mono ?_
  rintro e w4 ⟨rfl, hb4⟩
  rw [← hM'.out]
  clear q0 q1
  replace hk := hk.below hb4 hk.lt
  replace hx0 := Lib.hid (hx0.out.keep (w' := w4) (Nat.le_refl _) (fun b o h => bcells hb4 b o (by omega)))
  replace hBw : B ≤ w4.heap.size := Nat.le_trans hBw hb4.size
  have hbw4 := hbw3.trans (hb4.mono hbw3.size)
  clear hbw3 hb4
  have q0 : w4.cell? ⟨w.heap.size, 0, none⟩ = some (.slice pa pn pc) := hk.cell
  have q1 : w4.cell? ⟨w.heap.size, 1, none⟩ = some (.slice sa sn sc) := hk.cell
  go_wp2_with fail
  refine (refLacks_any (B := B) hBw hx0.out).mono ?_
  rintro e w5 ⟨rfl, hb5⟩
  rw [← hM'.out]
  clear q0 q1
  replace hk := hk.below hb5 hk.lt
  replace hx0 := Lib.hid (hx0.out.keep (w' := w5) (Nat.le_refl _) (fun b o h => bcells hb5 b o (by omega)))
  replace hBw : B ≤ w5.heap.size := Nat.le_trans hBw hb5.size
  have hbw5 := hbw4.trans (hb5.mono hbw4.size)
  clear hbw4 hb5
  have q0 : w5.cell? ⟨w.heap.size, 0, none⟩ = some (.slice pa pn pc) := hk.cell
  have q1 : w5.cell? ⟨w.heap.size, 1, none⟩ = some (.slice sa sn sc) := hk.cell
  go_wp2_with fail
  refine (Look_any (B := B) hBw hx0.out).mono ?_
  rintro e w6 ⟨rfl, hb6⟩
  rw [← hL'.out]
  clear q0 q1
  replace hk := hk.below hb6 hk.lt
  replace hx0 := Lib.hid (hx0.out.keep (w' := w6) (Nat.le_refl _) (fun b o h => bcells hb6 b o (by omega)))
  replace hBw : B ≤ w6.heap.size := Nat.le_trans hBw hb6.size
  have hbw6 := hbw5.trans (hb6.mono hbw5.size)
  clear hbw5 hb6
  have q0 : w6.cell? ⟨w.heap.size, 0, none⟩ = some (.slice pa pn pc) := hk.cell
  have q1 : w6.cell? ⟨w.heap.size, 1, none⟩ = some (.slice sa sn sc) := hk.cell
  go_wp2_with fail
  refine (refLook_any (B := B) hBw hx0.out).mono ?_
  rintro e w7 ⟨rfl, hb7⟩
  rw [← hL'.out]
  clear q0 q1
  replace hk := hk.below hb7 hk.lt
  replace hx0 := Lib.hid (hx0.out.keep (w' := w7) (Nat.le_refl _) (fun b o h => bcells hb7 b o (by omega)))
  replace hBw : B ≤ w7.heap.size := Nat.le_trans hBw hb7.size
  have hbw7 := hbw6.trans (hb7.mono hbw6.size)
  clear hbw6 hb7
  go_wp2_with fail
  refine (sawn_any _).mono ?_
  rintro e w8 ⟨rfl, hb8⟩
  go_wp2_with fail
  go_ret
  exact ⟨rfl, hbw7.trans (hb8.mono hbw7.size)⟩
end Go.Proofs.Ytbbolibkheelmaa
namespace Go.Proofs.Ytbbolibkheelmaa
open Go.ChangeShapes Go.WideShapes Go.ChangeAt Go.RowKit Go.Deep

set_option maxRecDepth 100000 in
theorem plankFewests_lifted (os : Os) (started : os.Started) (H : Type) (enc : TypeId × Value → H) :
    ReturnsInHanded {} Try.checked os 5 .any (Rows.plankFewestsSpec.pre6 enc Try.prog Try.f5 Rows.plankFewestsRow.domain false) (Rows.plankFewestsSpec.post enc Try.prog Try.f5 false true false false) := by
  refine returnsInHanded_of_change_sized (C := Try.checked) ownKnobs started (by kernel_rfl) Try.func5
    (ChangeSpec.witness6 (enc := enc) (C := Try.checked) false ⟨#[], #[.agg #[.slice none 0 0, .slice none 0 0]], []⟩ 8 (by kernel_rfl) (by kernel_rfl) (by kernel_rfl) (by kernel_rfl)) ?_
  intro W base args ds gs before hval0 hW hcnd hsz0 _
  have hval : ∀ (j : Nat) t v, Try.f5.params[j]? = some t → args[j]? = some v → Value.okWide Try.prog W .any base t v := hval0
  have hsz : (DataW.weightsEach Try.prog (Try.f5.params.toList ++ Rows.plankFewestsSpec.plain.varTypes Try.prog) (ds ++ gs)).all (· ≤ reachBytes) = true := hsz0
  have hW' := hW
  obtain ⟨p, q, hA0, hV, rfl, hfz, hnd⟩ := hW
  have hA : DataW.TrodAll enc Try.prog W 0 (fun _ => true) true Try.f5.params.toList args.toList ds p := hA0
  rw [Try.params5] at hA hval hsz
  obtain ⟨v0, vs0, d0, ds0, p0, q0, hargs, rfl, rfl, h0, r0⟩ := trodAll_cons hA
  obtain ⟨rfl, rfl, rfl⟩ := trodAll_nil r0
  obtain rfl : args = #[v0] := by cases args; simp_all
  obtain ⟨rfl, rfl⟩ := trodVars_none hV
  have lt0 : ∀ x ∈ p0, x.block < W.heap.size := by obtain ⟨m, hm⟩ := h0; exact DataW.trod_lt m _ _ _ hm
  have z0 : Sized 25 d0 := sized_each hsz (j := 0) rfl rfl
  obtain ⟨pa, pn, pc, sa, sn, sc, x, rfl, hx⟩ := book_open (hval 0 25 v0 rfl rfl) h0 z0
  clear hA0 hval0 hsz0
  refine (fewests_law (Nat.le_refl _) hx).mono fun e W' ⟨he, bel⟩ => ?_
  subst he
  exact ⟨_, rfl, _, _, _, [], _, [], hW', trodAll_mk1 (shut_bool Try.underlying4 _), (trodAll_cons_mk (Below.trod laidOut (by kernel_rfl) (of_decide_eq_true (by kernel_rfl)) h0 bel lt0) trodAll_mk0), rfl, bel.frame _, fun h => by cases h⟩

theorem plankFewests_holds : Rows.PlankFewestsSaid :=
  OpenClaim.holds_of_wide 5 Try.f5 rfl rfl rfl rfl rfl rfl rfl ⟨rfl, rfl, rfl, rfl, rfl⟩ rfl rfl rfl rfl rfl (by kernel_rfl) Try.func5 (by kernel_rfl)
    (of_decide_eq_true (by kernel_rfl)) (by unfold Func.isWrapper; first | (rw [if_pos (by decide +kernel)]; kernel_rfl) | (rw [if_neg (by decide +kernel)]; exact ⟨rfl, rfl⟩))
    (fun os started H enc _ => plankFewests_lifted os started H enc)
end Go.Proofs.Ytbbolibkheelmaa
