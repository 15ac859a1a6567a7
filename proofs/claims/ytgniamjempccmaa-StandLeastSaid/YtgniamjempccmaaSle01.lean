/- StandLeast returns true: for each weight less than the least one that is told the horse is safe, for that one it is not; for every book and every number; no condition. StandLeast. -/
import Derived.Test.YtgniamjempccmaaGa23
namespace Go.Proofs.Ytgniamjempccmaa
open Go.RowKit
def ac7 : AC := (AC.seq (AC.ops [(AOp.mk (some 2) (AK.box 10 (AX.t 0)) none 0 false true), (AOp.mk (some 4) (AK.mv (AX.c (PV.val (Value.bool false)))) none 1 false true)]) (AC.seq (AC.seq (AC.ops [(AOp.mk (some 12) (AK.ld (some 10) (AX.t 2)) none 0 false true), (AOp.mk (some 13) (AK.call 38 [(AX.t 12)]) none 1 false true), (AOp.mk (some 14) (AK.un UnOp.not (AX.t 13)) none 2 false true)]) (AC.cond (AX.t 14) (AC.seq (AC.ops [(AOp.mk (some 15) (AK.call 24 []) none 0 false true), (AOp.mk (some 4) (AK.mv (AX.t 15)) none 1 false true)]) AC.ret) AC.skip)) (AC.seq (AC.ops [(AOp.mk (some 17) (AK.ld (some 10) (AX.t 2)) none 0 false true), (AOp.mk (some 18) (AK.call 27 [(AX.t 17)]) none 1 false true), (AOp.mk (some 16) (AK.mv (AX.t 18)) none 2 false true), (AOp.mk (some 19) (AK.ext (AX.t 16) 0) none 3 false true), (AOp.mk (some 20) (AK.ext (AX.t 16) 1) none 4 false true), (AOp.mk (some 5) (AK.mv (AX.t 19)) none 5 false true), (AOp.mk (some 6) (AK.mv (AX.t 20)) none 6 false true)]) (AC.seq (AC.ops [(AOp.mk (some 21) (AK.mv (AX.t 1)) none 0 false true), (AOp.mk (some 22) (AK.fadr 8 (AX.t 2)) none 1 false true), (AOp.mk (some 23) (AK.ld none (AX.t 22)) none 2 false true), (AOp.mk (some 24) (AK.call 41 [(AX.t 21), (AX.t 23)]) none 3 false true), (AOp.mk (some 25) (AK.bin false BinOp.add (AX.c (PV.val (Value.int IntKind.i64 1))) (AX.t 24)) none 4 false true), (AOp.mk (some 7) (AK.mv (AX.t 25)) none 5 false true)]) (AC.seq (AC.ops [(AOp.mk (some 27) (AK.ld (some 10) (AX.t 2)) none 0 false true), (AOp.mk (some 28) (AK.mv (AX.t 7)) none 1 false true), (AOp.mk (some 29) (AK.call 25 [(AX.t 27), (AX.t 28)]) none 2 false true), (AOp.mk (some 26) (AK.mv (AX.t 29)) none 3 false true), (AOp.mk (some 30) (AK.ext (AX.t 26) 0) none 4 false true), (AOp.mk (some 31) (AK.ext (AX.t 26) 1) none 5 false true), (AOp.mk (some 8) (AK.mv (AX.t 30)) none 6 false true), (AOp.mk (some 9) (AK.mv (AX.t 31)) none 7 false true)]) (AC.seq (AC.seq (AC.ops [(AOp.mk (some 32) (AK.mv (AX.t 9)) none 0 false true), (AOp.mk (some 33) (AK.bin false BinOp.neq (AX.t 32) (AX.c (PV.val (Value.int IntKind.i64 0)))) none 1 false true)]) (AC.cond (AX.t 33) (AC.seq (AC.ops [(AOp.mk (some 34) (AK.mv (AX.t 9)) none 0 false true), (AOp.mk (some 35) (AK.bin false BinOp.eql (AX.t 34) (AX.c (PV.val (Value.int IntKind.i64 22)))) none 1 false true), (AOp.mk (some 36) (AK.mv (AX.t 35)) none 2 false true), (AOp.mk (some 37) (AK.mv (AX.t 6)) (some (36, true)) 3 false true), (AOp.mk (some 38) (AK.mv (AX.t 9)) (some (36, true)) 4 false true), (AOp.mk (some 39) (AK.bin false BinOp.eql (AX.t 37) (AX.t 38)) (some (36, true)) 5 false true), (AOp.mk (some 40) (AK.pick (AX.t 36) (AX.t 39) (AX.c (PV.val (Value.bool false)))) none 6 false true), (AOp.mk (some 41) (AK.mv (AX.t 40)) none 7 false true), (AOp.mk (some 42) (AK.mv (AX.t 5)) (some (41, true)) 8 false true), (AOp.mk (some 43) (AK.bin false BinOp.eql (AX.t 42) (AX.c (PV.val (Value.int IntKind.i64 0)))) (some (41, true)) 9 false true), (AOp.mk (some 44) (AK.pick (AX.t 41) (AX.t 43) (AX.c (PV.val (Value.bool false)))) none 10 false true), (AOp.mk (some 45) (AK.mv (AX.t 44)) none 11 false true), (AOp.mk (some 46) (AK.mv (AX.t 8)) (some (45, true)) 12 false true), (AOp.mk (some 47) (AK.un UnOp.not (AX.t 46)) (some (45, true)) 13 false true), (AOp.mk (some 48) (AK.pick (AX.t 45) (AX.t 47) (AX.c (PV.val (Value.bool false)))) none 14 false true), (AOp.mk (some 49) (AK.mv (AX.t 48)) none 15 false true), (AOp.mk (some 50) (AK.call 24 []) (some (49, true)) 16 false true), (AOp.mk (some 51) (AK.pick (AX.t 49) (AX.t 50) (AX.c (PV.val (Value.bool false)))) none 17 false true), (AOp.mk (some 4) (AK.mv (AX.t 51)) none 18 false true)]) AC.ret) AC.skip)) (AC.seq (AC.seq (AC.ops [(AOp.mk (some 52) (AK.mv (AX.t 6)) none 0 false true), (AOp.mk (some 53) (AK.bin false BinOp.neq (AX.t 52) (AX.c (PV.val (Value.int IntKind.i64 0)))) none 1 false true)]) (AC.cond (AX.t 53) (AC.seq (AC.ops [(AOp.mk (some 54) (AK.mv (AX.t 6)) none 0 false true), (AOp.mk (some 55) (AK.bin false BinOp.eql (AX.t 54) (AX.c (PV.val (Value.int IntKind.i64 4)))) none 1 false true), (AOp.mk (some 56) (AK.mv (AX.t 55)) none 2 false true), (AOp.mk (some 57) (AK.mv (AX.t 5)) (some (56, true)) 3 false true), (AOp.mk (some 58) (AK.bin false BinOp.eql (AX.t 57) (AX.c (PV.val (Value.int IntKind.i64 0)))) (some (56, true)) 4 false true), (AOp.mk (some 59) (AK.pick (AX.t 56) (AX.t 58) (AX.c (PV.val (Value.bool false)))) none 5 false true), (AOp.mk (some 60) (AK.mv (AX.t 59)) none 6 false true), (AOp.mk (some 61) (AK.mv (AX.t 8)) (some (60, true)) 7 false true), (AOp.mk (some 62) (AK.pick (AX.t 60) (AX.t 61) (AX.c (PV.val (Value.bool false)))) none 8 false true), (AOp.mk (some 63) (AK.mv (AX.t 62)) none 9 false true), (AOp.mk (some 64) (AK.call 24 []) (some (63, true)) 10 false true), (AOp.mk (some 65) (AK.pick (AX.t 63) (AX.t 64) (AX.c (PV.val (Value.bool false)))) none 11 false true), (AOp.mk (some 4) (AK.mv (AX.t 65)) none 12 false true)]) AC.ret) AC.skip)) (AC.seq (AC.ops [(AOp.mk (some 67) (AK.ld (some 10) (AX.t 2)) none 0 false true), (AOp.mk (some 68) (AK.mv (AX.t 5)) none 1 false true), (AOp.mk (some 69) (AK.call 25 [(AX.t 67), (AX.t 68)]) none 2 false true), (AOp.mk (some 66) (AK.mv (AX.t 69)) none 3 false true), (AOp.mk (some 70) (AK.ext (AX.t 66) 0) none 4 false true), (AOp.mk (some 71) (AK.ext (AX.t 66) 1) none 5 false true), (AOp.mk (some 10) (AK.mv (AX.t 70)) none 6 false true), (AOp.mk (some 11) (AK.mv (AX.t 71)) none 7 false true)]) (AC.seq (AC.ops [(AOp.mk (some 72) (AK.mv (AX.t 5)) none 0 false true), (AOp.mk (some 73) (AK.fadr 8 (AX.t 2)) none 1 false true), (AOp.mk (some 74) (AK.ld none (AX.t 73)) none 2 false true), (AOp.mk (some 75) (AK.call 43 [(AX.t 72), (AX.c (PV.val (Value.int IntKind.i64 1))), (AX.t 74)]) none 3 false true), (AOp.mk (some 76) (AK.mv (AX.t 75)) none 4 false true), (AOp.mk (some 77) (AK.mv (AX.t 11)) (some (76, true)) 5 false true), (AOp.mk (some 78) (AK.bin false BinOp.eql (AX.t 77) (AX.c (PV.val (Value.int IntKind.i64 0)))) (some (76, true)) 6 false true), (AOp.mk (some 79) (AK.pick (AX.t 76) (AX.t 78) (AX.c (PV.val (Value.bool false)))) none 7 false true), (AOp.mk (some 80) (AK.mv (AX.t 79)) none 8 false true), (AOp.mk (some 81) (AK.mv (AX.t 10)) (some (80, true)) 9 false true), (AOp.mk (some 82) (AK.un UnOp.not (AX.t 81)) (some (80, true)) 10 false true), (AOp.mk (some 83) (AK.pick (AX.t 80) (AX.t 82) (AX.c (PV.val (Value.bool false)))) none 11 false true), (AOp.mk (some 84) (AK.mv (AX.t 83)) none 12 false true), (AOp.mk (some 85) (AK.mv (AX.t 8)) (some (84, true)) 13 false true), (AOp.mk (some 86) (AK.mv (AX.t 85)) (some (84, true)) 14 false true), (AOp.mk (some 87) (AK.mv (AX.t 7)) (some (86, false)) 15 false true), (AOp.mk (some 88) (AK.mv (AX.t 5)) (some (86, false)) 16 false true), (AOp.mk (some 89) (AK.bin false BinOp.geq (AX.t 87) (AX.t 88)) (some (86, false)) 17 false true), (AOp.mk (some 90) (AK.pick (AX.t 86) (AX.c (PV.val (Value.bool true))) (AX.t 89)) (some (84, true)) 18 false true), (AOp.mk (some 91) (AK.pick (AX.t 84) (AX.t 90) (AX.c (PV.val (Value.bool false)))) none 19 false true), (AOp.mk (some 92) (AK.mv (AX.t 91)) none 20 false true), (AOp.mk (some 93) (AK.call 24 []) (some (92, true)) 21 false true), (AOp.mk (some 94) (AK.pick (AX.t 92) (AX.t 93) (AX.c (PV.val (Value.bool false)))) none 22 false true), (AOp.mk (some 4) (AK.mv (AX.t 94)) none 23 false true)]) AC.ret)))))))))
theorem ac7_ok : cCode Try.prog (fun _ => false) Try.f7.ntmps (Try.f7.body.getD .skip) = some ac7 := by kernel_rfl
theorem StandLeast_law (b : SBook) (n : Int) : Sem1 7 [.agg (bookC .sh .sh b), pi n] (pb true) := by
  refine semC_of_exec' mixed Try.func7 (by kernel_rfl) (by kernel_rfl) ac7_ok 2 rfl (by decide) [(.tmp 4)] (by kernel_rfl) ?_
  intro hr C hC hI
  unfold ac7
  simp only [go_sem, Nat.reduceBEq, Nat.reduceAdd]
  refine call_pure2 hC (sound_sem ..) rfl (PVleL_refl _) ?_
  rintro r rfl
  simp only [go_sem, Nat.reduceBEq, Nat.reduceAdd]
  refine ⟨fun _ => ?_, fun ho => ?_⟩
  · refine call_pure2 hC (stood_sem) rfl (PVleL_refl _) ?_
    rintro r rfl
    simp only [go_sem, Nat.reduceBEq]
    exact retQ_one rfl rfl
  have hg := ok_rng ho
  have hw := rndI_range (n := n) (m := b.limit) (by omega)
  by_cases hT : truthL b = []
  · refine call_pure2 hC (Least_F ho hT) rfl (PVleL_refl _) ?_
    rintro r rfl
    simp only [go_sem, Nat.reduceBEq]
    refine call_pure2 hC (Round_sem n b.limit) rfl (PVleL_refl _) ?_
    rintro r rfl
    simp only [go_sem, Nat.reduceBEq, Nat.reduceAdd, wrap_id (n := 1 + rndI n b.limit) (by omega) (by omega)]
    refine call_pure2 hC (Safe_F ho hT (w := 1 + rndI n b.limit) (by omega)) rfl (PVleL_refl _) ?_
    rintro r rfl
    simp only [go_sem, Nat.reduceBEq, decide_true, not_false_eq_true, Int.reduceEq]
    refine call_pure2 hC (stood_sem) rfl (PVleL_refl _) ?_
    rintro r rfl
    simp only [go_sem, Nat.reduceBEq]
    exact retQ_one rfl rfl
  · obtain ⟨w, hwd⟩ : ∃ w, 1 + rndI n b.limit = w := ⟨_, rfl⟩
    cases hL : leastI b (loadsI b) with
    | none =>
      have hs : safeI b (loadsI b) w = true := (safeI_iff hg.2.2.1).2 fun m h1 h2 => (leastI_none hg.2.2.1).1 hL w m (by omega) (by omega) h1 h2
      refine call_pure2 hC (Least_N ho hT hL) rfl (PVleL_refl _) ?_
      rintro r rfl
      simp only [go_sem, Nat.reduceBEq]
      refine call_pure2 hC (Round_sem n b.limit) rfl (PVleL_refl _) ?_
      rintro r rfl
      simp only [go_sem, Nat.reduceBEq, Nat.reduceAdd, hwd, wrap_id (n := w) (by omega) (by omega)]
      refine call_pure2 hC (Safe_T ho hT (w := w) (by omega)) rfl (PVleL_refl _) ?_
      rintro r rfl
      simp only [go_sem, Nat.reduceBEq, hs, decide_true, decide_false, not_true_eq_false, not_false_eq_true, Int.reduceEq]
      refine call_pure2 hC (stood_sem) rfl (PVleL_refl _) ?_
      rintro r rfl
      simp only [go_sem, Nat.reduceBEq]
      exact retQ_one rfl rfl
    | some j =>
      obtain ⟨h1, h2, h3⟩ := leastI_some.1 hL
      have hlast : (w < (j : Int) + 1 → safeI b (loadsI b) w = true) := fun h => by
        have := h3 (w - 1).toNat (by omega)
        rwa [show (((w - 1).toNat : Int) + 1) = w by omega] at this
      refine call_pure2 hC (Least_S ho hT hL) rfl (PVleL_refl _) ?_
      rintro r rfl
      simp only [go_sem, Nat.reduceBEq]
      refine call_pure2 hC (Round_sem n b.limit) rfl (PVleL_refl _) ?_
      rintro r rfl
      simp only [go_sem, Nat.reduceBEq, Nat.reduceAdd, hwd, wrap_id (n := w) (by omega) (by omega)]
      refine call_pure2 hC (Safe_T ho hT (w := w) (by omega)) rfl (PVleL_refl _) ?_
      rintro r rfl
      simp only [go_sem, Nat.reduceBEq, Nat.reduceAdd, decide_false, not_true_eq_false]
      refine call_pure2 hC (Safe_T ho hT (w := (j : Int) + 1) (by omega)) rfl (PVleL_refl _) ?_
      rintro r rfl
      simp only [go_sem, Nat.reduceBEq, h2]
      refine call_pure2 hC (In_sem ..) rfl (PVleL_refl _) ?_
      rintro r rfl
      simp only [go_sem, Nat.reduceBEq, decide_eq_true (show 1 ≤ (j : Int) + 1 ∧ (j : Int) + 1 ≤ b.limit by omega), decide_true]
      cases hs : safeI b (loadsI b) w
      · rw [hs] at hlast
        have hle : (j : Int) + 1 ≤ w := by
          rcases Int.lt_or_le w ((j : Int) + 1) with h | h
          · cases hlast h
          · exact h
        simp only [go_sem, Nat.reduceBEq, decide_eq_true hle]
        refine call_pure2 hC (stood_sem) rfl (PVleL_refl _) ?_
        rintro r rfl
        simp only [go_sem, Nat.reduceBEq]
        exact retQ_one rfl rfl
      · simp only [go_sem, Nat.reduceBEq]
        refine call_pure2 hC (stood_sem) rfl (PVleL_refl _) ?_
        rintro r rfl
        simp only [go_sem, Nat.reduceBEq]
        exact retQ_one rfl rfl
set_option maxRecDepth 100000 in
theorem StandLeast_row {l0 l1 : List PV} (T0 : Ty Try.prog 10 25 l0) (T1 : Ty Try.prog 10 3 l1) : SemC Try.prog 7 [argPV Try.prog 25 l0, argPV Try.prog 3 l1] (fun r => r = pb true) := by
  obtain ⟨b, rfl⟩ := ty_book T0
  obtain ⟨n, rfl⟩ := tyInt uInt T1
  rw [argStruct Try.underlying25, argInt uInt]
  exact StandLeast_law b n
end Go.Proofs.Ytgniamjempccmaa
namespace Go.Proofs.Ytgniamjempccmaa
open Go.Proofs.Ytgniamjempccmaa Go.ChangeShapes Go.WideShapes Go.ChangeAt Go.RowKit Go.Deep

set_option maxRecDepth 100000 in
theorem standLeast_lifted (os : Os) (started : os.Started) (H : Type) (enc : TypeId × Value → H) :
    ReturnsInHanded {} Try.checked os 7 .any (Rows.standLeastSpec.pre6 enc Try.prog Try.f7 Rows.standLeastRow.domain false) (Rows.standLeastSpec.post enc Try.prog Try.f7 false true false false) := by
  refine returnsInHanded_of_change_sized (C := Try.checked) ownKnobs started (by kernel_rfl) Try.func7
    (ChangeSpec.witness6 (enc := enc) (C := Try.checked) false ⟨#[], #[.agg #[.int .i64 0, .int .i64 0, .int .i64 0, .int .i64 0, .slice none 0 0, .int .i64 0, .int .i64 0, .int .i64 0, .int .i64 0, .slice none 0 0], .int .i64 0], []⟩ 8 (by kernel_rfl) (by kernel_rfl) (by kernel_rfl) (by kernel_rfl)) ?_
  intro W base args ds gs before hval0 hW hcnd hsz0 _
  have hval : ∀ (j : Nat) t v, Try.f7.params[j]? = some t → args[j]? = some v → Value.okWide Try.prog W .any base t v := hval0
  have hsz : (DataW.weightsEach Try.prog (Try.f7.params.toList ++ Rows.standLeastSpec.plain.varTypes Try.prog) (ds ++ gs)).all (· ≤ reachBytes) = true := hsz0
  have hW' := hW
  obtain ⟨p, q, hA0, hV, rfl, hfz, hnd⟩ := hW
  have hA : DataW.TrodAll enc Try.prog W 0 (fun _ => true) true Try.f7.params.toList args.toList ds p := hA0
  rw [Try.params7] at hA hval hsz
  obtain ⟨v0, vs0, d0, ds0, p0, q0, hargs, rfl, rfl, h0, r0⟩ := trodAll_cons hA
  obtain ⟨v1, vs1, d1, ds1, p1, q1, rfl, rfl, rfl, h1, r1⟩ := trodAll_cons r0
  obtain ⟨rfl, rfl, rfl⟩ := trodAll_nil r1
  obtain rfl : args = #[v0, v1] := by cases args; simp_all
  obtain ⟨rfl, rfl⟩ := trodVars_none hV
  have lt0 : ∀ x ∈ p0, x.block < W.heap.size := by obtain ⟨m, hm⟩ := h0; exact DataW.trod_lt m _ _ _ hm
  have lt1 : ∀ x ∈ p1, x.block < W.heap.size := by obtain ⟨m, hm⟩ := h1; exact DataW.trod_lt m _ _ _ hm
  have z0 : SizedP Try.prog 25 d0 := sizedP_each hsz (j := 0) rfl rfl
  obtain ⟨l0, T0, R0⟩ := rd_arg 10 (by kernel_rfl) (hval 0 25 v0 rfl rfl) h0 z0
  have z1 : SizedP Try.prog 3 d1 := sizedP_each hsz (j := 1) rfl rfl
  obtain ⟨l1, T1, R1⟩ := rd_arg 10 (by kernel_rfl) (hval 1 3 v1 rfl rfl) h1 z1
  clear hA0 hval0 hsz0
  refine (law_calls (StandLeast_row T0 T1) (argsP_cons R0 (argsP_cons R1 argsP_nil))).mono fun e W' ⟨he, bel⟩ => ?_
  subst he
  exact ⟨_, rfl, _, _, _, [], _, [], hW', trodAll_mk1 (shut_bool Try.underlying4 _), (trodAll_cons_mk (Below.trod laidOut (by kernel_rfl) (of_decide_eq_true (by kernel_rfl)) h0 bel lt0) (trodAll_cons_mk (Below.trod laidOut (by kernel_rfl) (of_decide_eq_true (by kernel_rfl)) h1 bel lt1) trodAll_mk0)), rfl, bel.frame _, fun h => by cases h⟩

theorem standLeast_holds : Rows.StandLeastSaid :=
  OpenClaim.holds_of_wide 7 Try.f7 rfl rfl rfl rfl rfl rfl rfl ⟨rfl, rfl, rfl, rfl, rfl⟩ rfl rfl rfl rfl rfl (by kernel_rfl) Try.func7 (by kernel_rfl)
    (of_decide_eq_true (by kernel_rfl)) (by unfold Func.isWrapper; first | (rw [if_pos (by decide +kernel)]; kernel_rfl) | (rw [if_neg (by decide +kernel)]; exact ⟨rfl, rfl⟩))
    (fun os started H enc _ => standLeast_lifted os started H enc)
end Go.Proofs.Ytgniamjempccmaa
