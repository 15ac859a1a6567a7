/- StandWider returns true: with feet as much wider as is told the horse is safe for all weights, with an inch less it is not, and wider ones never make it tip; for every book and every number; no condition. StandWider. -/
import Derived.Test.YtgniamjempccmaaSwi01
import Derived.Test.YtgniamjempccmaaGa23
namespace Go.Proofs.Ytgniamjempccmaa
open Go.RowKit
def ac12 : AC := (AC.seq (AC.ops [(AOp.mk (some 2) (AK.box 10 (AX.t 0)) none 0 false true), (AOp.mk (some 4) (AK.mv (AX.c (PV.val (Value.bool false)))) none 1 false true)]) (AC.seq (AC.seq (AC.ops [(AOp.mk (some 13) (AK.ld (some 10) (AX.t 2)) none 0 false true), (AOp.mk (some 14) (AK.call 38 [(AX.t 13)]) none 1 false true), (AOp.mk (some 15) (AK.un UnOp.not (AX.t 14)) none 2 false true)]) (AC.cond (AX.t 15) (AC.seq (AC.ops [(AOp.mk (some 16) (AK.call 24 []) none 0 false true), (AOp.mk (some 4) (AK.mv (AX.t 16)) none 1 false true)]) AC.ret) AC.skip)) (AC.seq (AC.ops [(AOp.mk (some 17) (AK.ld (some 10) (AX.t 2)) none 0 false true), (AOp.mk (some 18) (AK.call 48 [(AX.t 17)]) none 1 false true), (AOp.mk (some 5) (AK.new (PV.agg [(PV.val (Value.int IntKind.i64 0)), (PV.val (Value.int IntKind.i64 0)), (PV.val (Value.int IntKind.i64 0)), (PV.val (Value.int IntKind.i64 0)), (PV.sl SK.full 0 []), (PV.val (Value.int IntKind.i64 0)), (PV.val (Value.int IntKind.i64 0)), (PV.val (Value.int IntKind.i64 0)), (PV.val (Value.int IntKind.i64 0)), (PV.sl SK.full 0 [])])) none 2 false true), (AOp.mk none (AK.st 10 (AX.t 5) (AX.t 18)) none 3 false true)]) (AC.seq (AC.ops [(AOp.mk (some 20) (AK.ld (some 10) (AX.t 5)) none 0 false true), (AOp.mk (some 21) (AK.call 33 [(AX.t 20)]) none 1 false true), (AOp.mk (some 19) (AK.mv (AX.t 21)) none 2 false true), (AOp.mk (some 22) (AK.ext (AX.t 19) 0) none 3 false true), (AOp.mk (some 23) (AK.ext (AX.t 19) 1) none 4 false true), (AOp.mk (some 6) (AK.mv (AX.t 22)) none 5 false true), (AOp.mk (some 7) (AK.mv (AX.t 23)) none 6 false true)]) (AC.seq (AC.seq (AC.ops [(AOp.mk (some 24) (AK.mv (AX.t 7)) none 0 false true), (AOp.mk (some 25) (AK.bin false BinOp.neq (AX.t 24) (AX.c (PV.val (Value.int IntKind.i64 0)))) none 1 false true), (AOp.mk (some 26) (AK.mv (AX.t 25)) none 2 false true), (AOp.mk (some 27) (AK.mv (AX.t 7)) (some (26, true)) 3 false true), (AOp.mk (some 28) (AK.bin false BinOp.neq (AX.t 27) (AX.c (PV.val (Value.int IntKind.i64 4)))) (some (26, true)) 4 false true), (AOp.mk (some 29) (AK.mv (AX.t 28)) (some (26, true)) 5 false true), (AOp.mk (some 30) (AK.mv (AX.t 6)) (some (29, false)) 6 false true), (AOp.mk (some 31) (AK.bin false BinOp.neq (AX.t 30) (AX.c (PV.val (Value.int IntKind.i64 0)))) (some (29, false)) 7 false true), (AOp.mk (some 32) (AK.pick (AX.t 29) (AX.c (PV.val (Value.bool true))) (AX.t 31)) (some (26, true)) 8 false true), (AOp.mk (some 33) (AK.pick (AX.t 26) (AX.t 32) (AX.c (PV.val (Value.bool false)))) none 9 false true), (AOp.mk (some 34) (AK.mv (AX.t 33)) none 10 false true), (AOp.mk (some 35) (AK.mv (AX.t 7)) (some (34, false)) 11 false true), (AOp.mk (some 36) (AK.bin false BinOp.eql (AX.t 35) (AX.c (PV.val (Value.int IntKind.i64 0)))) (some (34, false)) 12 false true), (AOp.mk (some 37) (AK.mv (AX.t 36)) (some (34, false)) 13 false true), (AOp.mk (some 38) (AK.mv (AX.t 6)) (some (37, true)) 14 false true), (AOp.mk (some 39) (AK.call 43 [(AX.t 38), (AX.c (PV.val (Value.int IntKind.i64 0))), (AX.c (PV.val (Value.int IntKind.i64 20)))]) (some (37, true)) 15 false true), (AOp.mk (some 40) (AK.un UnOp.not (AX.t 39)) (some (37, true)) 16 false true), (AOp.mk (some 41) (AK.pick (AX.t 37) (AX.t 40) (AX.c (PV.val (Value.bool false)))) (some (34, false)) 17 false true), (AOp.mk (some 42) (AK.pick (AX.t 34) (AX.c (PV.val (Value.bool true))) (AX.t 41)) none 18 false true)]) (AC.cond (AX.t 42) (AC.seq (AC.ops [(AOp.mk (some 4) (AK.mv (AX.c (PV.val (Value.bool false)))) none 0 false true)]) AC.ret) AC.skip)) (AC.seq (AC.seq (AC.ops [(AOp.mk (some 43) (AK.mv (AX.t 7)) none 0 false true), (AOp.mk (some 44) (AK.bin false BinOp.neq (AX.t 43) (AX.c (PV.val (Value.int IntKind.i64 0)))) none 1 false true)]) (AC.cond (AX.t 44) (AC.ops [(AOp.mk (some 6) (AK.mv (AX.c (PV.val (Value.int IntKind.i64 21)))) none 0 false true)]) AC.skip)) (AC.seq (AC.ops [(AOp.mk (some 45) (AK.mv (AX.t 6)) none 0 false true), (AOp.mk (some 46) (AK.mv (AX.t 6)) none 1 false true), (AOp.mk (some 47) (AK.bin false BinOp.sub (AX.t 46) (AX.c (PV.val (Value.int IntKind.i64 1)))) none 2 false true), (AOp.mk (some 48) (AK.mv (AX.t 6)) none 3 false true), (AOp.mk (some 49) (AK.mv (AX.t 1)) none 4 false true), (AOp.mk (some 50) (AK.call 41 [(AX.t 49), (AX.c (PV.val (Value.int IntKind.i64 20)))]) none 5 false true), (AOp.mk (some 51) (AK.bin false BinOp.add (AX.t 48) (AX.t 50)) none 6 false true), (AOp.mk (some 52) (AK.bslice false 3 1 3 [(PV.val (Value.int IntKind.i64 0))] [(0, (1, (AX.t 45))), (1, (1, (AX.t 47))), (2, (1, (AX.t 51)))]) none 7 false true), (AOp.mk (some 8) (AK.mv (AX.t 52)) none 8 false true)]) (AC.seq (AC.seq (AC.ops [(AOp.mk (some 9) (AK.mv (AX.c (PV.val (Value.int IntKind.i64 0)))) none 0 false true)]) (AC.block 0 (AC.loop (AC.seq (AC.seq (AC.ops [(AOp.mk (some 53) (AK.mv (AX.t 9)) none 0 false true), (AOp.mk (some 54) (AK.mv (AX.t 8)) none 1 false true), (AOp.mk (some 55) (AK.len (AX.t 54)) none 2 false true), (AOp.mk (some 56) (AK.bin false BinOp.lss (AX.t 53) (AX.t 55)) none 3 false true)]) (AC.cond (AX.t 56) AC.skip (AC.exit 0))) (AC.seq (AC.block 1 (AC.seq (AC.ops [(AOp.mk (some 59) (AK.ld (some 10) (AX.t 5)) none 0 false true), (AOp.mk (some 10) (AK.new (PV.agg [(PV.val (Value.int IntKind.i64 0)), (PV.val (Value.int IntKind.i64 0)), (PV.val (Value.int IntKind.i64 0)), (PV.val (Value.int IntKind.i64 0)), (PV.sl SK.full 0 []), (PV.val (Value.int IntKind.i64 0)), (PV.val (Value.int IntKind.i64 0)), (PV.val (Value.int IntKind.i64 0)), (PV.val (Value.int IntKind.i64 0)), (PV.sl SK.full 0 [])])) none 1 false true), (AOp.mk none (AK.st 10 (AX.t 10) (AX.t 59)) none 2 false true)]) (AC.seq (AC.ops [(AOp.mk (some 60) (AK.fadr 1 (AX.t 2)) none 0 true false), (AOp.mk (some 61) (AK.ld none (AX.t 60)) none 1 true false), (AOp.mk (some 62) (AK.mv (AX.t 8)) none 2 true false), (AOp.mk (some 63) (AK.mv (AX.t 9)) none 3 true false), (AOp.mk (some 64) (AK.iadrS 1 (AX.t 62) (AX.t 63)) none 4 true false), (AOp.mk (some 65) (AK.ld none (AX.t 64)) none 5 true false), (AOp.mk (some 66) (AK.bin false BinOp.add (AX.t 61) (AX.t 65)) none 6 true false), (AOp.mk (some 67) (AK.fadr 2 (AX.t 2)) none 7 true false), (AOp.mk (some 68) (AK.ld none (AX.t 67)) none 8 true false), (AOp.mk (some 69) (AK.mv (AX.t 8)) none 9 true false), (AOp.mk (some 70) (AK.mv (AX.t 9)) none 10 true false), (AOp.mk (some 71) (AK.iadrS 1 (AX.t 69) (AX.t 70)) none 11 true false), (AOp.mk (some 72) (AK.ld none (AX.t 71)) none 12 true false), (AOp.mk (some 73) (AK.bin false BinOp.add (AX.t 68) (AX.t 72)) none 13 true false), (AOp.mk (some 74) (AK.fadr 1 (AX.t 10)) none 14 true false), (AOp.mk none (AK.st 1 (AX.t 74) (AX.t 66)) none 15 false false), (AOp.mk (some 75) (AK.fadr 2 (AX.t 10)) none 16 true false), (AOp.mk none (AK.st 1 (AX.t 75) (AX.t 73)) none 17 false true)]) (AC.seq (AC.seq (AC.ops [(AOp.mk (some 76) (AK.mv (AX.t 8)) none 0 false true), (AOp.mk (some 77) (AK.mv (AX.t 9)) none 1 false true), (AOp.mk (some 78) (AK.iadrS 1 (AX.t 76) (AX.t 77)) none 2 false true), (AOp.mk (some 79) (AK.ld none (AX.t 78)) none 3 false true), (AOp.mk (some 80) (AK.bin false BinOp.lss (AX.t 79) (AX.c (PV.val (Value.int IntKind.i64 0)))) none 4 false true), (AOp.mk (some 81) (AK.mv (AX.t 80)) none 5 false true), (AOp.mk (some 82) (AK.mv (AX.t 7)) (some (81, false)) 6 false true), (AOp.mk (some 83) (AK.bin false BinOp.neq (AX.t 82) (AX.c (PV.val (Value.int IntKind.i64 0)))) (some (81, false)) 7 false true), (AOp.mk (some 84) (AK.mv (AX.t 83)) (some (81, false)) 8 false true), (AOp.mk (some 85) (AK.mv (AX.t 9)) (some (84, true)) 9 false true), (AOp.mk (some 86) (AK.bin false BinOp.neq (AX.t 85) (AX.c (PV.val (Value.int IntKind.i64 1)))) (some (84, true)) 10 false true), (AOp.mk (some 87) (AK.pick (AX.t 84) (AX.t 86) (AX.c (PV.val (Value.bool false)))) (some (81, false)) 11 false true), (AOp.mk (some 88) (AK.pick (AX.t 81) (AX.c (PV.val (Value.bool true))) (AX.t 87)) none 12 false true), (AOp.mk (some 89) (AK.mv (AX.t 88)) none 13 false true), (AOp.mk (some 90) (AK.fadr 1 (AX.t 10)) (some (89, false)) 14 false true), (AOp.mk (some 91) (AK.ld none (AX.t 90)) (some (89, false)) 15 false true), (AOp.mk (some 92) (AK.bin false BinOp.gtr (AX.t 91) (AX.c (PV.val (Value.int IntKind.i64 60)))) (some (89, false)) 16 false true), (AOp.mk (some 93) (AK.pick (AX.t 89) (AX.c (PV.val (Value.bool true))) (AX.t 92)) none 17 false true), (AOp.mk (some 94) (AK.mv (AX.t 93)) none 18 false true), (AOp.mk (some 95) (AK.fadr 2 (AX.t 10)) (some (94, false)) 19 false true), (AOp.mk (some 96) (AK.ld none (AX.t 95)) (some (94, false)) 20 false true), (AOp.mk (some 97) (AK.bin false BinOp.gtr (AX.t 96) (AX.c (PV.val (Value.int IntKind.i64 60)))) (some (94, false)) 21 false true), (AOp.mk (some 98) (AK.pick (AX.t 94) (AX.c (PV.val (Value.bool true))) (AX.t 97)) none 22 false true)]) (AC.cond (AX.t 98) (AC.exit 1) AC.skip)) (AC.seq (AC.ops [(AOp.mk (some 100) (AK.ld (some 10) (AX.t 10)) none 0 false true), (AOp.mk (some 101) (AK.call 27 [(AX.t 100)]) none 1 false true), (AOp.mk (some 99) (AK.mv (AX.t 101)) none 2 false true), (AOp.mk (some 102) (AK.ext (AX.t 99) 0) none 3 false true), (AOp.mk (some 103) (AK.ext (AX.t 99) 1) none 4 false true), (AOp.mk (some 11) (AK.mv (AX.t 102)) none 5 false true), (AOp.mk (some 12) (AK.mv (AX.t 103)) none 6 false true)]) (AC.seq (AC.ops [(AOp.mk (some 104) (AK.mv (AX.t 12)) none 0 false true), (AOp.mk (some 105) (AK.bin false BinOp.eql (AX.t 104) (AX.c (PV.val (Value.int IntKind.i64 4)))) none 1 false true), (AOp.mk (some 106) (AK.mv (AX.t 9)) none 2 false true), (AOp.mk (some 107) (AK.bin false BinOp.neq (AX.t 106) (AX.c (PV.val (Value.int IntKind.i64 1)))) none 3 false true), (AOp.mk (some 108) (AK.bin true BinOp.neq (AX.t 105) (AX.t 107)) none 4 false true), (AOp.mk (some 109) (AK.mv (AX.t 108)) none 5 false true), (AOp.mk (some 110) (AK.mv (AX.t 12)) (some (109, false)) 6 false true), (AOp.mk (some 111) (AK.bin false BinOp.neq (AX.t 110) (AX.c (PV.val (Value.int IntKind.i64 0)))) (some (109, false)) 7 false true), (AOp.mk (some 112) (AK.mv (AX.t 111)) (some (109, false)) 8 false true), (AOp.mk (some 113) (AK.mv (AX.t 12)) (some (112, true)) 9 false true), (AOp.mk (some 114) (AK.bin false BinOp.neq (AX.t 113) (AX.c (PV.val (Value.int IntKind.i64 4)))) (some (112, true)) 10 false true), (AOp.mk (some 115) (AK.pick (AX.t 112) (AX.t 114) (AX.c (PV.val (Value.bool false)))) (some (109, false)) 11 false true), (AOp.mk (some 116) (AK.pick (AX.t 109) (AX.c (PV.val (Value.bool true))) (AX.t 115)) none 12 false true)]) (AC.cond (AX.t 116) (AC.seq (AC.ops [(AOp.mk (some 4) (AK.mv (AX.c (PV.val (Value.bool false)))) none 0 false true)]) AC.ret) AC.skip))))))) (AC.ops [(AOp.mk (some 57) (AK.mv (AX.t 9)) none 0 false true), (AOp.mk (some 58) (AK.bin false BinOp.add (AX.t 57) (AX.c (PV.val (Value.int IntKind.i64 1)))) none 1 false true), (AOp.mk (some 9) (AK.mv (AX.t 58)) none 2 false true)])))))) (AC.seq (AC.ops [(AOp.mk (some 117) (AK.call 24 []) none 0 false true), (AOp.mk (some 4) (AK.mv (AX.t 117)) none 1 false true)]) AC.ret)))))))))
theorem ac12_ok : cCode Try.prog (fun _ => false) Try.f12.ntmps (Try.f12.body.getD .skip) = some ac12 := by kernel_rfl
theorem wide_ok {b : SBook} (ho : okBook b) {v : Int} (h0 : 0 ≤ v) (hF : b.front + v ≤ 60) (hB : b.back + v ≤ 60) : okBook (wideB (plainB b) v) := by
  obtain ⟨⟨g1, g2, g3⟩, h2, h3, h4, h5, h6⟩ := plain_ok ho
  have e1 : (plainB b).front = b.front := rfl
  have e2 : (plainB b).back = b.back := rfl
  refine ⟨⟨?_, ?_, g3⟩, h2, h3, h4, h5, h6⟩
  · show 1 ≤ (plainB b).front + v ∧ (plainB b).front + v ≤ 60
    omega
  · show 1 ≤ (plainB b).back + v ∧ (plainB b).back + v ≤ 60
    omega
theorem wide_T {b : SBook} {v : Int} (ho : okBook (wideB (plainB b) v)) : truthL (wideB (plainB b) v) ≠ [] := by
  rw [all_nil (wideB (plainB b) v) rfl]
  exact allW_ne ho
theorem least_wide {b : SBook} (ho : okBook b) (v : Int) : leastI (wideB (plainB b) v) (loadsI (wideB (plainB b) v)) = none ↔ safeAllI (wideB (plainB b) v) (loadsI (plainB b)) = true := by
  have hg := ok_rng ho
  rw [least_safeAll (b := wideB (plainB b) v) hg.2.2.1 hg.1, loads_wide (plainB b) v rfl]
theorem wide_more {b : SBook} (ho : okBook b) {u v : Int} (hu : 0 ≤ u) (hv : 0 ≤ v) (h : safeAllI (wideB (plainB b) u) (loadsI (plainB b)) = true) : safeAllI (wideB (plainB b) (u + v)) (loadsI (plainB b)) = true := by
  have hg := ok_rng ho
  have hp := loadsI_pos (plain_fit ho.fit)
  obtain ⟨g1, g2, g3⟩ := ho.1
  rw [safeAll_iff (b := wideB (plainB b) u) hg.2.2.1 hg.1] at h
  rw [safeAll_iff (b := wideB (plainB b) (u + v)) hg.2.2.1 hg.1]
  intro w n k1 k2 k3 k4 l hl ht
  have e : wideB (plainB b) (u + v) = wideB (wideB (plainB b) u) v := by
    unfold wideB
    simp only [SBook.mk.injEq, true_and, and_true]
    omega
  rw [e] at ht
  have hw : 0 ≤ l.w := hp l hl
  have hk : b.kind = 0 ∨ b.kind = 1 := by omega
  refine wide_tips (b := wideB (plainB b) u) hk ?_ ?_ ?_ ?_ hv (h w n k1 k2 k3 k4 l hl) ht
  · intro h1
    have h1 : b.kind = 1 := h1
    show 1 ≤ b.radius
    omega
  · show 1 ≤ b.front + u
    omega
  · show 1 ≤ b.back + u
    omega
  · show 0 ≤ l.w + w
    omega
theorem StandWider_law (b : SBook) (n : Int) : Sem1 12 [.agg (bookC .sh .sh b), pi n] (pb true) := by
  refine semC_of_exec' mixed Try.func12 (by kernel_rfl) (by kernel_rfl) ac12_ok 2 rfl (by decide) [(.tmp 4)] (by kernel_rfl) ?_
  intro hr C hC hI
  unfold ac12
  simp only [go_sem, Nat.reduceBEq, Nat.reduceAdd]
  refine call_pure2 hC (sound_sem ..) rfl (PVleL_refl _) ?_
  rintro r rfl
  simp only [go_sem, Nat.reduceBEq, Nat.reduceAdd]
  refine ⟨fun _ => ?_, fun ho => ?_⟩
  · refine call_pure2 hC (stood_sem) rfl (PVleL_refl _) ?_
    rintro r rfl
    simp only [go_sem, Nat.reduceBEq]
    exact retQ_one rfl rfl
  have hg := ok_rng ho
  have hr := rndI_range (n := n) (m := 20) (by omega)
  have hpo := plain_ok ho
  have hpT := plain_T ho
  have hfr := ho.1
  unfold okBase at hfr
  have hyes : ∀ v : Int, 0 ≤ v → b.front + v ≤ 60 → b.back + v ≤ 60 → safeAllI (wideB (plainB b) v) (loadsI (plainB b)) = true → Sem1 27 [.agg (bookC .sh .sh (wideB (plainB b) v))] (.tup [pi 0, pi 4]) := fun v h0 h1 h2 h3 =>
    Least_N (wide_ok ho h0 h1 h2) (wide_T (wide_ok ho h0 h1 h2)) ((least_wide ho v).2 h3)
  have hno : ∀ v : Int, 0 ≤ v → b.front + v ≤ 60 → b.back + v ≤ 60 → safeAllI (wideB (plainB b) v) (loadsI (plainB b)) = false → ∃ m : Nat, Sem1 27 [.agg (bookC .sh .sh (wideB (plainB b) v))] (.tup [pi (m + 1), pi 0]) := fun v h0 h1 h2 h3 => by
    have hn : leastI (wideB (plainB b) v) (loadsI (wideB (plainB b) v)) ≠ none := fun h => by
      rw [(least_wide ho v).1 h] at h3; cases h3
    obtain ⟨m, hm⟩ := Option.ne_none_iff_exists'.1 hn
    exact ⟨m, Least_S (wide_ok ho h0 h1 h2) (wide_T (wide_ok ho h0 h1 h2)) hm⟩
  refine call_pure2 hC (plain_sem .sh .sh b) rfl (PVleL_refl _) ?_
  rintro r rfl
  simp only [go_sem, Nat.reduceBEq, Nat.reduceAdd, putCells]
  cases hW : widerJ (plainB b) (loadsI (plainB b)) with
  | none =>
    have h20 := widerJ_none.1 hW 20 (by omega)
    refine call_pure2 hC (Wider_N hpo hpT hW) rfl (PVleL_refl _) ?_
    rintro r rfl
    simp only [go_sem, Nat.reduceBEq, decide_true, decide_false, not_true_eq_false, not_false_eq_true, Int.reduceEq, wrap_id (n := (21 : Int) - 1) (by omega) (by omega)]
    refine call_pure2 hC (Round_sem n 20) rfl (PVleL_refl _) ?_
    rintro r rfl
    simp only [go_sem, Nat.reduceBEq, Nat.reduceAdd, Nat.reduceLeDiff, wrap_id (n := 21 + rndI n 20) (by omega) (by omega)]
    refine loop_nat 3 (fun _ => True) (fun (i : Nat) => ⟨[(9, .p (pi i)), (8, .p (.sl .full 1 [[pi 21], [pi (21 - 1)], [pi (21 + rndI n 20)]])), (7, .p (pi 4)), (5, .loc 1 0), (2, .loc 0 0)], [.cells ((bookC .sh .sh b).map .p), .cells ((bookC .sh .sh (plainB b)).map .p)], [], some [], 0⟩) trivial (by simp [Wk, wkT, wkL, look, AV.lo, AV.lo.loL, plainB]) ?_
    rintro i ⟨hi, -⟩
    simp only [go_sem, Nat.reduceBEq, Nat.reduceAdd]
    refine ⟨fun h5 => ?_, fun h5 => ?_⟩
    rotate_left
    · refine call_pure2 hC (stood_sem) rfl (PVleL_refl _) ?_
      rintro r rfl
      simp only [go_sem, Nat.reduceBEq]
      exact retQ_one rfl rfl
    have h012 : i = 0 ∨ i = 1 ∨ i = 2 := by omega
    rcases h012 with rfl | rfl | rfl
    · have e : iadrS' 1 (.p (.sl .full 1 [[pi 21], [pi (21 - 1)], [pi (21 + rndI n 20)]])) (.p (pi ((0 : Nat) : Int))) = some (.p (.ptr [pi 21] 0)) := rfl
      simp only [go_sem, Nat.reduceBEq, Nat.reduceAdd, Nat.reduceLeDiff, Nat.reduceEqDiff, e, putCells, decide_true, decide_false, Bool.false_eq_true, not_false_eq_true, Int.reduceEq, Int.reduceLT, wrap_id (n := b.front + 21) (by omega) (by omega), wrap_id (n := b.back + 21) (by omega) (by omega), wrap_succ (k := 0) (by omega)]
      repeat' (first | (exfalso; omega) | (guard_target =~ _ ∧ _; refine ⟨fun _ => ?_, fun _ => ?_⟩))
      all_goals exact ⟨⟨1, by omega, trivial⟩, by simp only; omega, by simp [Wk, wkT, wkL, look, AV.lo, AV.lo.loL]⟩
    · have e : iadrS' 1 (.p (.sl .full 1 [[pi 21], [pi (21 - 1)], [pi (21 + rndI n 20)]])) (.p (pi ((1 : Nat) : Int))) = some (.p (.ptr [pi 20] 0)) := rfl
      simp only [go_sem, Nat.reduceBEq, Nat.reduceAdd, Nat.reduceLeDiff, Nat.reduceEqDiff, e, putCells, decide_true, decide_false, Bool.false_eq_true, not_false_eq_true, Int.reduceEq, Int.reduceLT, wrap_id (n := b.front + 20) (by omega) (by omega), wrap_id (n := b.back + 20) (by omega) (by omega), wrap_succ (k := 1) (by omega)]
      repeat' (first | (exfalso; omega) | (guard_target =~ _ ∧ _; refine ⟨fun _ => ?_, fun _ => ?_⟩))
      all_goals first
        | (guard_target =~ ∃ _, _; exact ⟨⟨2, by omega, trivial⟩, by simp only; omega, by simp [Wk, wkT, wkL, look, AV.lo, AV.lo.loL]⟩)
        | skip
      obtain ⟨m, hm⟩ := hno 20 (by omega) (by omega) (by omega) h20
      refine call_pure2 hC hm rfl (PVleL_refl _) ?_
      rintro r rfl
      simp only [go_sem, Nat.reduceBEq, decide_false, not_true_eq_false, Int.reduceEq, show ((1 : Nat) : Int) = 1 from rfl, show IntKind.i64.wrap ((1 : Int) + 1) = 2 from rfl]
      exact ⟨⟨2, by omega, trivial⟩, by simp only; omega, by simp [Wk, wkT, wkL, look, AV.lo, AV.lo.loL]⟩
    · have e : iadrS' 1 (.p (.sl .full 1 [[pi 21], [pi (21 - 1)], [pi (21 + rndI n 20)]])) (.p (pi ((2 : Nat) : Int))) = some (.p (.ptr [pi (21 + rndI n 20)] 0)) := rfl
      simp only [go_sem, Nat.reduceBEq, Nat.reduceAdd, Nat.reduceLeDiff, Nat.reduceEqDiff, e, putCells, decide_true, Bool.false_eq_true, not_false_eq_true, Int.reduceEq, wrap_id (n := b.front + (21 + rndI n 20)) (by omega) (by omega), wrap_id (n := b.back + (21 + rndI n 20)) (by omega) (by omega), wrap_succ (k := 2) (by omega)]
      repeat' (first | (exfalso; omega) | (guard_target =~ _ ∧ _; refine ⟨fun _ => ?_, fun _ => ?_⟩))
      all_goals exact ⟨⟨3, by omega, trivial⟩, by simp only; omega, by simp [Wk, wkT, wkL, look, AV.lo, AV.lo.loL]⟩
  | some j =>
    obtain ⟨g1, g2, g3⟩ := widerJ_some.1 hW
    have hS := Wider_S (k := .sh) (k2 := .sh) hpo hpT hW
    have hprev : (1 : Int) ≤ j → safeAllI (wideB (plainB b) ((j : Int) - 1)) (loadsI (plainB b)) = false := fun h => by
      have := g3 (j - 1) (by omega)
      rwa [show (((j - 1 : Nat) : Int)) = (j : Int) - 1 by omega] at this
    have hnext : safeAllI (wideB (plainB b) ((j : Int) + rndI n 20)) (loadsI (plainB b)) = true := wide_more ho (by omega) (by omega) g2
    obtain ⟨q, hq⟩ : ∃ q : Int, (j : Int) = q := ⟨_, rfl⟩
    rw [hq] at hS g2 hprev hnext
    obtain ⟨q1, hq1⟩ : ∃ q1 : Int, q - 1 = q1 := ⟨_, rfl⟩
    obtain ⟨q2, hq2⟩ : ∃ q2 : Int, q + rndI n 20 = q2 := ⟨_, rfl⟩
    rw [hq1] at hprev
    rw [hq2] at hnext
    refine call_pure2 hC (hS) rfl (PVleL_refl _) ?_
    rintro r rfl
    simp only [go_sem, Nat.reduceBEq, decide_true, decide_false, not_true_eq_false]
    refine call_pure2 hC (In_sem q 0 20) rfl (PVleL_refl _) ?_
    rintro r rfl
    simp only [go_sem, Nat.reduceBEq, decide_eq_true (show 0 ≤ q ∧ q ≤ 20 by omega), decide_false, not_true_eq_false, hq1, wrap_id (n := q1) (by omega) (by omega)]
    refine call_pure2 hC (Round_sem n 20) rfl (PVleL_refl _) ?_
    rintro r rfl
    simp only [go_sem, Nat.reduceBEq, Nat.reduceAdd, Nat.reduceLeDiff, hq2, wrap_id (n := q2) (by omega) (by omega)]
    refine loop_nat 3 (fun _ => True) (fun (i : Nat) => ⟨[(9, .p (pi i)), (8, .p (.sl .full 1 [[pi q], [pi q1], [pi q2]])), (7, .p (pi 0)), (5, .loc 1 0), (2, .loc 0 0)], [.cells ((bookC .sh .sh b).map .p), .cells ((bookC .sh .sh (plainB b)).map .p)], [], some [], 0⟩) trivial (by simp [Wk, wkT, wkL, look, AV.lo, AV.lo.loL, plainB]) ?_
    rintro i ⟨hi, -⟩
    simp only [go_sem, Nat.reduceBEq, Nat.reduceAdd]
    refine ⟨fun h5 => ?_, fun h5 => ?_⟩
    rotate_left
    · refine call_pure2 hC (stood_sem) rfl (PVleL_refl _) ?_
      rintro r rfl
      simp only [go_sem, Nat.reduceBEq]
      exact retQ_one rfl rfl
    have h012 : i = 0 ∨ i = 1 ∨ i = 2 := by omega
    rcases h012 with rfl | rfl | rfl
    · have e : iadrS' 1 (.p (.sl .full 1 [[pi q], [pi q1], [pi q2]])) (.p (pi ((0 : Nat) : Int))) = some (.p (.ptr [pi q] 0)) := rfl
      simp only [go_sem, Nat.reduceBEq, Nat.reduceAdd, Nat.reduceLeDiff, Nat.reduceEqDiff, e, putCells, decide_false, not_true_eq_false, Bool.false_eq_true, not_false_eq_true, wrap_id (n := b.front + q) (by omega) (by omega), wrap_id (n := b.back + q) (by omega) (by omega), wrap_succ (k := 0) (by omega)]
      repeat' (first | (exfalso; omega) | (guard_target =~ _ ∧ _; refine ⟨fun _ => ?_, fun _ => ?_⟩))
      all_goals first
        | (guard_target =~ ∃ _, _; exact ⟨⟨1, by omega, trivial⟩, by simp only; omega, by simp [Wk, wkT, wkL, look, AV.lo, AV.lo.loL]⟩)
        | skip
      refine call_pure2 hC (hyes q (by omega) (by omega) (by omega) g2) rfl (PVleL_refl _) ?_
      rintro r rfl
      simp only [go_sem, Nat.reduceBEq, decide_true, decide_false, not_true_eq_false, not_false_eq_true, Int.reduceEq, show ((0 : Nat) : Int) = 0 from rfl, show IntKind.i64.wrap ((0 : Int) + 1) = 1 from rfl]
      exact ⟨⟨1, by omega, trivial⟩, by simp only; omega, by simp [Wk, wkT, wkL, look, AV.lo, AV.lo.loL]⟩
    · have e : iadrS' 1 (.p (.sl .full 1 [[pi q], [pi q1], [pi q2]])) (.p (pi ((1 : Nat) : Int))) = some (.p (.ptr [pi q1] 0)) := rfl
      simp only [go_sem, Nat.reduceBEq, Nat.reduceAdd, Nat.reduceLeDiff, Nat.reduceEqDiff, e, putCells, decide_false, not_true_eq_false, Bool.false_eq_true, not_false_eq_true, wrap_id (n := b.front + q1) (by omega) (by omega), wrap_id (n := b.back + q1) (by omega) (by omega), wrap_succ (k := 1) (by omega)]
      repeat' (first | (exfalso; omega) | (guard_target =~ _ ∧ _; refine ⟨fun _ => ?_, fun _ => ?_⟩))
      all_goals first
        | (guard_target =~ ∃ _, _; exact ⟨⟨2, by omega, trivial⟩, by simp only; omega, by simp [Wk, wkT, wkL, look, AV.lo, AV.lo.loL]⟩)
        | skip
      obtain ⟨m, hm⟩ := hno q1 (by omega) (by omega) (by omega) (hprev (by omega))
      refine call_pure2 hC hm rfl (PVleL_refl _) ?_
      rintro r rfl
      simp only [go_sem, Nat.reduceBEq, decide_false, not_true_eq_false, Int.reduceEq, show ((1 : Nat) : Int) = 1 from rfl, show IntKind.i64.wrap ((1 : Int) + 1) = 2 from rfl]
      exact ⟨⟨2, by omega, trivial⟩, by simp only; omega, by simp [Wk, wkT, wkL, look, AV.lo, AV.lo.loL]⟩
    · have e : iadrS' 1 (.p (.sl .full 1 [[pi q], [pi q1], [pi q2]])) (.p (pi ((2 : Nat) : Int))) = some (.p (.ptr [pi q2] 0)) := rfl
      simp only [go_sem, Nat.reduceBEq, Nat.reduceAdd, Nat.reduceLeDiff, Nat.reduceEqDiff, e, putCells, decide_false, not_true_eq_false, Bool.false_eq_true, not_false_eq_true, wrap_id (n := b.front + q2) (by omega) (by omega), wrap_id (n := b.back + q2) (by omega) (by omega), wrap_succ (k := 2) (by omega)]
      repeat' (first | (exfalso; omega) | (guard_target =~ _ ∧ _; refine ⟨fun _ => ?_, fun _ => ?_⟩))
      all_goals first
        | (guard_target =~ ∃ _, _; exact ⟨⟨3, by omega, trivial⟩, by simp only; omega, by simp [Wk, wkT, wkL, look, AV.lo, AV.lo.loL]⟩)
        | skip
      refine call_pure2 hC (hyes q2 (by omega) (by omega) (by omega) hnext) rfl (PVleL_refl _) ?_
      rintro r rfl
      simp only [go_sem, Nat.reduceBEq, decide_true, decide_false, not_true_eq_false, not_false_eq_true, Int.reduceEq, show ((2 : Nat) : Int) = 2 from rfl, show IntKind.i64.wrap ((2 : Int) + 1) = 3 from rfl]
      exact ⟨⟨3, by omega, trivial⟩, by simp only; omega, by simp [Wk, wkT, wkL, look, AV.lo, AV.lo.loL]⟩
set_option maxRecDepth 100000 in
theorem StandWider_row {l0 l1 : List PV} (T0 : Ty Try.prog 10 25 l0) (T1 : Ty Try.prog 10 3 l1) : SemC Try.prog 12 [argPV Try.prog 25 l0, argPV Try.prog 3 l1] (fun r => r = pb true) := by
  obtain ⟨b, rfl⟩ := ty_book T0
  obtain ⟨n, rfl⟩ := tyInt uInt T1
  rw [argStruct Try.underlying25, argInt uInt]
  exact StandWider_law b n
end Go.Proofs.Ytgniamjempccmaa
namespace Go.Proofs.Ytgniamjempccmaa
open Go.Proofs.Ytgniamjempccmaa Go.ChangeShapes Go.WideShapes Go.ChangeAt Go.RowKit Go.Deep

set_option maxRecDepth 100000 in
theorem standWider_lifted (os : Os) (started : os.Started) (H : Type) (enc : TypeId × Value → H) :
    ReturnsInHanded {} Try.checked os 12 .any (Rows.standWiderSpec.pre6 enc Try.prog Try.f12 Rows.standWiderRow.domain false) (Rows.standWiderSpec.post enc Try.prog Try.f12 false true false false) := by
  refine returnsInHanded_of_change_sized (C := Try.checked) ownKnobs started (by kernel_rfl) Try.func12
    (ChangeSpec.witness6 (enc := enc) (C := Try.checked) false ⟨#[], #[.agg #[.int .i64 0, .int .i64 0, .int .i64 0, .int .i64 0, .slice none 0 0, .int .i64 0, .int .i64 0, .int .i64 0, .int .i64 0, .slice none 0 0], .int .i64 0], []⟩ 8 (by kernel_rfl) (by kernel_rfl) (by kernel_rfl) (by kernel_rfl)) ?_
  intro W base args ds gs before hval0 hW hcnd hsz0 _
  have hval : ∀ (j : Nat) t v, Try.f12.params[j]? = some t → args[j]? = some v → Value.okWide Try.prog W .any base t v := hval0
  have hsz : (DataW.weightsEach Try.prog (Try.f12.params.toList ++ Rows.standWiderSpec.plain.varTypes Try.prog) (ds ++ gs)).all (· ≤ reachBytes) = true := hsz0
  have hW' := hW
  obtain ⟨p, q, hA0, hV, rfl, hfz, hnd⟩ := hW
  have hA : DataW.TrodAll enc Try.prog W 0 (fun _ => true) true Try.f12.params.toList args.toList ds p := hA0
  rw [Try.params12] at hA hval hsz
  obtain ⟨v0, vs0, d0, ds0, p0, q0, hargs, rfl, rfl, h0, r0⟩ := trodAll_cons hA
  obtain ⟨v1, vs1, d1, ds1, p1, q1, rfl, rfl, rfl, h1, r1⟩ := trodAll_cons r0
  obtain ⟨rfl, rfl, rfl⟩ := trodAll_nil r1
  obtain rfl : args = #[v0, v1] := by cases args; simp_all
  obtain ⟨rfl, rfl⟩ := trodVars_none hV
  have lt0 : ∀ x ∈ p0, x.block < W.heap.size := by obtain ⟨m, hm⟩ := h0; exact DataW.trod_lt m _ _ _ hm
  have lt1 : ∀ x ∈ p1, x.block < W.heap.size := by obtain ⟨m, hm⟩ := h1; exact DataW.trod_lt m _ _ _ hm
  have z0 : SizedP Try.prog 25 d0 := sizedP_each hsz (j := 0) rfl rfl
  obtain ⟨l0, T0, R0⟩ := rd_arg 10 (by kernel_rfl) (hval 0 25 v0 rfl rfl) h0 z0
  have z1 : SizedP Try.prog 3 d1 := sizedP_each hsz (j := 1) rfl rfl
  obtain ⟨l1, T1, R1⟩ := rd_arg 10 (by kernel_rfl) (hval 1 3 v1 rfl rfl) h1 z1
  clear hA0 hval0 hsz0
  refine (law_calls (StandWider_row T0 T1) (argsP_cons R0 (argsP_cons R1 argsP_nil))).mono fun e W' ⟨he, bel⟩ => ?_
  subst he
  exact ⟨_, rfl, _, _, _, [], _, [], hW', trodAll_mk1 (shut_bool Try.underlying4 _), (trodAll_cons_mk (Below.trod laidOut (by kernel_rfl) (of_decide_eq_true (by kernel_rfl)) h0 bel lt0) (trodAll_cons_mk (Below.trod laidOut (by kernel_rfl) (of_decide_eq_true (by kernel_rfl)) h1 bel lt1) trodAll_mk0)), rfl, bel.frame _, fun h => by cases h⟩

theorem standWider_holds : Rows.StandWiderSaid :=
  OpenClaim.holds_of_wide 12 Try.f12 rfl rfl rfl rfl rfl rfl rfl ⟨rfl, rfl, rfl, rfl, rfl⟩ rfl rfl rfl rfl rfl (by kernel_rfl) Try.func12 (by kernel_rfl)
    (of_decide_eq_true (by kernel_rfl)) (by unfold Func.isWrapper; first | (rw [if_pos (by decide +kernel)]; kernel_rfl) | (rw [if_neg (by decide +kernel)]; exact ⟨rfl, rfl⟩))
    (fun os started H enc _ => standWider_lifted os started H enc)
end Go.Proofs.Ytgniamjempccmaa
