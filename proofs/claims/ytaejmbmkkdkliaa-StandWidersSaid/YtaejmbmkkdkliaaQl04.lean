/- The specification of stand: what is asked of truths. The specification of stand: margins, and which horses are safe. -/
import Derived.Test.YtaejmbmkkdkliaaQl02
import Derived.Test.YtaejmbmkkdkliaaQl03
namespace Go.Proofs.Ytaejmbmkkdkliaa
open Go.RowKit
def ac17 : AC := (AC.seq (AC.ops [(AOp.mk (some 1) (AK.box 10 (AX.t 0)) none 0 false true), (AOp.mk (some 2) (AK.mv (AX.c (PV.val (Value.bool false)))) none 1 false true), (AOp.mk (some 3) (AK.mv (AX.c (PV.val (Value.int IntKind.i64 0)))) none 2 false true)]) (AC.seq (AC.seq (AC.ops [(AOp.mk (some 5) (AK.ld (some 10) (AX.t 1)) none 0 false true), (AOp.mk (some 6) (AK.call 19 [(AX.t 5)]) none 1 false true), (AOp.mk (some 4) (AK.mv (AX.t 6)) none 2 false true)]) (AC.seq (AC.ops [(AOp.mk (some 7) (AK.mv (AX.t 4)) none 0 false true), (AOp.mk (some 8) (AK.bin false BinOp.neq (AX.t 7) (AX.c (PV.val (Value.int IntKind.i64 0)))) none 1 false true)]) (AC.cond (AX.t 8) (AC.seq (AC.ops [(AOp.mk (some 9) (AK.mv (AX.t 4)) none 0 false true), (AOp.mk (some 2) (AK.mv (AX.c (PV.val (Value.bool false)))) none 1 false true), (AOp.mk (some 3) (AK.mv (AX.t 9)) none 2 false true)]) AC.ret) AC.skip))) (AC.seq (AC.ops [(AOp.mk (some 10) (AK.ld (some 10) (AX.t 1)) none 0 false true), (AOp.mk (some 11) (AK.call 63 [(AX.t 10)]) none 1 false true), (AOp.mk (some 12) (AK.len (AX.t 11)) none 2 false true), (AOp.mk (some 13) (AK.bin false BinOp.gtr (AX.t 12) (AX.c (PV.val (Value.int IntKind.i64 0)))) none 3 false true), (AOp.mk (some 2) (AK.mv (AX.t 13)) none 4 false true), (AOp.mk (some 3) (AK.mv (AX.c (PV.val (Value.int IntKind.i64 0)))) none 5 false true)]) AC.ret)))
theorem ac17_ok : cCode Try.prog (fun _ => false) Try.f17.ntmps (Try.f17.body.getD .skip) = some ac17 := by kernel_rfl
def ac21 : AC := (AC.seq (AC.ops [(AOp.mk (some 3) (AK.box 10 (AX.t 0)) none 0 false true), (AOp.mk (some 6) (AK.mv (AX.c (PV.val (Value.int IntKind.i64 0)))) none 1 false true), (AOp.mk (some 7) (AK.mv (AX.c (PV.val (Value.int IntKind.i64 0)))) none 2 false true)]) (AC.seq (AC.ops [(AOp.mk (some 13) (AK.ld (some 10) (AX.t 3)) none 0 true false), (AOp.mk (some 14) (AK.ld (some 10) (AX.t 3)) none 1 true false), (AOp.mk (some 15) (AK.mv (AX.t 1)) none 2 true false), (AOp.mk (some 16) (AK.call 66 [(AX.t 14), (AX.t 15)]) none 3 false false), (AOp.mk (some 17) (AK.mv (AX.t 16)) none 4 true false), (AOp.mk (some 18) (AK.ld (some 10) (AX.t 3)) (some (17, true)) 5 true false), (AOp.mk (some 19) (AK.mv (AX.t 2)) (some (17, true)) 6 true false), (AOp.mk (some 20) (AK.call 67 [(AX.t 18), (AX.t 19)]) (some (17, true)) 7 false false), (AOp.mk (some 21) (AK.pick (AX.t 17) (AX.t 20) (AX.c (PV.val (Value.bool false)))) none 8 true false), (AOp.mk (some 22) (AK.call 72 [(AX.t 13), (AX.t 21)]) none 9 false false), (AOp.mk (some 12) (AK.mv (AX.t 22)) none 10 true false), (AOp.mk (some 23) (AK.ext (AX.t 12) 0) none 11 true false), (AOp.mk (some 24) (AK.ext (AX.t 12) 1) none 12 true false), (AOp.mk (some 8) (AK.mv (AX.t 23)) none 13 true false), (AOp.mk (some 9) (AK.mv (AX.t 24)) none 14 true true)]) (AC.seq (AC.seq (AC.ops [(AOp.mk (some 25) (AK.mv (AX.t 9)) none 0 false true), (AOp.mk (some 26) (AK.bin false BinOp.neq (AX.t 25) (AX.c (PV.val (Value.int IntKind.i64 0)))) none 1 false true)]) (AC.cond (AX.t 26) (AC.seq (AC.ops [(AOp.mk (some 27) (AK.mv (AX.t 9)) none 0 false true), (AOp.mk (some 6) (AK.mv (AX.c (PV.val (Value.int IntKind.i64 0)))) none 1 false true), (AOp.mk (some 7) (AK.mv (AX.t 27)) none 2 false true)]) AC.ret) AC.skip)) (AC.seq (AC.ops [(AOp.mk (some 10) (AK.mv (AX.c (PV.val (Value.int IntKind.i64 0)))) none 0 false true)]) (AC.seq (AC.seq (AC.ops [(AOp.mk (some 11) (AK.mv (AX.c (PV.val (Value.int IntKind.i64 0)))) none 0 false true)]) (AC.block 0 (AC.loop (AC.seq (AC.seq (AC.ops [(AOp.mk (some 28) (AK.mv (AX.t 11)) none 0 false true), (AOp.mk (some 29) (AK.mv (AX.t 8)) none 1 false true), (AOp.mk (some 30) (AK.len (AX.t 29)) none 2 false true), (AOp.mk (some 31) (AK.bin false BinOp.lss (AX.t 28) (AX.t 30)) none 3 false true)]) (AC.cond (AX.t 31) AC.skip (AC.exit 0))) (AC.seq (AC.block 1 (AC.seq (AC.ops [(AOp.mk (some 34) (AK.ld (some 10) (AX.t 3)) none 0 true false), (AOp.mk (some 35) (AK.mv (AX.t 8)) none 1 true false), (AOp.mk (some 36) (AK.mv (AX.t 11)) none 2 true false), (AOp.mk (some 37) (AK.iadrS 1 (AX.t 35) (AX.t 36)) none 3 true false), (AOp.mk (some 38) (AK.ld none (AX.t 37)) none 4 true false), (AOp.mk (some 39) (AK.mv (AX.t 1)) none 5 true false), (AOp.mk (some 40) (AK.mv (AX.t 2)) none 6 true false), (AOp.mk (some 41) (AK.call 73 [(AX.t 34), (AX.t 38), (AX.t 39), (AX.t 40)]) none 7 false false)]) (AC.cond (AX.t 41) (AC.ops [(AOp.mk (some 42) (AK.mv (AX.t 10)) none 0 false true), (AOp.mk (some 43) (AK.bin false BinOp.add (AX.t 42) (AX.c (PV.val (Value.int IntKind.i64 1)))) none 1 false true), (AOp.mk (some 10) (AK.mv (AX.t 43)) none 2 false true)]) AC.skip))) (AC.ops [(AOp.mk (some 32) (AK.mv (AX.t 11)) none 0 false true), (AOp.mk (some 33) (AK.bin false BinOp.add (AX.t 32) (AX.c (PV.val (Value.int IntKind.i64 1)))) none 1 false true), (AOp.mk (some 11) (AK.mv (AX.t 33)) none 2 false true)])))))) (AC.seq (AC.seq (AC.ops [(AOp.mk (some 44) (AK.mv (AX.t 10)) none 0 false true)]) (AC.block 2 (AC.seq (AC.ops [(AOp.mk (some 46) (AK.bin false BinOp.eql (AX.t 44) (AX.c (PV.val (Value.int IntKind.i64 0)))) none 0 false true), (AOp.mk (some 45) (AK.mv (AX.t 46)) none 1 false true)]) (AC.cond (AX.t 45) (AC.seq (AC.ops [(AOp.mk (some 6) (AK.mv (AX.c (PV.val (Value.int IntKind.i64 0)))) none 0 false true), (AOp.mk (some 7) (AK.mv (AX.c (PV.val (Value.int IntKind.i64 0)))) none 1 false true)]) AC.ret) (AC.seq (AC.ops [(AOp.mk (some 48) (AK.mv (AX.t 8)) none 0 false true), (AOp.mk (some 49) (AK.len (AX.t 48)) none 1 false true), (AOp.mk (some 50) (AK.bin false BinOp.eql (AX.t 44) (AX.t 49)) none 2 false true), (AOp.mk (some 47) (AK.mv (AX.t 50)) none 3 false true)]) (AC.cond (AX.t 47) (AC.seq (AC.ops [(AOp.mk (some 6) (AK.mv (AX.c (PV.val (Value.int IntKind.i64 2)))) none 0 false true), (AOp.mk (some 7) (AK.mv (AX.c (PV.val (Value.int IntKind.i64 0)))) none 1 false true)]) AC.ret) AC.skip)))))) (AC.seq (AC.ops [(AOp.mk (some 6) (AK.mv (AX.c (PV.val (Value.int IntKind.i64 1)))) none 0 false true), (AOp.mk (some 7) (AK.mv (AX.c (PV.val (Value.int IntKind.i64 0)))) none 1 false true)]) AC.ret)))))))
theorem ac21_ok : cCode Try.prog (fun _ => false) Try.f21.ntmps (Try.f21.body.getD .skip) = some ac21 := by kernel_rfl
def ac76 : AC := (AC.seq (AC.ops [(AOp.mk (some 4) (AK.new (PV.agg [(PV.val (Value.int IntKind.i64 0)), (PV.val (Value.int IntKind.i64 0))])) none 0 false true)]) (AC.seq (AC.ops [(AOp.mk (some 7) (AK.mv (AX.t 0)) none 0 false true), (AOp.mk (some 8) (AK.mv (AX.t 0)) none 1 false true), (AOp.mk (some 9) (AK.un UnOp.neg (AX.t 8)) none 2 false true), (AOp.mk (some 10) (AK.mx true [(AX.t 7), (AX.t 9)]) none 3 false true), (AOp.mk (some 11) (AK.mv (AX.t 1)) none 4 false true), (AOp.mk (some 5) (AK.mv (AX.t 10)) none 5 false true), (AOp.mk (some 6) (AK.mv (AX.t 11)) none 6 false true)]) (AC.seq (AC.block 0 (AC.loop (AC.seq (AC.seq (AC.ops [(AOp.mk (some 12) (AK.mv (AX.t 6)) none 0 false true), (AOp.mk (some 13) (AK.bin false BinOp.gtr (AX.t 12) (AX.c (PV.val (Value.int IntKind.i64 0)))) none 1 false true)]) (AC.cond (AX.t 13) AC.skip (AC.exit 0))) (AC.block 1 (AC.ops [(AOp.mk (some 14) (AK.mv (AX.t 6)) none 0 true false), (AOp.mk (some 15) (AK.mv (AX.t 5)) none 1 true false), (AOp.mk (some 16) (AK.mv (AX.t 6)) none 2 true false), (AOp.mk (some 17) (AK.bin false BinOp.rem (AX.t 15) (AX.t 16)) none 3 true false), (AOp.mk (some 5) (AK.mv (AX.t 14)) none 4 true false), (AOp.mk (some 6) (AK.mv (AX.t 17)) none 5 true true)]))))) (AC.seq (AC.ops [(AOp.mk (some 18) (AK.mv (AX.t 0)) none 0 true false), (AOp.mk (some 19) (AK.mv (AX.t 5)) none 1 true false), (AOp.mk (some 20) (AK.bin false BinOp.quo (AX.t 18) (AX.t 19)) none 2 true false), (AOp.mk (some 21) (AK.mv (AX.t 1)) none 3 true false), (AOp.mk (some 22) (AK.mv (AX.t 5)) none 4 true false), (AOp.mk (some 23) (AK.bin false BinOp.quo (AX.t 21) (AX.t 22)) none 5 true false), (AOp.mk (some 24) (AK.build [(PV.val (Value.int IntKind.i64 0)), (PV.val (Value.int IntKind.i64 0))] [(0, (1, (AX.t 20))), (1, (1, (AX.t 23)))]) none 6 true false), (AOp.mk none (AK.st 2 (AX.t 4) (AX.t 24)) none 7 false true)]) AC.ret))))
theorem ac76_ok : cCode Try.prog (fun _ => false) Try.f76.ntmps (Try.f76.body.getD .skip) = some ac76 := by kernel_rfl
def ac23 : AC := (AC.seq (AC.ops [(AOp.mk (some 3) (AK.box 10 (AX.t 0)) none 0 false true), (AOp.mk (some 6) (AK.new (PV.agg [(PV.val (Value.int IntKind.i64 0)), (PV.val (Value.int IntKind.i64 0))])) none 1 false true), (AOp.mk (some 7) (AK.mv (AX.c (PV.val (Value.int IntKind.i64 0)))) none 2 false true)]) (AC.seq (AC.ops [(AOp.mk (some 16) (AK.ld (some 10) (AX.t 3)) none 0 true false), (AOp.mk (some 17) (AK.ld (some 10) (AX.t 3)) none 1 true false), (AOp.mk (some 18) (AK.mv (AX.t 1)) none 2 true false), (AOp.mk (some 19) (AK.call 66 [(AX.t 17), (AX.t 18)]) none 3 false false), (AOp.mk (some 20) (AK.mv (AX.t 19)) none 4 true false), (AOp.mk (some 21) (AK.ld (some 10) (AX.t 3)) (some (20, true)) 5 true false), (AOp.mk (some 22) (AK.mv (AX.t 2)) (some (20, true)) 6 true false), (AOp.mk (some 23) (AK.call 67 [(AX.t 21), (AX.t 22)]) (some (20, true)) 7 false false), (AOp.mk (some 24) (AK.pick (AX.t 20) (AX.t 23) (AX.c (PV.val (Value.bool false)))) none 8 true false), (AOp.mk (some 25) (AK.call 72 [(AX.t 16), (AX.t 24)]) none 9 false false), (AOp.mk (some 15) (AK.mv (AX.t 25)) none 10 true false), (AOp.mk (some 26) (AK.ext (AX.t 15) 0) none 11 true false), (AOp.mk (some 27) (AK.ext (AX.t 15) 1) none 12 true false), (AOp.mk (some 8) (AK.mv (AX.t 26)) none 13 true false), (AOp.mk (some 9) (AK.mv (AX.t 27)) none 14 true true)]) (AC.seq (AC.seq (AC.ops [(AOp.mk (some 28) (AK.mv (AX.t 9)) none 0 false true), (AOp.mk (some 29) (AK.bin false BinOp.neq (AX.t 28) (AX.c (PV.val (Value.int IntKind.i64 0)))) none 1 false true)]) (AC.cond (AX.t 29) (AC.seq (AC.ops [(AOp.mk (some 30) (AK.build [(PV.val (Value.int IntKind.i64 0)), (PV.val (Value.int IntKind.i64 0))] []) none 0 false true), (AOp.mk (some 31) (AK.mv (AX.t 9)) none 1 false true), (AOp.mk none (AK.st 2 (AX.t 6) (AX.t 30)) none 2 false true), (AOp.mk (some 7) (AK.mv (AX.t 31)) none 3 false true)]) AC.ret) AC.skip)) (AC.seq (AC.ops [(AOp.mk (some 33) (AK.ld (some 10) (AX.t 3)) none 0 true false), (AOp.mk (some 34) (AK.mv (AX.t 8)) none 1 true false), (AOp.mk (some 35) (AK.iadrS 1 (AX.t 34) (AX.c (PV.val (Value.int IntKind.i64 0)))) none 2 true false), (AOp.mk (some 36) (AK.ld none (AX.t 35)) none 3 true false), (AOp.mk (some 37) (AK.mv (AX.t 1)) none 4 true false), (AOp.mk (some 38) (AK.mv (AX.t 2)) none 5 true false), (AOp.mk (some 39) (AK.call 75 [(AX.t 33), (AX.t 36), (AX.t 37), (AX.t 38)]) none 6 false false), (AOp.mk (some 32) (AK.mv (AX.t 39)) none 7 true false), (AOp.mk (some 40) (AK.ext (AX.t 32) 0) none 8 true false), (AOp.mk (some 41) (AK.ext (AX.t 32) 1) none 9 true false), (AOp.mk (some 10) (AK.mv (AX.t 40)) none 10 true false), (AOp.mk (some 11) (AK.mv (AX.t 41)) none 11 true true)]) (AC.seq (AC.seq (AC.ops [(AOp.mk (some 12) (AK.mv (AX.c (PV.val (Value.int IntKind.i64 0)))) none 0 false true)]) (AC.block 0 (AC.loop (AC.seq (AC.seq (AC.ops [(AOp.mk (some 42) (AK.mv (AX.t 12)) none 0 false true), (AOp.mk (some 43) (AK.mv (AX.t 8)) none 1 false true), (AOp.mk (some 44) (AK.len (AX.t 43)) none 2 false true), (AOp.mk (some 45) (AK.bin false BinOp.lss (AX.t 42) (AX.t 44)) none 3 false true)]) (AC.cond (AX.t 45) AC.skip (AC.exit 0))) (AC.seq (AC.block 1 (AC.seq (AC.ops [(AOp.mk (some 49) (AK.ld (some 10) (AX.t 3)) none 0 true false), (AOp.mk (some 50) (AK.mv (AX.t 8)) none 1 true false), (AOp.mk (some 51) (AK.mv (AX.t 12)) none 2 true false), (AOp.mk (some 52) (AK.iadrS 1 (AX.t 50) (AX.t 51)) none 3 true false), (AOp.mk (some 53) (AK.ld none (AX.t 52)) none 4 true false), (AOp.mk (some 54) (AK.mv (AX.t 1)) none 5 true false), (AOp.mk (some 55) (AK.mv (AX.t 2)) none 6 true false), (AOp.mk (some 56) (AK.call 75 [(AX.t 49), (AX.t 53), (AX.t 54), (AX.t 55)]) none 7 false false), (AOp.mk (some 48) (AK.mv (AX.t 56)) none 8 true false), (AOp.mk (some 57) (AK.ext (AX.t 48) 0) none 9 true false), (AOp.mk (some 58) (AK.ext (AX.t 48) 1) none 10 true false), (AOp.mk (some 13) (AK.mv (AX.t 57)) none 11 true false), (AOp.mk (some 14) (AK.mv (AX.t 58)) none 12 true true)]) (AC.seq (AC.ops [(AOp.mk (some 59) (AK.mv (AX.t 13)) none 0 false true), (AOp.mk (some 60) (AK.mv (AX.t 11)) none 1 false true), (AOp.mk (some 61) (AK.bin false BinOp.mul (AX.t 59) (AX.t 60)) none 2 false true), (AOp.mk (some 62) (AK.mv (AX.t 10)) none 3 false true), (AOp.mk (some 63) (AK.mv (AX.t 14)) none 4 false true), (AOp.mk (some 64) (AK.bin false BinOp.mul (AX.t 62) (AX.t 63)) none 5 false true), (AOp.mk (some 65) (AK.bin false BinOp.lss (AX.t 61) (AX.t 64)) none 6 false true)]) (AC.cond (AX.t 65) (AC.ops [(AOp.mk (some 66) (AK.mv (AX.t 13)) none 0 false true), (AOp.mk (some 67) (AK.mv (AX.t 14)) none 1 false true), (AOp.mk (some 10) (AK.mv (AX.t 66)) none 2 false true), (AOp.mk (some 11) (AK.mv (AX.t 67)) none 3 false true)]) AC.skip)))) (AC.ops [(AOp.mk (some 46) (AK.mv (AX.t 12)) none 0 false true), (AOp.mk (some 47) (AK.bin false BinOp.add (AX.t 46) (AX.c (PV.val (Value.int IntKind.i64 1)))) none 1 false true), (AOp.mk (some 12) (AK.mv (AX.t 47)) none 2 false true)])))))) (AC.seq (AC.ops [(AOp.mk (some 68) (AK.mv (AX.t 10)) none 0 false true), (AOp.mk (some 69) (AK.mv (AX.t 11)) none 1 false true), (AOp.mk (some 70) (AK.call 76 [(AX.t 68), (AX.t 69)]) none 2 false true), (AOp.mk none (AK.st 2 (AX.t 6) (AX.t 70)) none 3 false true), (AOp.mk (some 7) (AK.mv (AX.c (PV.val (Value.int IntKind.i64 0)))) none 4 false true)]) AC.ret))))))
theorem ac23_ok : cCode Try.prog (fun _ => false) Try.f23.ntmps (Try.f23.body.getD .skip) = some ac23 := by kernel_rfl
theorem rRight_sem (k k2 : SK) (b : SBook) : Sem1 17 [.agg (bookC k k2 b)] (if okBook b then .tup [pb (decide (truthL b ≠ [])), pi 0] else .tup [pb false, pi 20]) := by
  refine semC_of_exec' mixed Try.func17 (by kernel_rfl) (by kernel_rfl) ac17_ok 1 rfl (by decide) [(.tmp 2), (.tmp 3)] (by kernel_rfl) ?_
  intro hr C hC hI
  unfold ac17
  simp only [go_sem, Nat.reduceBEq, Nat.reduceAdd]
  refine call_pure2 hC (rCheck_sem ..) rfl (PVleL_refl _) ?_
  rintro r rfl
  simp only [go_sem, Nat.reduceBEq, Nat.reduceAdd]
  by_cases ho : okBook b
  · simp only [if_pos ho]
    refine ⟨fun h => by (simp at h), fun _ => ?_⟩
    refine call_pure2 hC (rtruths_sem k k2 ho) rfl (PVleL_refl _) ?_
    rintro r rfl
    simp only [go_sem, Nat.reduceBEq, List.length_map]
    refine retQ_two rfl rfl ?_
    have : decide (0 < ((refT b).length : Int)) = decide (truthL b ≠ []) := decide_eq_decide.2 (by
      have := refT_nil ho
      constructor
      · intro h hn; rw [this.2 hn] at h; simp at h
      · intro h
        have := List.length_pos_iff.2 (fun hn => h (this.1 hn))
        omega)
    rw [this]
  · simp only [if_neg ho]
    exact ⟨fun _ => retQ_two rfl rfl rfl, fun h => by (simp at h)⟩
theorem askC {C : Con} (hC : ∀ f args rd K s, SemP Try.prog Fence.wide f args rd K s → C.call f args rd K s) (k k2 : SK) (b : SBook) (known : Bool) {rd : List Nat} {K : AV → AS → Prop} {s : AS}
    (h1 : errI b known ≠ 0 → K (.p (.tup [lls [], pi (errI b known)])) s) (h2 : errI b known = 0 → K (.p (.tup [lls (refT b), pi 0])) s) : C.call 72 [.p (.agg (bookC k k2 b)), .p (pb known)] rd K s := by
  refine call_pure2 hC (asked_sem k k2 b known) rfl (PVleL_refl _) ?_
  rintro r rfl
  by_cases he : errI b known = 0
  · rw [if_pos he, he]; exact h2 he
  · rw [if_neg he]; exact h1 he
theorem lls_at {L : List (List Int)} {kd : SK} {j : Nat} (h : j < L.length) : iadrS' 1 (.p (.sl kd 1 (L.map fun ws => [pis ws]))) (.p (pi j)) = some (.p (.ptr [pis L[j]] 0)) := iadr_map (f := fun ws => [pis ws]) h
theorem rTips_sem (k k2 : SK) (b : SBook) (w n : Int) : Sem1 21 [.agg (bookC k k2 b), pi w, pi n]
    (if errI b (childI b w n) = 0 then .tup [pi (answerI b (loadsI b) w n), pi 0] else .tup [pi 0, pi (errI b (childI b w n))]) := by
  rw [← err_childW]
  obtain ⟨R, hR⟩ : ∃ R, (if errI b (childW b w n) = 0 then PV.tup [pi (answerI b (loadsI b) w n), pi 0] else .tup [pi 0, pi (errI b (childW b w n))]) = R := ⟨_, rfl⟩
  obtain ⟨e, he⟩ : ∃ e, childW b w n = e := ⟨_, rfl⟩
  rw [hR]
  rw [he] at hR
  have hc := he
  unfold childW at hc
  refine semC_of_exec' mixed Try.func21 (by kernel_rfl) (by kernel_rfl) ac21_ok 3 rfl (by decide) [(.tmp 6), (.tmp 7)] (by kernel_rfl) ?_
  intro hr C hC hI
  unfold ac21
  simp only [go_sem, Nat.reduceBEq, Nat.reduceAdd]
  refine call_pure2 hC (isWeight_sem ..) rfl (PVleL_refl _) ?_
  rintro r rfl
  simp only [go_sem, Nat.reduceBEq, Nat.reduceAdd]
  refine ⟨fun h1 => ?_, fun h1 => ?_⟩
  rotate_left
  · rw [decide_eq_false h1, Bool.false_and] at hc
    subst hc
    refine askC hC k k2 b false (fun hne => ?_) (fun h0 => absurd (errI_ok h0).2 (by decide))
    rw [if_neg hne] at hR
    simp only [go_sem, Nat.reduceBEq]
    exact ⟨fun _ => retQ_two rfl rfl hR, fun h => absurd h hne⟩
  rw [decide_eq_true h1, Bool.true_and] at hc
  refine call_pure2 hC (isLean_sem ..) rfl (PVleL_refl _) ?_
  rintro r rfl
  simp only [go_sem, Nat.reduceBEq]
  rw [hc]
  refine askC hC k k2 b e (fun hne => ?_) (fun h0 => ?_)
  · rw [if_neg hne] at hR
    simp only [go_sem, Nat.reduceBEq]
    exact ⟨fun _ => retQ_two rfl rfl hR, fun h => absurd h hne⟩
  rw [if_pos h0] at hR
  obtain ⟨ho, hk⟩ := errI_ok h0
  have hg := ok_rng ho
  have hls := refT_load ho
  have hlen := refT_len ho
  have hmok := refT_mok ho
  rw [hk, decide_eq_true_eq, wrap_id (n := 0 - b.lean) (by omega) (by omega)] at hc
  obtain ⟨T, hT⟩ : ∃ T, refT b = T := ⟨_, rfl⟩
  rw [hT] at hls hlen hmok ⊢
  rw [← hls] at hR
  simp only [go_sem, Nat.reduceBEq]
  refine ⟨fun h => by (simp at h), fun _ => ?_⟩
  refine loop_nat T.length (fun _ => True) (fun (j : Nat) => ⟨[(11, .p (pi j)), (10, .p (pi (countI b ((T.map (loadW b.parts)).take j) w n))), (8, .p (lls T)), (3, .loc 0 0), (1, .p (pi w)), (2, .p (pi n))], [.cells ((bookC k k2 b).map .p)], [], some [], 0⟩) trivial (by simp [Wk, wkT, wkL, look, AV.lo, AV.lo.loL, countI]) ?_
  rintro j ⟨hj, -⟩
  simp only [go_sem, Nat.reduceBEq, Nat.reduceAdd, List.length_map]
  refine ⟨fun h5 => ?_, fun h5 => ?_⟩
  · have hj2 : j < T.length := by omega
    have hcn := count_next b (T.map (loadW b.parts)) w n j (by simpa using hj2)
    have hcl := count_le b ((T.map (loadW b.parts)).take j) w n
    rw [List.length_take, List.length_map] at hcl
    rw [List.getElem_map] at hcn
    simp only [go_sem, Nat.reduceBEq, lls_at hj2]
    refine call_pure2 hC (rtips_sem k k2 (hmok _ (List.getElem_mem hj2)) (w := w) (n := n) (by omega) (by omega)) rfl (PVleL_refl _) ?_
    rintro r rfl
    simp only [go_sem, Nat.reduceBEq]
    refine ⟨fun h6 => ?_, fun h6 => ?_⟩
    · rw [if_pos h6] at hcn
      simp only [go_sem, wrap_succ (k := j) (by omega), wrap_succ (k := countI b ((T.map (loadW b.parts)).take j) w n) (by omega)]
      refine ⟨⟨j + 1, hj2, trivial⟩, by simp only; omega, ?_⟩
      simp only [hcn]
      simp [Wk, wkT, wkL, look, AV.lo, AV.lo.loL]
    · rw [if_neg h6, Nat.add_zero] at hcn
      simp only [go_sem, wrap_succ (k := j) (by omega)]
      refine ⟨⟨j + 1, hj2, trivial⟩, by simp only; omega, ?_⟩
      simp only [hcn]
      simp [Wk, wkT, wkL, look, AV.lo, AV.lo.loL]
  · have hjn : j = (T.map (loadW b.parts)).length := by rw [List.length_map]; omega
    rw [hjn, List.take_length]
    unfold answerI at hR
    simp only [go_sem, List.length_map]
    refine ⟨fun h6 => retQ_two rfl rfl ?_, fun h6 => ⟨fun h7 => retQ_two rfl rfl ?_, fun h7 => retQ_two rfl rfl ?_⟩⟩
    · rw [← hR, if_pos (by omega)]
    · rw [← hR, if_neg (by omega), if_pos (by rw [List.length_map]; omega)]
    · rw [← hR, if_neg (by omega), if_neg (by rw [List.length_map]; omega)]
theorem lowest_sem (a b : Int) (ha : -1000000000 ≤ a ∧ a ≤ 1000000000) (hb : 1 ≤ b ∧ b ≤ 1000000000) : Sem1 76 [pi a, pi b] (.agg [pi (a.tdiv (Int.gcd a b)), pi (b.tdiv (Int.gcd a b))]) := by
  have hg : 0 < Int.gcd a b := Int.gcd_pos_of_ne_zero_right _ (by omega)
  have q1 : (a.tdiv (Int.gcd a b)).natAbs ≤ a.natAbs := by rw [Int.natAbs_tdiv]; exact Nat.div_le_self _ _
  have q2 : (b.tdiv (Int.gcd a b)).natAbs ≤ b.natAbs := by rw [Int.natAbs_tdiv]; exact Nat.div_le_self _ _
  have hm : maxI true a (-a) = (a.natAbs : Int) := by unfold maxI; simp; omega
  have hz : IntKind.i64.wrap (0 - a) = -a := by rw [wrap_id (by omega) (by omega)]; omega
  refine semC_of_exec' mixed Try.func76 (by kernel_rfl) (by kernel_rfl) ac76_ok 2 rfl (by decide) [(.cell 4 34)] (by kernel_rfl) ?_
  intro hr C hC hI
  unfold ac76
  simp only [go_sem, Nat.reduceBEq, hz, hm]
  refine ⟨{x : Int × Int // (0 ≤ x.1 ∧ x.1 ≤ 1000000000) ∧ (0 ≤ x.2 ∧ x.2 ≤ 1000000000) ∧ Int.gcd x.2 x.1 = Int.gcd a b}, fun x => ⟨[(5, .p (pi x.1.1)), (6, .p (pi x.1.2)), (4, .loc 0 0), (0, .p (pi a)), (1, .p (pi b))], [.cells [.p (pi 0), .p (pi 0)]], [], some [], 0⟩, fun x => x.1.2.toNat, ⟨((a.natAbs : Int), b), by simp only; refine ⟨by omega, by omega, ?_⟩; simp [Int.gcd, Nat.gcd_comm]⟩, by simp [Wk, wkT, wkL, look, AV.lo, AV.lo.loL], ?_⟩
  rintro ⟨⟨x, y⟩, h1, h2, h3⟩
  simp only at h1 h2 h3
  simp only [go_sem, Nat.reduceBEq]
  refine ⟨fun h5 => ?_, fun h5 => ?_⟩
  · have hmod : 0 ≤ x.tmod y ∧ x.tmod y < y := by
      rw [Int.tmod_eq_emod_of_nonneg h1.1]
      exact ⟨Int.emod_nonneg _ (by omega), Int.emod_lt_of_pos _ h5⟩
    simp only [go_sem, Nat.reduceBEq, bin_rem (k := .i64) (a := x) (b := y) (by omega)]
    refine ⟨⟨(y, x.tmod y), by simp only; omega, by simp only; omega, by simp only; rw [gcd_tmod h5 h1.1, h3]⟩, by simp only; omega, ?_⟩
    simp [Wk, wkT, wkL, look, AV.lo, AV.lo.loL]
  · have hx : y = 0 := by omega
    subst hx
    have hxg : x = (Int.gcd a b : Int) := by
      rw [← h3]
      have : Int.gcd 0 x = x.natAbs := by simp
      rw [this]
      omega
    subst hxg
    simp only [go_sem, Nat.reduceBEq, Nat.reduceAdd, Nat.reduceLeDiff, bin_quo (k := .i64) (a := a) (b := (Int.gcd a b : Int)) (by omega), bin_quo (k := .i64) (a := b) (b := (Int.gcd a b : Int)) (by omega), wrap_id (n := a.tdiv (Int.gcd a b)) (by omega) (by omega), wrap_id (n := b.tdiv (Int.gcd a b)) (by omega) (by omega), putCells]
    exact retQ_cell (n := some 2) (by kernel_rfl) rfl rfl
/-- The least raw fraction. -/
def rawS (b : SBook) (w n : Int) (p : Int × Int) (l : SLoad) : Int × Int := if topI b (seatB b l w n) * p.2 < p.1 * (seatB b l w n).w then (topI b (seatB b l w n), (seatB b l w n).w) else p
def redP (p : Int × Int) : Int × Int := (p.1.tdiv (Int.gcd p.1 p.2), p.2.tdiv (Int.gcd p.1 p.2))
theorem red_facts {p : Int × Int} (h : 1 ≤ p.2) : ∃ g : Int, 1 ≤ g ∧ (redP p).1 * g = p.1 ∧ (redP p).2 * g = p.2 := by
  have hg : 0 < Int.gcd p.1 p.2 := Int.gcd_pos_of_ne_zero_right _ (by omega)
  have d1 : ((Int.gcd p.1 p.2 : Nat) : Int) ∣ p.1 := Int.gcd_dvd_left ..
  have d2 : ((Int.gcd p.1 p.2 : Nat) : Int) ∣ p.2 := Int.gcd_dvd_right ..
  exact ⟨(Int.gcd p.1 p.2 : Int), by omega, tdiv_exact d1, tdiv_exact d2⟩
theorem less_red {p q : Int × Int} (hp : 1 ≤ p.2) (hq : 1 ≤ q.2) : (redP p).1 * (redP q).2 < (redP q).1 * (redP p).2 ↔ p.1 * q.2 < q.1 * p.2 := by
  obtain ⟨g, g1, g2, g3⟩ := red_facts hp
  obtain ⟨h, h1, h2, h3⟩ := red_facts hq
  rw [← g2, ← g3, ← h2, ← h3]
  generalize (redP p).1 = a
  generalize (redP p).2 = c
  generalize (redP q).1 = d
  generalize (redP q).2 = e
  have e1 : a * g * (e * h) = a * e * (g * h) := by grind
  have e2 : d * h * (c * g) = d * c * (g * h) := by grind
  rw [e1, e2]
  have hgh : 0 < g * h := Int.mul_pos (by omega) (by omega)
  exact ⟨fun hh => Int.mul_lt_mul_of_pos_right hh hgh, fun hh => Int.lt_of_mul_lt_mul_right hh (by omega)⟩
theorem raw_lm (b : SBook) (w n : Int) : ∀ (r : List SLoad) (p : Int × Int), 1 ≤ p.2 → (∀ l ∈ r, 1 ≤ (seatB b l w n).w) → 1 ≤ (r.foldl (rawS b w n) p).2 ∧ (r.foldl (fun s l => (true, offI s.1 s.2 (marginI b l w n))) (true, redP p)).2 = redP (r.foldl (rawS b w n) p)
  | [], p, hp, _ => ⟨hp, rfl⟩
  | l :: r, p, hp, hr => by
    have hl := hr l (List.mem_cons_self ..)
    have hm : marginI b l w n = redP (topI b (seatB b l w n), (seatB b l w n).w) := rfl
    have hstep : offI true (redP p) (marginI b l w n) = redP (rawS b w n p l) := by
      have hlr := less_red (p := (topI b (seatB b l w n), (seatB b l w n).w)) (q := p) hl hp
      unfold offI rawS lessI
      rw [hm]
      simp only [Bool.true_eq_false, false_or, decide_eq_true_eq]
      by_cases hx : topI b (seatB b l w n) * p.2 < p.1 * (seatB b l w n).w
      · rw [if_pos hx, if_pos (hlr.2 hx)]
      · rw [if_neg hx, if_neg (fun h => hx (hlr.1 h))]
    have hp2 : 1 ≤ (rawS b w n p l).2 := by unfold rawS; split <;> assumption
    simp only [List.foldl_cons, hstep]
    exact raw_lm b w n r _ hp2 fun x hx => hr x (List.mem_cons_of_mem _ hx)
theorem raw_least {b : SBook} {w n : Int} {l0 : SLoad} {r : List SLoad} (h : ∀ l ∈ l0 :: r, 1 ≤ (seatB b l w n).w) : 1 ≤ ((l0 :: r).foldl (rawS b w n) (topI b (seatB b l0 w n), (seatB b l0 w n).w)).2 ∧ (lmI b w n (l0 :: r)).2 = redP ((l0 :: r).foldl (rawS b w n) (topI b (seatB b l0 w n), (seatB b l0 w n).w)) := by
  have h0 : rawS b w n (topI b (seatB b l0 w n), (seatB b l0 w n).w) l0 = (topI b (seatB b l0 w n), (seatB b l0 w n).w) := by unfold rawS; simp
  simp only [List.foldl_cons, h0]
  exact raw_lm b w n r _ (h l0 (List.mem_cons_self ..)) fun l hl => h l (List.mem_cons_of_mem _ hl)
end Go.Proofs.Ytaejmbmkkdkliaa
namespace Go.Proofs.Ytaejmbmkkdkliaa
open Go.RowKit
def ac78 : AC := (AC.seq (AC.ops [(AOp.mk (some 3) (AK.box 10 (AX.t 0)) none 0 false true), (AOp.mk (some 6) (AK.mv (AX.c (PV.val (Value.bool false)))) none 1 false true)]) (AC.seq (AC.seq (AC.ops [(AOp.mk (some 7) (AK.mv (AX.c (PV.val (Value.int IntKind.i64 0)))) none 0 false true)]) (AC.block 0 (AC.loop (AC.seq (AC.seq (AC.ops [(AOp.mk (some 9) (AK.mv (AX.t 7)) none 0 false true), (AOp.mk (some 10) (AK.mv (AX.t 1)) none 1 false true), (AOp.mk (some 11) (AK.len (AX.t 10)) none 2 false true), (AOp.mk (some 12) (AK.bin false BinOp.lss (AX.t 9) (AX.t 11)) none 3 false true)]) (AC.cond (AX.t 12) AC.skip (AC.exit 0))) (AC.seq (AC.block 1 (AC.seq (AC.ops [(AOp.mk (some 15) (AK.fadr 7 (AX.t 3)) none 0 false true), (AOp.mk (some 16) (AK.ld none (AX.t 15)) none 1 false true), (AOp.mk (some 17) (AK.un UnOp.neg (AX.t 16)) none 2 false true), (AOp.mk (some 8) (AK.mv (AX.t 17)) none 3 false true)]) (AC.block 2 (AC.loop (AC.seq (AC.seq (AC.ops [(AOp.mk (some 18) (AK.mv (AX.t 8)) none 0 false true), (AOp.mk (some 19) (AK.fadr 7 (AX.t 3)) none 1 false true), (AOp.mk (some 20) (AK.ld none (AX.t 19)) none 2 false true), (AOp.mk (some 21) (AK.bin false BinOp.leq (AX.t 18) (AX.t 20)) none 3 false true)]) (AC.cond (AX.t 21) AC.skip (AC.exit 2))) (AC.seq (AC.block 3 (AC.seq (AC.ops [(AOp.mk (some 24) (AK.ld (some 10) (AX.t 3)) none 0 true false), (AOp.mk (some 25) (AK.mv (AX.t 1)) none 1 true false), (AOp.mk (some 26) (AK.mv (AX.t 7)) none 2 true false), (AOp.mk (some 27) (AK.iadrS 1 (AX.t 25) (AX.t 26)) none 3 true false), (AOp.mk (some 28) (AK.ld none (AX.t 27)) none 4 true false), (AOp.mk (some 29) (AK.mv (AX.t 2)) none 5 true false), (AOp.mk (some 30) (AK.mv (AX.t 8)) none 6 true false), (AOp.mk (some 31) (AK.call 73 [(AX.t 24), (AX.t 28), (AX.t 29), (AX.t 30)]) none 7 false false)]) (AC.cond (AX.t 31) (AC.seq (AC.ops [(AOp.mk (some 6) (AK.mv (AX.c (PV.val (Value.bool false)))) none 0 false true)]) AC.ret) AC.skip))) (AC.ops [(AOp.mk (some 22) (AK.mv (AX.t 8)) none 0 false true), (AOp.mk (some 23) (AK.bin false BinOp.add (AX.t 22) (AX.c (PV.val (Value.int IntKind.i64 1)))) none 1 false true), (AOp.mk (some 8) (AK.mv (AX.t 23)) none 2 false true)]))))))) (AC.ops [(AOp.mk (some 13) (AK.mv (AX.t 7)) none 0 false true), (AOp.mk (some 14) (AK.bin false BinOp.add (AX.t 13) (AX.c (PV.val (Value.int IntKind.i64 1)))) none 1 false true), (AOp.mk (some 7) (AK.mv (AX.t 14)) none 2 false true)])))))) (AC.seq (AC.ops [(AOp.mk (some 6) (AK.mv (AX.c (PV.val (Value.bool true)))) none 0 false true)]) AC.ret)))
theorem ac78_ok : cCode Try.prog (fun _ => false) Try.f78.ntmps (Try.f78.body.getD .skip) = some ac78 := by kernel_rfl
def ac26 : AC := (AC.seq (AC.ops [(AOp.mk (some 2) (AK.box 10 (AX.t 0)) none 0 false true), (AOp.mk (some 4) (AK.mv (AX.c (PV.val (Value.bool false)))) none 1 false true), (AOp.mk (some 5) (AK.mv (AX.c (PV.val (Value.int IntKind.i64 0)))) none 2 false true)]) (AC.seq (AC.ops [(AOp.mk (some 9) (AK.ld (some 10) (AX.t 2)) none 0 true false), (AOp.mk (some 10) (AK.ld (some 10) (AX.t 2)) none 1 true false), (AOp.mk (some 11) (AK.mv (AX.t 1)) none 2 true false), (AOp.mk (some 12) (AK.call 66 [(AX.t 10), (AX.t 11)]) none 3 false false), (AOp.mk (some 13) (AK.call 72 [(AX.t 9), (AX.t 12)]) none 4 false false), (AOp.mk (some 8) (AK.mv (AX.t 13)) none 5 true false), (AOp.mk (some 14) (AK.ext (AX.t 8) 0) none 6 true false), (AOp.mk (some 15) (AK.ext (AX.t 8) 1) none 7 true false), (AOp.mk (some 6) (AK.mv (AX.t 14)) none 8 true false), (AOp.mk (some 7) (AK.mv (AX.t 15)) none 9 true true)]) (AC.seq (AC.seq (AC.ops [(AOp.mk (some 16) (AK.mv (AX.t 7)) none 0 false true), (AOp.mk (some 17) (AK.bin false BinOp.neq (AX.t 16) (AX.c (PV.val (Value.int IntKind.i64 0)))) none 1 false true)]) (AC.cond (AX.t 17) (AC.seq (AC.ops [(AOp.mk (some 18) (AK.mv (AX.t 7)) none 0 false true), (AOp.mk (some 4) (AK.mv (AX.c (PV.val (Value.bool false)))) none 1 false true), (AOp.mk (some 5) (AK.mv (AX.t 18)) none 2 false true)]) AC.ret) AC.skip)) (AC.seq (AC.ops [(AOp.mk (some 19) (AK.ld (some 10) (AX.t 2)) none 0 false true), (AOp.mk (some 20) (AK.mv (AX.t 6)) none 1 false true), (AOp.mk (some 21) (AK.mv (AX.t 1)) none 2 false true), (AOp.mk (some 22) (AK.call 78 [(AX.t 19), (AX.t 20), (AX.t 21)]) none 3 false true), (AOp.mk (some 4) (AK.mv (AX.t 22)) none 4 false true), (AOp.mk (some 5) (AK.mv (AX.c (PV.val (Value.int IntKind.i64 0)))) none 5 false true)]) AC.ret))))
theorem ac26_ok : cCode Try.prog (fun _ => false) Try.f26.ntmps (Try.f26.body.getD .skip) = some ac26 := by kernel_rfl
def ac79 : AC := (AC.seq (AC.ops [(AOp.mk (some 2) (AK.box 10 (AX.t 0)) none 0 false true), (AOp.mk (some 4) (AK.mv (AX.c (PV.val (Value.int IntKind.i64 0)))) none 1 false true)]) (AC.seq (AC.seq (AC.ops [(AOp.mk (some 5) (AK.mv (AX.c (PV.val (Value.int IntKind.i64 1)))) none 0 false true)]) (AC.block 0 (AC.loop (AC.seq (AC.seq (AC.ops [(AOp.mk (some 6) (AK.mv (AX.t 5)) none 0 false true), (AOp.mk (some 7) (AK.fadr 8 (AX.t 2)) none 1 false true), (AOp.mk (some 8) (AK.ld none (AX.t 7)) none 2 false true), (AOp.mk (some 9) (AK.bin false BinOp.leq (AX.t 6) (AX.t 8)) none 3 false true)]) (AC.cond (AX.t 9) AC.skip (AC.exit 0))) (AC.seq (AC.block 1 (AC.seq (AC.ops [(AOp.mk (some 12) (AK.ld (some 10) (AX.t 2)) none 0 false true), (AOp.mk (some 13) (AK.mv (AX.t 1)) none 1 false true), (AOp.mk (some 14) (AK.mv (AX.t 5)) none 2 false true), (AOp.mk (some 15) (AK.call 78 [(AX.t 12), (AX.t 13), (AX.t 14)]) none 3 false true), (AOp.mk (some 16) (AK.un UnOp.not (AX.t 15)) none 4 false true)]) (AC.cond (AX.t 16) (AC.seq (AC.ops [(AOp.mk (some 17) (AK.mv (AX.t 5)) none 0 false true), (AOp.mk (some 4) (AK.mv (AX.t 17)) none 1 false true)]) AC.ret) AC.skip))) (AC.ops [(AOp.mk (some 10) (AK.mv (AX.t 5)) none 0 false true), (AOp.mk (some 11) (AK.bin false BinOp.add (AX.t 10) (AX.c (PV.val (Value.int IntKind.i64 1)))) none 1 false true), (AOp.mk (some 5) (AK.mv (AX.t 11)) none 2 false true)])))))) (AC.seq (AC.ops [(AOp.mk (some 4) (AK.mv (AX.c (PV.val (Value.int IntKind.i64 0)))) none 0 false true)]) AC.ret)))
theorem ac79_ok : cCode Try.prog (fun _ => false) Try.f79.ntmps (Try.f79.body.getD .skip) = some ac79 := by kernel_rfl
def ac28 : AC := (AC.seq (AC.ops [(AOp.mk (some 1) (AK.box 10 (AX.t 0)) none 0 false true), (AOp.mk (some 2) (AK.mv (AX.c (PV.val (Value.int IntKind.i64 0)))) none 1 false true), (AOp.mk (some 3) (AK.mv (AX.c (PV.val (Value.int IntKind.i64 0)))) none 2 false true)]) (AC.seq (AC.ops [(AOp.mk (some 8) (AK.ld (some 10) (AX.t 1)) none 0 false true), (AOp.mk (some 9) (AK.call 72 [(AX.t 8), (AX.c (PV.val (Value.bool true)))]) none 1 false true), (AOp.mk (some 7) (AK.mv (AX.t 9)) none 2 false true), (AOp.mk (some 10) (AK.ext (AX.t 7) 0) none 3 false true), (AOp.mk (some 11) (AK.ext (AX.t 7) 1) none 4 false true), (AOp.mk (some 4) (AK.mv (AX.t 10)) none 5 false true), (AOp.mk (some 5) (AK.mv (AX.t 11)) none 6 false true)]) (AC.seq (AC.seq (AC.ops [(AOp.mk (some 12) (AK.mv (AX.t 5)) none 0 false true), (AOp.mk (some 13) (AK.bin false BinOp.neq (AX.t 12) (AX.c (PV.val (Value.int IntKind.i64 0)))) none 1 false true)]) (AC.cond (AX.t 13) (AC.seq (AC.ops [(AOp.mk (some 14) (AK.mv (AX.t 5)) none 0 false true), (AOp.mk (some 2) (AK.mv (AX.c (PV.val (Value.int IntKind.i64 0)))) none 1 false true), (AOp.mk (some 3) (AK.mv (AX.t 14)) none 2 false true)]) AC.ret) AC.skip)) (AC.seq (AC.seq (AC.ops [(AOp.mk (some 15) (AK.ld (some 10) (AX.t 1)) none 0 false true), (AOp.mk (some 16) (AK.mv (AX.t 4)) none 1 false true), (AOp.mk (some 17) (AK.call 79 [(AX.t 15), (AX.t 16)]) none 2 false true), (AOp.mk (some 6) (AK.mv (AX.t 17)) none 3 false true)]) (AC.seq (AC.ops [(AOp.mk (some 18) (AK.mv (AX.t 6)) none 0 false true), (AOp.mk (some 19) (AK.bin false BinOp.gtr (AX.t 18) (AX.c (PV.val (Value.int IntKind.i64 0)))) none 1 false true)]) (AC.cond (AX.t 19) (AC.seq (AC.ops [(AOp.mk (some 20) (AK.mv (AX.t 6)) none 0 false true), (AOp.mk (some 2) (AK.mv (AX.t 20)) none 1 false true), (AOp.mk (some 3) (AK.mv (AX.c (PV.val (Value.int IntKind.i64 0)))) none 2 false true)]) AC.ret) AC.skip))) (AC.seq (AC.ops [(AOp.mk (some 2) (AK.mv (AX.c (PV.val (Value.int IntKind.i64 0)))) none 0 false true), (AOp.mk (some 3) (AK.mv (AX.c (PV.val (Value.int IntKind.i64 4)))) none 1 false true)]) AC.ret)))))
theorem ac28_ok : cCode Try.prog (fun _ => false) Try.f28.ntmps (Try.f28.body.getD .skip) = some ac28 := by kernel_rfl
def ac83 : AC := (AC.seq (AC.ops [(AOp.mk (some 4) (AK.box 10 (AX.t 0)) none 0 false true), (AOp.mk (some 8) (AK.mv (AX.c (PV.val (Value.bool false)))) none 1 false true)]) (AC.seq (AC.seq (AC.ops [(AOp.mk (some 9) (AK.mv (AX.c (PV.val (Value.int IntKind.i64 0)))) none 0 false true)]) (AC.block 0 (AC.loop (AC.seq (AC.seq (AC.ops [(AOp.mk (some 10) (AK.mv (AX.t 9)) none 0 false true), (AOp.mk (some 11) (AK.mv (AX.t 1)) none 1 false true), (AOp.mk (some 12) (AK.len (AX.t 11)) none 2 false true), (AOp.mk (some 13) (AK.bin false BinOp.lss (AX.t 10) (AX.t 12)) none 3 false true)]) (AC.cond (AX.t 13) AC.skip (AC.exit 0))) (AC.seq (AC.block 1 (AC.seq (AC.ops [(AOp.mk (some 16) (AK.ld (some 10) (AX.t 4)) none 0 true false), (AOp.mk (some 17) (AK.mv (AX.t 1)) none 1 true false), (AOp.mk (some 18) (AK.mv (AX.t 9)) none 2 true false), (AOp.mk (some 19) (AK.iadrS 1 (AX.t 17) (AX.t 18)) none 3 true false), (AOp.mk (some 20) (AK.ld none (AX.t 19)) none 4 true false), (AOp.mk (some 21) (AK.mv (AX.t 2)) none 5 true false), (AOp.mk (some 22) (AK.mv (AX.t 3)) none 6 true false), (AOp.mk (some 23) (AK.call 73 [(AX.t 16), (AX.t 20), (AX.t 21), (AX.t 22)]) none 7 false false)]) (AC.cond (AX.t 23) (AC.seq (AC.ops [(AOp.mk (some 8) (AK.mv (AX.c (PV.val (Value.bool false)))) none 0 false true)]) AC.ret) AC.skip))) (AC.ops [(AOp.mk (some 14) (AK.mv (AX.t 9)) none 0 false true), (AOp.mk (some 15) (AK.bin false BinOp.add (AX.t 14) (AX.c (PV.val (Value.int IntKind.i64 1)))) none 1 false true), (AOp.mk (some 9) (AK.mv (AX.t 15)) none 2 false true)])))))) (AC.seq (AC.ops [(AOp.mk (some 8) (AK.mv (AX.c (PV.val (Value.bool true)))) none 0 false true)]) AC.ret)))
theorem ac83_ok : cCode Try.prog (fun _ => false) Try.f83.ntmps (Try.f83.body.getD .skip) = some ac83 := by kernel_rfl
def ac30 : AC := (AC.seq (AC.ops [(AOp.mk (some 2) (AK.box 10 (AX.t 0)) none 0 false true), (AOp.mk (some 4) (AK.new (PV.agg [(PV.val (Value.int IntKind.i64 0)), (PV.val (Value.int IntKind.i64 0))])) none 1 false true), (AOp.mk (some 5) (AK.mv (AX.c (PV.val (Value.int IntKind.i64 0)))) none 2 false true)]) (AC.seq (AC.ops [(AOp.mk (some 10) (AK.ld (some 10) (AX.t 2)) none 0 true false), (AOp.mk (some 11) (AK.ld (some 10) (AX.t 2)) none 1 true false), (AOp.mk (some 12) (AK.mv (AX.t 1)) none 2 true false), (AOp.mk (some 13) (AK.call 66 [(AX.t 11), (AX.t 12)]) none 3 false false), (AOp.mk (some 14) (AK.call 72 [(AX.t 10), (AX.t 13)]) none 4 false false), (AOp.mk (some 9) (AK.mv (AX.t 14)) none 5 true false), (AOp.mk (some 15) (AK.ext (AX.t 9) 0) none 6 true false), (AOp.mk (some 16) (AK.ext (AX.t 9) 1) none 7 true false), (AOp.mk (some 6) (AK.mv (AX.t 15)) none 8 true false), (AOp.mk (some 7) (AK.mv (AX.t 16)) none 9 true true)]) (AC.seq (AC.seq (AC.ops [(AOp.mk (some 17) (AK.mv (AX.t 7)) none 0 false true), (AOp.mk (some 18) (AK.bin false BinOp.neq (AX.t 17) (AX.c (PV.val (Value.int IntKind.i64 0)))) none 1 false true)]) (AC.cond (AX.t 18) (AC.seq (AC.ops [(AOp.mk (some 19) (AK.build [(PV.val (Value.int IntKind.i64 0)), (PV.val (Value.int IntKind.i64 0))] []) none 0 false true), (AOp.mk (some 20) (AK.mv (AX.t 7)) none 1 false true), (AOp.mk none (AK.st 2 (AX.t 4) (AX.t 19)) none 2 false true), (AOp.mk (some 5) (AK.mv (AX.t 20)) none 3 false true)]) AC.ret) AC.skip)) (AC.seq (AC.seq (AC.ops [(AOp.mk (some 21) (AK.ld (some 10) (AX.t 2)) none 0 false true), (AOp.mk (some 22) (AK.mv (AX.t 6)) none 1 false true), (AOp.mk (some 23) (AK.mv (AX.t 1)) none 2 false true), (AOp.mk (some 24) (AK.call 83 [(AX.t 21), (AX.t 22), (AX.t 23), (AX.c (PV.val (Value.int IntKind.i64 0)))]) none 3 false true), (AOp.mk (some 25) (AK.un UnOp.not (AX.t 24)) none 4 false true)]) (AC.cond (AX.t 25) (AC.seq (AC.ops [(AOp.mk (some 26) (AK.build [(PV.val (Value.int IntKind.i64 0)), (PV.val (Value.int IntKind.i64 0))] []) none 0 false true), (AOp.mk none (AK.st 2 (AX.t 4) (AX.t 26)) none 1 false true), (AOp.mk (some 5) (AK.mv (AX.c (PV.val (Value.int IntKind.i64 4)))) none 2 false true)]) AC.ret) AC.skip)) (AC.seq (AC.ops [(AOp.mk (some 27) (AK.call 49 [(AX.c (PV.val (Value.int IntKind.i64 0)))]) none 0 false true), (AOp.mk (some 8) (AK.new (PV.agg [(PV.val (Value.int IntKind.i64 0)), (PV.val (Value.int IntKind.i64 0))])) none 1 false true), (AOp.mk none (AK.st 2 (AX.t 8) (AX.t 27)) none 2 false true)]) (AC.seq (AC.block 0 (AC.loop (AC.seq (AC.seq (AC.ops [(AOp.mk (some 28) (AK.fadr 0 (AX.t 8)) none 0 false true), (AOp.mk (some 29) (AK.ld none (AX.t 28)) none 1 false true), (AOp.mk (some 30) (AK.fadr 7 (AX.t 2)) none 2 false true), (AOp.mk (some 31) (AK.ld none (AX.t 30)) none 3 false true), (AOp.mk (some 32) (AK.un UnOp.neg (AX.t 31)) none 4 false true), (AOp.mk (some 33) (AK.bin false BinOp.gtr (AX.t 29) (AX.t 32)) none 5 false true), (AOp.mk (some 34) (AK.mv (AX.t 33)) none 6 false true), (AOp.mk (some 35) (AK.ld (some 10) (AX.t 2)) (some (34, true)) 7 false true), (AOp.mk (some 36) (AK.mv (AX.t 6)) (some (34, true)) 8 false true), (AOp.mk (some 37) (AK.mv (AX.t 1)) (some (34, true)) 9 false true), (AOp.mk (some 38) (AK.fadr 0 (AX.t 8)) (some (34, true)) 10 false true), (AOp.mk (some 39) (AK.ld none (AX.t 38)) (some (34, true)) 11 false true), (AOp.mk (some 40) (AK.bin false BinOp.sub (AX.t 39) (AX.c (PV.val (Value.int IntKind.i64 1)))) (some (34, true)) 12 false true), (AOp.mk (some 41) (AK.call 83 [(AX.t 35), (AX.t 36), (AX.t 37), (AX.t 40)]) (some (34, true)) 13 false true), (AOp.mk (some 42) (AK.pick (AX.t 34) (AX.t 41) (AX.c (PV.val (Value.bool false)))) none 14 false true)]) (AC.cond (AX.t 42) AC.skip (AC.exit 0))) (AC.block 1 (AC.ops [(AOp.mk (some 43) (AK.fadr 0 (AX.t 8)) none 0 false true), (AOp.mk (some 44) (AK.ld none (AX.t 43)) none 1 false true), (AOp.mk (some 45) (AK.bin false BinOp.sub (AX.t 44) (AX.c (PV.val (Value.int IntKind.i64 1)))) none 2 false true), (AOp.mk (some 46) (AK.fadr 0 (AX.t 8)) none 3 false true), (AOp.mk none (AK.st 1 (AX.t 46) (AX.t 45)) none 4 false true)]))))) (AC.seq (AC.block 2 (AC.loop (AC.seq (AC.seq (AC.ops [(AOp.mk (some 47) (AK.fadr 1 (AX.t 8)) none 0 false true), (AOp.mk (some 48) (AK.ld none (AX.t 47)) none 1 false true), (AOp.mk (some 49) (AK.fadr 7 (AX.t 2)) none 2 false true), (AOp.mk (some 50) (AK.ld none (AX.t 49)) none 3 false true), (AOp.mk (some 51) (AK.bin false BinOp.lss (AX.t 48) (AX.t 50)) none 4 false true), (AOp.mk (some 52) (AK.mv (AX.t 51)) none 5 false true), (AOp.mk (some 53) (AK.ld (some 10) (AX.t 2)) (some (52, true)) 6 false true), (AOp.mk (some 54) (AK.mv (AX.t 6)) (some (52, true)) 7 false true), (AOp.mk (some 55) (AK.mv (AX.t 1)) (some (52, true)) 8 false true), (AOp.mk (some 56) (AK.fadr 1 (AX.t 8)) (some (52, true)) 9 false true), (AOp.mk (some 57) (AK.ld none (AX.t 56)) (some (52, true)) 10 false true), (AOp.mk (some 58) (AK.bin false BinOp.add (AX.t 57) (AX.c (PV.val (Value.int IntKind.i64 1)))) (some (52, true)) 11 false true), (AOp.mk (some 59) (AK.call 83 [(AX.t 53), (AX.t 54), (AX.t 55), (AX.t 58)]) (some (52, true)) 12 false true), (AOp.mk (some 60) (AK.pick (AX.t 52) (AX.t 59) (AX.c (PV.val (Value.bool false)))) none 13 false true)]) (AC.cond (AX.t 60) AC.skip (AC.exit 2))) (AC.block 3 (AC.ops [(AOp.mk (some 61) (AK.fadr 1 (AX.t 8)) none 0 false true), (AOp.mk (some 62) (AK.ld none (AX.t 61)) none 1 false true), (AOp.mk (some 63) (AK.bin false BinOp.add (AX.t 62) (AX.c (PV.val (Value.int IntKind.i64 1)))) none 2 false true), (AOp.mk (some 64) (AK.fadr 1 (AX.t 8)) none 3 false true), (AOp.mk none (AK.st 1 (AX.t 64) (AX.t 63)) none 4 false true)]))))) (AC.seq (AC.ops [(AOp.mk (some 65) (AK.ld (some 2) (AX.t 8)) none 0 false true), (AOp.mk none (AK.st 2 (AX.t 4) (AX.t 65)) none 1 false true), (AOp.mk (some 5) (AK.mv (AX.c (PV.val (Value.int IntKind.i64 0)))) none 2 false true)]) AC.ret))))))))
theorem ac30_ok : cCode Try.prog (fun _ => false) Try.f30.ntmps (Try.f30.body.getD .skip) = some ac30 := by kernel_rfl
theorem rMargin_sem (k k2 : SK) (b : SBook) (w n : Int) : Sem1 23 [.agg (bookC k k2 b), pi w, pi n]
    (if errI b (childI b w n) = 0 then .tup [.agg [pi (lmI b w n (loadsI b)).2.1, pi (lmI b w n (loadsI b)).2.2], pi 0] else .tup [.agg [pi 0, pi 0], pi (errI b (childI b w n))]) := by
  rw [← err_childW]
  obtain ⟨R, hR⟩ : ∃ R, (if errI b (childW b w n) = 0 then PV.tup [.agg [pi (lmI b w n (loadsI b)).2.1, pi (lmI b w n (loadsI b)).2.2], pi 0] else .tup [.agg [pi 0, pi 0], pi (errI b (childW b w n))]) = R := ⟨_, rfl⟩
  obtain ⟨e, he⟩ : ∃ e, childW b w n = e := ⟨_, rfl⟩
  rw [hR]
  rw [he] at hR
  have hc := he
  unfold childW at hc
  have bad : errI b e ≠ 0 → PV.tup [.agg [pi 0, pi 0], pi (errI b e)] = R := fun hne => by rw [← hR, if_neg hne]
  refine semC_of_exec' mixed Try.func23 (by kernel_rfl) (by kernel_rfl) ac23_ok 3 rfl (by decide) [(.cell 6 34), (.tmp 7)] (by kernel_rfl) ?_
  intro hr C hC hI
  unfold ac23
  simp only [go_sem, Nat.reduceBEq, Nat.reduceAdd]
  refine call_pure2 hC (isWeight_sem ..) rfl (PVleL_refl _) ?_
  rintro r rfl
  simp only [go_sem, Nat.reduceBEq, Nat.reduceAdd]
  refine ⟨fun h1 => ?_, fun h1 => ?_⟩
  rotate_left
  · rw [decide_eq_false h1, Bool.false_and] at hc
    subst hc
    refine askC hC k k2 b false (fun hne => ?_) (fun h0 => absurd (errI_ok h0).2 (by decide))
    simp only [go_sem, Nat.reduceBEq, Nat.reduceAdd, putCells]
    exact ⟨fun _ => retQ_ct (show shapeN Try.prog 34 = some (some 2) by kernel_rfl) rfl rfl (bad hne), fun h => absurd h hne⟩
  rw [decide_eq_true h1, Bool.true_and] at hc
  refine call_pure2 hC (isLean_sem ..) rfl (PVleL_refl _) ?_
  rintro r rfl
  simp only [go_sem, Nat.reduceBEq]
  rw [hc]
  refine askC hC k k2 b e (fun hne => ?_) (fun h0 => ?_)
  · simp only [go_sem, Nat.reduceBEq, Nat.reduceAdd, putCells]
    exact ⟨fun _ => retQ_ct (show shapeN Try.prog 34 = some (some 2) by kernel_rfl) rfl rfl (bad hne), fun h => absurd h hne⟩
  rw [if_pos h0] at hR
  obtain ⟨ho, hk⟩ := errI_ok h0
  have hg := ok_rng ho
  have hls := refT_load ho
  have hlen := refT_len ho
  have hmok := refT_mok ho
  rw [hk, decide_eq_true_eq, wrap_id (n := 0 - b.lean) (by omega) (by omega)] at hc
  have hTne : truthL b ≠ [] := fun h => by
    unfold errI at h0
    rw [if_pos ho, hk, if_pos rfl, if_pos h] at h0
    cases h0
  have hrne : refT b ≠ [] := fun h => hTne ((refT_nil ho).1 h)
  have hsp := seat_pos (n := n) ho.fit h1.1
  have hok := loadsI_ok ho.fit
  rw [← hls] at hsp hok
  obtain ⟨T, hT⟩ : ∃ T, refT b = T := ⟨_, rfl⟩
  rw [hT] at hls hlen hmok hrne hsp hok ⊢
  rw [← hls] at hR
  match T, hrne with
  | t0 :: T', _ =>
  obtain ⟨T, hT2⟩ : ∃ T, t0 :: T' = T := ⟨_, rfl⟩
  have hraw := raw_least (b := b) (w := w) (n := n) (l0 := loadW b.parts t0) (r := T'.map (loadW b.parts)) (by simpa using hsp)
  rw [show loadW b.parts t0 :: T'.map (loadW b.parts) = T.map (loadW b.parts) by rw [← hT2]; rfl] at hraw
  have ht0 : T[0]? = some t0 := by rw [← hT2]; rfl
  rw [hT2] at hR hsp hok hmok hlen ⊢
  have h0l : 0 < T.length := by rw [← hT2]; simp
  have h00 : T[0] = t0 := by obtain ⟨_, h⟩ := List.getElem?_eq_some_iff.1 ht0; exact h
  have e0 : iadrS' 1 (.p (lls T)) (.p (pi 0)) = some (.p (.ptr [pis t0] 0)) := by
    have := lls_at (kd := .sh) h0l
    rw [h00] at this
    exact this
  have hsz : ∀ l ∈ T.map (loadW b.parts), (-1000000000 ≤ topI b (seatB b l w n) ∧ topI b (seatB b l w n) ≤ 1000000000) ∧ 1 ≤ (seatB b l w n).w ∧ (seatB b l w n).w ≤ 10000 := fun l hl => by
    have q := seat_ok (n := n) ho.fit.small (hok l hl) (w := w) (by omega) (by omega)
    have q2 := topI_b ho.fit.small q
    have q3 := hsp l hl
    have q4 := q.1
    omega
  have hsz0 := hsz (loadW b.parts t0) (List.mem_map.2 ⟨t0, List.mem_of_getElem? ht0, rfl⟩)
  obtain ⟨p0, hp0⟩ : ∃ p0, (topI b (seatB b (loadW b.parts t0) w n), (seatB b (loadW b.parts t0) w n).w) = p0 := ⟨_, rfl⟩
  have hp01 : topI b (seatB b (loadW b.parts t0) w n) = p0.1 := by rw [← hp0]
  have hp02 : (seatB b (loadW b.parts t0) w n).w = p0.2 := by rw [← hp0]
  rw [hp0] at hraw
  rw [hp01, hp02] at hsz0
  have hbest : ∀ (L : List SLoad), (∀ l ∈ L, l ∈ T.map (loadW b.parts)) → (-1000000000 ≤ (L.foldl (rawS b w n) p0).1 ∧ (L.foldl (rawS b w n) p0).1 ≤ 1000000000) ∧ 1 ≤ (L.foldl (rawS b w n) p0).2 ∧ (L.foldl (rawS b w n) p0).2 ≤ 10000 := fun L => by
    suffices H : ∀ (L : List SLoad) (p : Int × Int), ((-1000000000 ≤ p.1 ∧ p.1 ≤ 1000000000) ∧ 1 ≤ p.2 ∧ p.2 ≤ 10000) → (∀ l ∈ L, l ∈ T.map (loadW b.parts)) → (-1000000000 ≤ (L.foldl (rawS b w n) p).1 ∧ (L.foldl (rawS b w n) p).1 ≤ 1000000000) ∧ 1 ≤ (L.foldl (rawS b w n) p).2 ∧ (L.foldl (rawS b w n) p).2 ≤ 10000 from H L p0 hsz0
    intro L
    induction L with
    | nil => exact fun p hp _ => hp
    | cons l L ih =>
      intro p hp hL
      refine ih _ ?_ fun x hx => hL x (List.mem_cons_of_mem _ hx)
      have := hsz l (hL l (List.mem_cons_self ..))
      unfold rawS
      split
      · exact this
      · exact hp
  have hm0 := rmargin_sem k k2 (hmok t0 (List.mem_of_getElem? ht0)) (w := w) (n := n) (by omega) (by omega)
  rw [hp01, hp02] at hm0
  simp only [go_sem, Nat.reduceBEq, Nat.reduceAdd, e0]
  refine ⟨fun h => by (simp at h), fun _ => ?_⟩
  refine call_pure2 hC (hm0) rfl (PVleL_refl _) ?_
  rintro r rfl
  simp only [go_sem, Nat.reduceBEq]
  refine loop_nat T.length (fun _ => True) (fun (j : Nat) => ⟨[(12, .p (pi j)), (11, .p (pi (((T.map (loadW b.parts)).take j).foldl (rawS b w n) p0).2)), (10, .p (pi (((T.map (loadW b.parts)).take j).foldl (rawS b w n) p0).1)), (8, .p (lls T)), (3, .loc 0 0), (6, .loc 1 0), (1, .p (pi w)), (2, .p (pi n))], [.cells ((bookC k k2 b).map .p), .cells [.p (pi 0), .p (pi 0)]], [], some [], 0⟩) trivial (by simp [Wk, wkT, wkL, look, AV.lo, AV.lo.loL]) ?_
  rintro j ⟨hj, -⟩
  have hbj := hbest ((T.map (loadW b.parts)).take j) fun l hl => List.mem_of_mem_take hl
  have hnx : ∀ (h : j < T.length), ((T.map (loadW b.parts)).take (j + 1)).foldl (rawS b w n) p0 = rawS b w n (((T.map (loadW b.parts)).take j).foldl (rawS b w n) p0) (loadW b.parts T[j]) := fun h => by
    rw [foldl_take _ _ _ _ (by simpa using h), List.getElem_map]
  obtain ⟨B, hB⟩ : ∃ B, ((T.map (loadW b.parts)).take j).foldl (rawS b w n) p0 = B := ⟨_, rfl⟩
  rw [hB] at hbj hnx
  simp only [hB]
  simp only [go_sem, Nat.reduceBEq, Nat.reduceAdd, List.length_map]
  refine ⟨fun h5 => ?_, fun h5 => ?_⟩
  · have hj2 : j < T.length := by omega
    have hnx := hnx hj2
    have hszj := hsz (loadW b.parts T[j]) (List.mem_map.2 ⟨T[j], List.getElem_mem hj2, rfl⟩)
    have hmj := rmargin_sem k k2 (hmok _ (List.getElem_mem hj2)) (w := w) (n := n) (by omega) (by omega)
    have e := lls_at (kd := .sh) hj2
    rw [show rawS b w n B (loadW b.parts T[j]) = if topI b (seatB b (loadW b.parts T[j]) w n) * B.2 < B.1 * (seatB b (loadW b.parts T[j]) w n).w then (topI b (seatB b (loadW b.parts T[j]) w n), (seatB b (loadW b.parts T[j]) w n).w) else B from rfl] at hnx
    obtain ⟨X, hX⟩ : ∃ X, topI b (seatB b (loadW b.parts T[j]) w n) = X := ⟨_, rfl⟩
    obtain ⟨Y, hY⟩ : ∃ X, (seatB b (loadW b.parts T[j]) w n).w = X := ⟨_, rfl⟩
    rw [hX, hY] at hszj hmj hnx
    have q1 := mulb (a := X) (b := B.2) 1000000000 10000 (by omega) (by omega)
    have q2 := mulb (a := B.1) (b := Y) 1000000000 10000 (by omega) (by omega)
    simp only [go_sem, Nat.reduceBEq, e]
    refine call_pure2 hC (hmj) rfl (PVleL_refl _) ?_
    rintro r rfl
    simp only [go_sem, Nat.reduceBEq, wrap_id (n := X * B.2) (by omega) (by omega), wrap_id (n := B.1 * Y) (by omega) (by omega), wrap_succ (k := j) (by omega)]
    refine ⟨fun h6 => ?_, fun h6 => ?_⟩
    · rw [if_pos h6] at hnx
      refine ⟨⟨j + 1, hj2, trivial⟩, by simp only; omega, ?_⟩
      simp only [hnx]
      simp [Wk, wkT, wkL, look, AV.lo, AV.lo.loL]
    · rw [if_neg h6] at hnx
      refine ⟨⟨j + 1, hj2, trivial⟩, by simp only; omega, ?_⟩
      simp only [hnx]
      simp [Wk, wkT, wkL, look, AV.lo, AV.lo.loL]
  · have hjn : j = (T.map (loadW b.parts)).length := by rw [List.length_map]; omega
    rw [hjn, List.take_length] at hB
    rw [hB] at hraw
    rw [hraw.2] at hR
    refine call_pure2 hC (lowest_sem B.1 B.2 (by omega) (by omega)) rfl (PVleL_refl _) ?_
    rintro r rfl
    simp only [go_sem, Nat.reduceBEq, Nat.reduceAdd, putCells]
    exact retQ_ct (show shapeN Try.prog 34 = some (some 2) by kernel_rfl) rfl rfl hR
/-- Loads of lists of weights. -/
abbrev ldL (b : SBook) (T : List (List Int)) : List SLoad := T.map (loadW b.parts)
theorem holds_sem (k k2 : SK) {b : SBook} {T : List (List Int)} (hT : ∀ ws ∈ T, MOk b ws) (hTl : T.length ≤ 1000) (hl : 0 ≤ b.lean ∧ b.lean ≤ 12) {w : Int} (hw : 1 ≤ w ∧ w ≤ 60) : Sem1 78 [.agg (bookC k k2 b), lls T, pi w] (pb (safeI b (ldL b T) w)) := by
  have hz : IntKind.i64.wrap (0 - b.lean) = ((0 : Nat) : Int) - b.lean := by rw [wrap_id (by omega) (by omega)]; omega
  refine semC_of_exec' mixed Try.func78 (by kernel_rfl) (by kernel_rfl) ac78_ok 3 rfl (by decide) [(.tmp 6)] (by kernel_rfl) ?_
  intro hr C hC hI
  unfold ac78
  simp only [go_sem, Nat.reduceBEq, Nat.reduceAdd]
  refine loop_nat T.length (fun j => ∀ ws ∈ T.take j, ∀ n, -b.lean ≤ n → n ≤ b.lean → ¬ tipsI b (loadW b.parts ws) w n) (fun (j : Nat) => ⟨[(7, .p (pi j)), (3, .loc 0 0), (1, .p (lls T)), (2, .p (pi w))], [.cells ((bookC k k2 b).map .p)], [], some [], 0⟩) (by simp) (by simp [Wk, wkT, wkL, look, AV.lo, AV.lo.loL]) ?_
  rintro j ⟨hj, hok⟩
  simp only [go_sem, Nat.reduceBEq, List.length_map, hz]
  refine ⟨fun h5 => ?_, fun h5 => ?_⟩
  · have hj2 : j < T.length := by omega
    have e := lls_at (kd := .sh) hj2
    refine loop_nat (2 * b.lean + 1).toNat (fun i => ∀ q : Nat, q < i → ¬ tipsI b (loadW b.parts T[j]) w (q - b.lean)) (fun (i : Nat) => ⟨[(8, .p (pi (i - b.lean))), (7, .p (pi j)), (3, .loc 0 0), (1, .p (lls T)), (2, .p (pi w))], [.cells ((bookC k k2 b).map .p)], [], some [], 0⟩) (by simp) (by simp [Wk, wkT, wkL, look, AV.lo, AV.lo.loL]) ?_
    rintro i ⟨hi, hoi⟩
    obtain ⟨m, hm⟩ : ∃ m, (i : Int) - b.lean = m := ⟨_, rfl⟩
    have hnx : IntKind.i64.wrap (m + 1) = ((i + 1 : Nat) : Int) - b.lean := by rw [wrap_id (by omega) (by omega)]; omega
    simp only [hm]
    simp only [go_sem, Nat.reduceBEq, Nat.reduceAdd]
    refine ⟨fun h6 => ?_, fun h6 => ?_⟩
    · simp only [go_sem, Nat.reduceBEq, e]
      refine call_pure2 hC (rtips_sem k k2 (hT _ (List.getElem_mem hj2)) (w := w) (n := m) (by omega) (by omega)) rfl (PVleL_refl _) ?_
      rintro r rfl
      simp only [go_sem, Nat.reduceBEq, hnx]
      refine ⟨fun h7 => ?_, fun h7 => ?_⟩
      · refine retQ_one rfl (congrArg pb ?_)
        cases hs : safeI b (ldL b T) w
        · rfl
        · exact absurd h7 ((safeI_iff hl.1).1 hs m (by omega) (by omega) _ (List.mem_map.2 ⟨_, List.getElem_mem hj2, rfl⟩))
      · refine ⟨⟨i + 1, by omega, fun q hq => ?_⟩, by simp only; omega, by simp [Wk, wkT, wkL, look, AV.lo, AV.lo.loL]⟩
        rcases Nat.lt_or_ge q i with h | h
        · exact hoi q h
        · have : q = i := by omega
          subst this
          rw [hm]; exact h7
    · simp only [go_sem, wrap_succ (k := j) (by omega)]
      refine ⟨⟨j + 1, hj2, fun ws hws n h1 h2 => ?_⟩, by simp only; omega, by simp [Wk, wkT, wkL, look, AV.lo, AV.lo.loL]⟩
      rw [List.take_succ_eq_append_getElem hj2, List.mem_append, List.mem_singleton] at hws
      rcases hws with hws | rfl
      · exact hok ws hws n h1 h2
      · have := hoi (n + b.lean).toNat (by omega)
        rwa [show (((n + b.lean).toNat : Nat) : Int) - b.lean = n by omega] at this
  · have hjn : j = T.length := by omega
    subst hjn
    rw [List.take_length] at hok
    refine retQ_one rfl (congrArg pb ?_)
    symm
    rw [safeI_iff hl.1]
    intro n h1 h2 l hl'
    rw [List.mem_map] at hl'
    obtain ⟨ws, hws, rfl⟩ := hl'
    exact hok ws hws n h1 h2
def leastN (o : Option Nat) : Int := match o with | some j => j + 1 | none => 0
theorem rleast_sem (k k2 : SK) {b : SBook} {T : List (List Int)} (hT : ∀ ws ∈ T, MOk b ws) (hTl : T.length ≤ 1000) (hl : 0 ≤ b.lean ∧ b.lean ≤ 12) (hm : 1 ≤ b.limit ∧ b.limit ≤ 60) : Sem1 79 [.agg (bookC k k2 b), lls T] (pi (leastN (leastI b (ldL b T)))) := by
  refine semC_of_exec' mixed Try.func79 (by kernel_rfl) (by kernel_rfl) ac79_ok 2 rfl (by decide) [(.tmp 4)] (by kernel_rfl) ?_
  intro hr C hC hI
  unfold ac79
  simp only [go_sem, Nat.reduceBEq, Nat.reduceAdd]
  refine loop_nat b.limit.toNat (fun j => ∀ q : Nat, q < j → safeI b (ldL b T) (q + 1) = true) (fun (j : Nat) => ⟨[(5, .p (pi (j + 1))), (2, .loc 0 0), (1, .p (lls T))], [.cells ((bookC k k2 b).map .p)], [], some [], 0⟩) (by simp) (by simp [Wk, wkT, wkL, look, AV.lo, AV.lo.loL]) ?_
  rintro j ⟨hj, hok⟩
  have hnx : IntKind.i64.wrap ((j : Int) + 1 + 1) = ((j + 1 : Nat) : Int) + 1 := by rw [wrap_id (by omega) (by omega)]; omega
  simp only [go_sem, Nat.reduceBEq, Nat.reduceAdd]
  refine ⟨fun h5 => ?_, fun h5 => ?_⟩
  · have hj2 : j < b.limit.toNat := by omega
    refine call_pure2 hC (holds_sem k k2 hT hTl hl (w := (j : Int) + 1) (by omega)) rfl (PVleL_refl _) ?_
    rintro r rfl
    simp only [go_sem, Nat.reduceBEq]
    cases hs : safeI b (ldL b T) (j + 1)
    · simp only [go_sem, Nat.reduceBEq]
      refine retQ_one rfl ?_
      rw [leastI_some.2 ⟨hj2, hs, hok⟩]; rfl
    · simp only [go_sem, Nat.reduceBEq, hnx]
      refine ⟨⟨j + 1, hj2, fun q hq => ?_⟩, by simp only; omega, by simp [Wk, wkT, wkL, look, AV.lo, AV.lo.loL]⟩
      rcases Nat.lt_or_ge q j with h | h
      · exact hok q h
      · have : q = j := by omega
        subst this; exact hs
  · have hjn : j = b.limit.toNat := by omega
    refine retQ_one rfl ?_
    have : leastI b (ldL b T) = none := by
      unfold leastI
      rw [List.find?_eq_none]
      intro q hq
      rw [hok q (by rw [hjn]; exact List.mem_range.1 hq)]
      simp
    rw [this]; rfl
theorem never_sem (k k2 : SK) {b : SBook} {T : List (List Int)} (hT : ∀ ws ∈ T, MOk b ws) (hTl : T.length ≤ 1000) {w n : Int} (hw : 1 ≤ w ∧ w ≤ 60) (hn : -40 ≤ n ∧ n ≤ 40) : Sem1 83 [.agg (bookC k k2 b), lls T, pi w, pi n] (pb (decide (countI b (ldL b T) w n = 0))) := by
  refine semC_of_exec' mixed Try.func83 (by kernel_rfl) (by kernel_rfl) ac83_ok 4 rfl (by decide) [(.tmp 8)] (by kernel_rfl) ?_
  intro hr C hC hI
  unfold ac83
  simp only [go_sem, Nat.reduceBEq, Nat.reduceAdd]
  refine loop_nat T.length (fun j => ∀ ws ∈ T.take j, ¬ tipsI b (loadW b.parts ws) w n) (fun (j : Nat) => ⟨[(9, .p (pi j)), (4, .loc 0 0), (1, .p (lls T)), (2, .p (pi w)), (3, .p (pi n))], [.cells ((bookC k k2 b).map .p)], [], some [], 0⟩) (by simp) (by simp [Wk, wkT, wkL, look, AV.lo, AV.lo.loL]) ?_
  rintro j ⟨hj, hok⟩
  simp only [go_sem, Nat.reduceBEq, Nat.reduceAdd, List.length_map]
  refine ⟨fun h5 => ?_, fun h5 => ?_⟩
  · have hj2 : j < T.length := by omega
    simp only [go_sem, Nat.reduceBEq, lls_at (kd := .sh) hj2]
    refine call_pure2 hC (rtips_sem k k2 (hT _ (List.getElem_mem hj2)) (w := w) (n := n) (by omega) hn) rfl (PVleL_refl _) ?_
    rintro r rfl
    simp only [go_sem, Nat.reduceBEq, wrap_succ (k := j) (by omega)]
    refine ⟨fun h6 => ?_, fun h6 => ?_⟩
    · refine retQ_one rfl (congrArg pb ?_)
      symm
      rw [decide_eq_false_iff_not, count_zero]
      exact fun h => h _ (List.mem_map.2 ⟨_, List.getElem_mem hj2, rfl⟩) h6
    · refine ⟨⟨j + 1, hj2, fun ws hws => ?_⟩, by simp only; omega, by simp [Wk, wkT, wkL, look, AV.lo, AV.lo.loL]⟩
      rw [List.take_succ_eq_append_getElem hj2, List.mem_append, List.mem_singleton] at hws
      rcases hws with hws | rfl
      · exact hok ws hws
      · exact h6
  · have hjn : j = T.length := by omega
    subst hjn
    rw [List.take_length] at hok
    refine retQ_one rfl (congrArg pb ?_)
    symm
    rw [decide_eq_true_eq, count_zero]
    intro l hl
    rw [List.mem_map] at hl
    obtain ⟨ws, hws, rfl⟩ := hl
    exact hok ws hws
end Go.Proofs.Ytaejmbmkkdkliaa
