/- StandTrue. -/
import Derived.Test.YtgniamjempccmaaStr02
import Derived.Test.YtgniamjempccmaaStr03
namespace Go.Proofs.Ytgniamjempccmaa
open Go.RowKit
def ac94 : AC := (AC.seq (AC.ops [(AOp.mk (some 5) (AK.box 10 (AX.t 0)) none 0 false true), (AOp.mk (some 10) (AK.mv (AX.c (PV.val (Value.int IntKind.i64 0)))) none 1 false true)]) (AC.seq (AC.ops [(AOp.mk (some 12) (AK.fadr 2 (AX.t 5)) none 0 false true), (AOp.mk (some 13) (AK.ld none (AX.t 12)) none 1 false true), (AOp.mk (some 11) (AK.mv (AX.t 13)) none 2 false true)]) (AC.seq (AC.seq (AC.ops [(AOp.mk (some 14) (AK.mv (AX.t 4)) none 0 false true)]) (AC.cond (AX.t 14) (AC.ops [(AOp.mk (some 15) (AK.fadr 1 (AX.t 5)) none 0 false true), (AOp.mk (some 16) (AK.ld none (AX.t 15)) none 1 false true), (AOp.mk (some 17) (AK.mv (AX.t 2)) none 2 false true), (AOp.mk (some 18) (AK.un UnOp.neg (AX.t 17)) none 3 false true), (AOp.mk (some 11) (AK.mv (AX.t 16)) none 4 false true), (AOp.mk (some 2) (AK.mv (AX.t 18)) none 5 false true)]) AC.skip)) (AC.seq (AC.seq (AC.ops [(AOp.mk (some 19) (AK.fadr 0 (AX.t 5)) none 0 false true), (AOp.mk (some 20) (AK.ld none (AX.t 19)) none 1 false true), (AOp.mk (some 21) (AK.bin false BinOp.eql (AX.t 20) (AX.c (PV.val (Value.int IntKind.i64 0)))) none 2 false true)]) (AC.cond (AX.t 21) (AC.seq (AC.ops [(AOp.mk (some 22) (AK.mv (AX.t 1)) none 0 false true), (AOp.mk (some 23) (AK.mv (AX.t 11)) none 1 false true), (AOp.mk (some 24) (AK.mv (AX.t 2)) none 2 false true), (AOp.mk (some 25) (AK.bin false BinOp.add (AX.t 23) (AX.t 24)) none 3 false true), (AOp.mk (some 26) (AK.bin false BinOp.mul (AX.t 22) (AX.t 25)) none 4 false true), (AOp.mk (some 10) (AK.mv (AX.t 26)) none 5 false true)]) AC.ret) AC.skip)) (AC.seq (AC.ops [(AOp.mk (some 27) (AK.mv (AX.t 1)) none 0 false true), (AOp.mk (some 28) (AK.mv (AX.t 11)) none 1 false true), (AOp.mk (some 29) (AK.fadr 3 (AX.t 5)) none 2 false true), (AOp.mk (some 30) (AK.ld none (AX.t 29)) none 3 false true), (AOp.mk (some 31) (AK.mv (AX.t 3)) none 4 false true), (AOp.mk (some 32) (AK.bin false BinOp.sub (AX.t 30) (AX.t 31)) none 5 false true), (AOp.mk (some 33) (AK.bin false BinOp.mul (AX.t 28) (AX.t 32)) none 6 false true), (AOp.mk (some 34) (AK.fadr 3 (AX.t 5)) none 7 false true), (AOp.mk (some 35) (AK.ld none (AX.t 34)) none 8 false true), (AOp.mk (some 36) (AK.mv (AX.t 2)) none 9 false true), (AOp.mk (some 37) (AK.bin false BinOp.mul (AX.t 35) (AX.t 36)) none 10 false true), (AOp.mk (some 38) (AK.bin false BinOp.add (AX.t 33) (AX.t 37)) none 11 false true), (AOp.mk (some 39) (AK.bin false BinOp.mul (AX.t 27) (AX.t 38)) none 12 false true), (AOp.mk (some 10) (AK.mv (AX.t 39)) none 13 false true)]) AC.ret)))))
theorem ac94_ok : cCode Try.prog (fun _ => false) Try.f94.ntmps (Try.f94.body.getD .skip) = some ac94 := by kernel_rfl
def ac42 : AC := (AC.seq (AC.ops [(AOp.mk (some 4) (AK.box 10 (AX.t 0)) none 0 false true), (AOp.mk (some 8) (AK.mv (AX.c (PV.val (Value.int IntKind.i64 0)))) none 1 false true), (AOp.mk (some 9) (AK.mv (AX.c (PV.val (Value.int IntKind.i64 0)))) none 2 false true)]) (AC.seq (AC.ops [(AOp.mk (some 15) (AK.mv (AX.t 2)) none 0 false true), (AOp.mk (some 10) (AK.mv (AX.t 15)) none 1 false true)]) (AC.seq (AC.ops [(AOp.mk (some 16) (AK.ld (some 10) (AX.t 4)) none 0 true false), (AOp.mk (some 17) (AK.mv (AX.t 2)) none 1 true false), (AOp.mk (some 18) (AK.fadr 5 (AX.t 4)) none 2 true false), (AOp.mk (some 19) (AK.ld none (AX.t 18)) none 3 true false), (AOp.mk (some 20) (AK.mv (AX.t 3)) none 4 true false), (AOp.mk (some 21) (AK.bin false BinOp.add (AX.t 19) (AX.t 20)) none 5 true false), (AOp.mk (some 22) (AK.fadr 6 (AX.t 4)) none 6 true false), (AOp.mk (some 23) (AK.ld none (AX.t 22)) none 7 true false), (AOp.mk (some 25) (AK.ld (some 10) (AX.t 4)) none 9 true false), (AOp.mk (some 26) (AK.mv (AX.t 2)) none 10 true false), (AOp.mk (some 27) (AK.fadr 5 (AX.t 4)) none 11 true false), (AOp.mk (some 28) (AK.ld none (AX.t 27)) none 12 true false), (AOp.mk (some 29) (AK.mv (AX.t 3)) none 13 true false), (AOp.mk (some 30) (AK.bin false BinOp.add (AX.t 28) (AX.t 29)) none 14 true false), (AOp.mk (some 31) (AK.fadr 6 (AX.t 4)) none 15 true false), (AOp.mk (some 32) (AK.ld none (AX.t 31)) none 16 true false), (AOp.mk (some 24) (AK.call 94 [(AX.t 16), (AX.t 17), (AX.t 21), (AX.t 23), (AX.c (PV.val (Value.bool false)))]) none 8 false false), (AOp.mk (some 33) (AK.call 94 [(AX.t 25), (AX.t 26), (AX.t 30), (AX.t 32), (AX.c (PV.val (Value.bool true)))]) none 17 false false), (AOp.mk (some 11) (AK.mv (AX.t 24)) none 18 true false), (AOp.mk (some 12) (AK.mv (AX.t 33)) none 19 true true)]) (AC.seq (AC.seq (AC.ops [(AOp.mk (some 13) (AK.mv (AX.c (PV.val (Value.int IntKind.i64 0)))) none 0 false true)]) (AC.block 0 (AC.loop (AC.seq (AC.seq (AC.ops [(AOp.mk (some 34) (AK.mv (AX.t 13)) none 0 false true), (AOp.mk (some 35) (AK.mv (AX.t 1)) none 1 false true), (AOp.mk (some 36) (AK.len (AX.t 35)) none 2 false true), (AOp.mk (some 37) (AK.bin false BinOp.lss (AX.t 34) (AX.t 36)) none 3 false true)]) (AC.cond (AX.t 37) AC.skip (AC.exit 0))) (AC.seq (AC.block 1 (AC.seq (AC.ops [(AOp.mk (some 40) (AK.fadr 4 (AX.t 4)) none 0 false true), (AOp.mk (some 41) (AK.ld none (AX.t 40)) none 1 false true), (AOp.mk (some 42) (AK.mv (AX.t 13)) none 2 false true), (AOp.mk (some 43) (AK.iadrS 4 (AX.t 41) (AX.t 42)) none 3 false true), (AOp.mk (some 44) (AK.ld (some 4) (AX.t 43)) none 4 false true), (AOp.mk (some 14) (AK.new (PV.agg [(PV.val (Value.int IntKind.i64 0)), (PV.val (Value.int IntKind.i64 0)), (PV.val (Value.int IntKind.i64 0)), (PV.val (Value.int IntKind.i64 0))])) none 5 false true), (AOp.mk none (AK.st 4 (AX.t 14) (AX.t 44)) none 6 false true)]) (AC.seq (AC.ops [(AOp.mk (some 45) (AK.mv (AX.t 10)) none 0 false true), (AOp.mk (some 46) (AK.mv (AX.t 1)) none 1 false true), (AOp.mk (some 47) (AK.mv (AX.t 13)) none 2 false true), (AOp.mk (some 48) (AK.iadrS 1 (AX.t 46) (AX.t 47)) none 3 false true), (AOp.mk (some 49) (AK.ld none (AX.t 48)) none 4 false true), (AOp.mk (some 50) (AK.bin false BinOp.add (AX.t 45) (AX.t 49)) none 5 false true), (AOp.mk (some 10) (AK.mv (AX.t 50)) none 6 false true)]) (AC.seq (AC.ops [(AOp.mk (some 51) (AK.mv (AX.t 11)) none 0 true false), (AOp.mk (some 52) (AK.ld (some 10) (AX.t 4)) none 1 true false), (AOp.mk (some 53) (AK.mv (AX.t 1)) none 2 true false), (AOp.mk (some 54) (AK.mv (AX.t 13)) none 3 true false), (AOp.mk (some 55) (AK.iadrS 1 (AX.t 53) (AX.t 54)) none 4 true false), (AOp.mk (some 56) (AK.ld none (AX.t 55)) none 5 true false), (AOp.mk (some 57) (AK.fadr 2 (AX.t 14)) none 6 true false), (AOp.mk (some 58) (AK.ld none (AX.t 57)) none 7 true false), (AOp.mk (some 59) (AK.fadr 3 (AX.t 14)) none 8 true false), (AOp.mk (some 60) (AK.ld none (AX.t 59)) none 9 true false), (AOp.mk (some 61) (AK.call 94 [(AX.t 52), (AX.t 56), (AX.t 58), (AX.t 60), (AX.c (PV.val (Value.bool false)))]) none 10 false false), (AOp.mk (some 62) (AK.bin false BinOp.add (AX.t 51) (AX.t 61)) none 11 true false), (AOp.mk (some 11) (AK.mv (AX.t 62)) none 12 true true)]) (AC.ops [(AOp.mk (some 63) (AK.mv (AX.t 12)) none 0 true false), (AOp.mk (some 64) (AK.ld (some 10) (AX.t 4)) none 1 true false), (AOp.mk (some 65) (AK.mv (AX.t 1)) none 2 true false), (AOp.mk (some 66) (AK.mv (AX.t 13)) none 3 true false), (AOp.mk (some 67) (AK.iadrS 1 (AX.t 65) (AX.t 66)) none 4 true false), (AOp.mk (some 68) (AK.ld none (AX.t 67)) none 5 true false), (AOp.mk (some 69) (AK.fadr 2 (AX.t 14)) none 6 true false), (AOp.mk (some 70) (AK.ld none (AX.t 69)) none 7 true false), (AOp.mk (some 71) (AK.fadr 3 (AX.t 14)) none 8 true false), (AOp.mk (some 72) (AK.ld none (AX.t 71)) none 9 true false), (AOp.mk (some 73) (AK.call 94 [(AX.t 64), (AX.t 68), (AX.t 70), (AX.t 72), (AX.c (PV.val (Value.bool true)))]) none 10 false false), (AOp.mk (some 74) (AK.bin false BinOp.add (AX.t 63) (AX.t 73)) none 11 true false), (AOp.mk (some 12) (AK.mv (AX.t 74)) none 12 true true)]))))) (AC.ops [(AOp.mk (some 38) (AK.mv (AX.t 13)) none 0 false true), (AOp.mk (some 39) (AK.bin false BinOp.add (AX.t 38) (AX.c (PV.val (Value.int IntKind.i64 1)))) none 1 false true), (AOp.mk (some 13) (AK.mv (AX.t 39)) none 2 false true)])))))) (AC.seq (AC.ops [(AOp.mk (some 75) (AK.mv (AX.t 11)) none 0 false true), (AOp.mk (some 76) (AK.mv (AX.t 12)) none 1 false true), (AOp.mk (some 77) (AK.mx false [(AX.t 75), (AX.t 76)]) none 2 false true), (AOp.mk (some 78) (AK.mv (AX.t 10)) none 3 false true), (AOp.mk (some 8) (AK.mv (AX.t 77)) none 4 false true), (AOp.mk (some 9) (AK.mv (AX.t 78)) none 5 false true)]) AC.ret)))))
theorem ac42_ok : cCode Try.prog (fun _ => false) Try.f42.ntmps (Try.f42.body.getD .skip) = some ac42 := by kernel_rfl
def ac39 : AC := (AC.seq (AC.ops [(AOp.mk (some 2) (AK.box 10 (AX.t 0)) none 0 false true), (AOp.mk (some 4) (AK.mv (AX.c (PV.sl SK.full 0 []))) none 1 false true)]) (AC.seq (AC.ops [(AOp.mk (some 5) (AK.mv (AX.c (PV.sl SK.full 0 []))) none 0 false true)]) (AC.seq (AC.seq (AC.ops [(AOp.mk (some 6) (AK.mv (AX.c (PV.val (Value.int IntKind.i64 0)))) none 0 false true)]) (AC.block 0 (AC.loop (AC.seq (AC.seq (AC.ops [(AOp.mk (some 7) (AK.mv (AX.t 6)) none 0 false true), (AOp.mk (some 8) (AK.fadr 4 (AX.t 2)) none 1 false true), (AOp.mk (some 9) (AK.ld none (AX.t 8)) none 2 false true), (AOp.mk (some 10) (AK.len (AX.t 9)) none 3 false true), (AOp.mk (some 11) (AK.bin false BinOp.lss (AX.t 7) (AX.t 10)) none 4 false true)]) (AC.cond (AX.t 11) AC.skip (AC.exit 0))) (AC.seq (AC.block 1 (AC.ops [(AOp.mk (some 14) (AK.mv (AX.t 5)) none 0 true false), (AOp.mk (some 15) (AK.fadr 4 (AX.t 2)) none 1 true false), (AOp.mk (some 16) (AK.ld none (AX.t 15)) none 2 true false), (AOp.mk (some 17) (AK.mv (AX.t 6)) none 3 true false), (AOp.mk (some 18) (AK.iadrS 4 (AX.t 16) (AX.t 17)) none 4 true false), (AOp.mk (some 19) (AK.fadr 0 (AX.t 18)) none 5 true false), (AOp.mk (some 20) (AK.ld (some 2) (AX.t 19)) none 6 true false), (AOp.mk (some 21) (AK.mv (AX.t 1)) none 7 true false), (AOp.mk (some 22) (AK.mv (AX.t 6)) none 8 true false), (AOp.mk (some 23) (AK.call 93 [(AX.t 21), (AX.t 22)]) none 9 false false), (AOp.mk (some 24) (AK.call 92 [(AX.t 20), (AX.t 23)]) none 10 false false), (AOp.mk (some 25) (AK.bslice false 3 1 1 [(PV.val (Value.int IntKind.i64 0))] [(0, (1, (AX.t 24)))]) none 11 false false), (AOp.mk (some 26) (AK.app false 3 1 8 [(PV.val (Value.int IntKind.i64 0))] (AX.t 14) (AX.t 25)) none 12 false false), (AOp.mk (some 5) (AK.mv (AX.t 26)) none 13 true true)])) (AC.ops [(AOp.mk (some 12) (AK.mv (AX.t 6)) none 0 false true), (AOp.mk (some 13) (AK.bin false BinOp.add (AX.t 12) (AX.c (PV.val (Value.int IntKind.i64 1)))) none 1 false true), (AOp.mk (some 6) (AK.mv (AX.t 13)) none 2 false true)])))))) (AC.seq (AC.ops [(AOp.mk (some 27) (AK.mv (AX.t 5)) none 0 false true), (AOp.mk (some 4) (AK.mv (AX.t 27)) none 1 false true)]) AC.ret))))
theorem ac39_ok : cCode Try.prog (fun _ => false) Try.f39.ntmps (Try.f39.body.getD .skip) = some ac39 := by kernel_rfl
def ac40 : AC := (AC.seq (AC.ops [(AOp.mk (some 2) (AK.box 10 (AX.t 0)) none 0 false true), (AOp.mk (some 4) (AK.new (PV.agg [(PV.val (Value.int IntKind.i64 0)), (PV.val (Value.int IntKind.i64 0)), (PV.val (Value.int IntKind.i64 0)), (PV.val (Value.int IntKind.i64 0)), (PV.sl SK.full 0 []), (PV.val (Value.int IntKind.i64 0)), (PV.val (Value.int IntKind.i64 0)), (PV.val (Value.int IntKind.i64 0)), (PV.val (Value.int IntKind.i64 0)), (PV.sl SK.full 0 [])])) none 1 false true)]) (AC.seq (AC.ops [(AOp.mk (some 10) (AK.ld (some 10) (AX.t 2)) none 0 false true), (AOp.mk (some 5) (AK.new (PV.agg [(PV.val (Value.int IntKind.i64 0)), (PV.val (Value.int IntKind.i64 0)), (PV.val (Value.int IntKind.i64 0)), (PV.val (Value.int IntKind.i64 0)), (PV.sl SK.full 0 []), (PV.val (Value.int IntKind.i64 0)), (PV.val (Value.int IntKind.i64 0)), (PV.val (Value.int IntKind.i64 0)), (PV.val (Value.int IntKind.i64 0)), (PV.sl SK.full 0 [])])) none 1 false true), (AOp.mk none (AK.st 10 (AX.t 5) (AX.t 10)) none 2 false true)]) (AC.seq (AC.ops [(AOp.mk (some 11) (AK.fadr 9 (AX.t 5)) none 0 false true), (AOp.mk none (AK.st 1 (AX.t 11) (AX.c (PV.sl SK.full 0 []))) none 1 false true)]) (AC.seq (AC.seq (AC.ops [(AOp.mk (some 6) (AK.mv (AX.c (PV.val (Value.int IntKind.i64 0)))) none 0 false true)]) (AC.block 0 (AC.loop (AC.seq (AC.seq (AC.ops [(AOp.mk (some 12) (AK.mv (AX.t 6)) none 0 false true), (AOp.mk (some 13) (AK.fadr 9 (AX.t 2)) none 1 false true), (AOp.mk (some 14) (AK.ld none (AX.t 13)) none 2 false true), (AOp.mk (some 15) (AK.len (AX.t 14)) none 3 false true), (AOp.mk (some 16) (AK.bin false BinOp.lss (AX.t 12) (AX.t 15)) none 4 false true)]) (AC.cond (AX.t 16) AC.skip (AC.exit 0))) (AC.seq (AC.block 1 (AC.seq (AC.ops [(AOp.mk (some 19) (AK.fadr 9 (AX.t 2)) none 0 false true), (AOp.mk (some 20) (AK.ld none (AX.t 19)) none 1 false true), (AOp.mk (some 21) (AK.mv (AX.t 6)) none 2 false true), (AOp.mk (some 22) (AK.iadrS 3 (AX.t 20) (AX.t 21)) none 3 false true), (AOp.mk (some 23) (AK.ld (some 3) (AX.t 22)) none 4 false true), (AOp.mk (some 7) (AK.new (PV.agg [(PV.val (Value.int IntKind.i64 0)), (PV.val (Value.int IntKind.i64 0)), (PV.val (Value.bool false))])) none 5 false true), (AOp.mk none (AK.st 3 (AX.t 7) (AX.t 23)) none 6 false true)]) (AC.seq (AC.ops [(AOp.mk (some 25) (AK.ld (some 10) (AX.t 2)) none 0 false true), (AOp.mk (some 26) (AK.mv (AX.t 1)) none 1 false true), (AOp.mk (some 27) (AK.fadr 0 (AX.t 7)) none 2 false true), (AOp.mk (some 28) (AK.ld none (AX.t 27)) none 3 false true), (AOp.mk (some 29) (AK.fadr 1 (AX.t 7)) none 4 false true), (AOp.mk (some 30) (AK.ld none (AX.t 29)) none 5 false true), (AOp.mk (some 31) (AK.call 42 [(AX.t 25), (AX.t 26), (AX.t 28), (AX.t 30)]) none 6 false true), (AOp.mk (some 24) (AK.mv (AX.t 31)) none 7 false true), (AOp.mk (some 32) (AK.ext (AX.t 24) 0) none 8 false true), (AOp.mk (some 33) (AK.ext (AX.t 24) 1) none 9 false true), (AOp.mk (some 8) (AK.mv (AX.t 32)) none 10 false true), (AOp.mk (some 9) (AK.mv (AX.t 33)) none 11 false true)]) (AC.seq (AC.ops [(AOp.mk (some 34) (AK.mv (AX.t 8)) none 0 false true), (AOp.mk (some 35) (AK.bin false BinOp.lss (AX.t 34) (AX.c (PV.val (Value.int IntKind.i64 0)))) none 1 false true), (AOp.mk (some 36) (AK.fadr 2 (AX.t 7)) none 2 false true), (AOp.mk none (AK.st 1 (AX.t 36) (AX.t 35)) none 3 false true)]) (AC.ops [(AOp.mk (some 37) (AK.fadr 9 (AX.t 5)) none 0 false true), (AOp.mk (some 38) (AK.ld none (AX.t 37)) none 1 false true), (AOp.mk (some 39) (AK.ld (some 3) (AX.t 7)) none 2 false true), (AOp.mk (some 40) (AK.bslice false 65 3 1 [(PV.val (Value.int IntKind.i64 0)), (PV.val (Value.int IntKind.i64 0)), (PV.val (Value.bool false))] [(0, (3, (AX.t 39)))]) none 3 false true), (AOp.mk (some 41) (AK.app false 65 3 24 [(PV.val (Value.int IntKind.i64 0)), (PV.val (Value.int IntKind.i64 0)), (PV.val (Value.bool false))] (AX.t 38) (AX.t 40)) none 4 false true), (AOp.mk (some 42) (AK.fadr 9 (AX.t 5)) none 5 false true), (AOp.mk none (AK.st 1 (AX.t 42) (AX.t 41)) none 6 false true)]))))) (AC.ops [(AOp.mk (some 17) (AK.mv (AX.t 6)) none 0 false true), (AOp.mk (some 18) (AK.bin false BinOp.add (AX.t 17) (AX.c (PV.val (Value.int IntKind.i64 1)))) none 1 false true), (AOp.mk (some 6) (AK.mv (AX.t 18)) none 2 false true)])))))) (AC.seq (AC.ops [(AOp.mk (some 43) (AK.ld (some 10) (AX.t 5)) none 0 false true), (AOp.mk none (AK.st 10 (AX.t 4) (AX.t 43)) none 1 false true)]) AC.ret)))))
theorem ac40_ok : cCode Try.prog (fun _ => false) Try.f40.ntmps (Try.f40.body.getD .skip) = some ac40 := by kernel_rfl
def ac6 : AC := (AC.seq (AC.ops [(AOp.mk (some 3) (AK.box 10 (AX.t 0)) none 0 false true), (AOp.mk (some 5) (AK.box 2 (AX.t 2)) none 1 false true), (AOp.mk (some 6) (AK.mv (AX.c (PV.val (Value.bool false)))) none 2 false true)]) (AC.seq (AC.seq (AC.ops [(AOp.mk (some 28) (AK.ld (some 10) (AX.t 3)) none 0 false true), (AOp.mk (some 29) (AK.call 38 [(AX.t 28)]) none 1 false true), (AOp.mk (some 30) (AK.un UnOp.not (AX.t 29)) none 2 false true)]) (AC.cond (AX.t 30) (AC.seq (AC.ops [(AOp.mk (some 31) (AK.call 24 []) none 0 false true), (AOp.mk (some 6) (AK.mv (AX.t 31)) none 1 false true)]) AC.ret) AC.skip)) (AC.seq (AC.ops [(AOp.mk (some 32) (AK.ld (some 10) (AX.t 3)) none 0 false true), (AOp.mk (some 33) (AK.mv (AX.t 1)) none 1 false true), (AOp.mk (some 34) (AK.call 39 [(AX.t 32), (AX.t 33)]) none 2 false true), (AOp.mk (some 7) (AK.mv (AX.t 34)) none 3 false true)]) (AC.seq (AC.ops [(AOp.mk (some 35) (AK.ld (some 10) (AX.t 3)) none 0 false true), (AOp.mk (some 36) (AK.mv (AX.t 7)) none 1 false true), (AOp.mk (some 37) (AK.call 40 [(AX.t 35), (AX.t 36)]) none 2 false true), (AOp.mk (some 8) (AK.new (PV.agg [(PV.val (Value.int IntKind.i64 0)), (PV.val (Value.int IntKind.i64 0)), (PV.val (Value.int IntKind.i64 0)), (PV.val (Value.int IntKind.i64 0)), (PV.sl SK.full 0 []), (PV.val (Value.int IntKind.i64 0)), (PV.val (Value.int IntKind.i64 0)), (PV.val (Value.int IntKind.i64 0)), (PV.val (Value.int IntKind.i64 0)), (PV.sl SK.full 0 [])])) none 3 false true), (AOp.mk none (AK.st 10 (AX.t 8) (AX.t 37)) none 4 false true)]) (AC.seq (AC.ops [(AOp.mk (some 38) (AK.iadrA 1 2 (AX.t 5) (AX.c (PV.val (Value.int IntKind.i64 0)))) none 0 true false), (AOp.mk (some 39) (AK.ld none (AX.t 38)) none 1 true false), (AOp.mk (some 40) (AK.fadr 8 (AX.t 3)) none 2 true false), (AOp.mk (some 41) (AK.ld none (AX.t 40)) none 3 true false), (AOp.mk (some 44) (AK.iadrA 1 2 (AX.t 5) (AX.c (PV.val (Value.int IntKind.i64 1)))) none 6 true false), (AOp.mk (some 45) (AK.ld none (AX.t 44)) none 7 true false), (AOp.mk (some 46) (AK.fadr 7 (AX.t 3)) none 8 true false), (AOp.mk (some 47) (AK.ld none (AX.t 46)) none 9 true false), (AOp.mk (some 48) (AK.bin false BinOp.mul (AX.c (PV.val (Value.int IntKind.i64 2))) (AX.t 47)) none 10 true false), (AOp.mk (some 49) (AK.bin false BinOp.add (AX.t 48) (AX.c (PV.val (Value.int IntKind.i64 1)))) none 11 true false), (AOp.mk (some 51) (AK.fadr 7 (AX.t 3)) none 13 true false), (AOp.mk (some 52) (AK.ld none (AX.t 51)) none 14 true false), (AOp.mk (some 42) (AK.call 41 [(AX.t 39), (AX.t 41)]) none 4 false false), (AOp.mk (some 43) (AK.bin false BinOp.add (AX.c (PV.val (Value.int IntKind.i64 1))) (AX.t 42)) none 5 true false), (AOp.mk (some 50) (AK.call 41 [(AX.t 45), (AX.t 49)]) none 12 false false), (AOp.mk (some 53) (AK.bin false BinOp.sub (AX.t 50) (AX.t 52)) none 15 true false), (AOp.mk (some 9) (AK.mv (AX.t 43)) none 16 true false), (AOp.mk (some 10) (AK.mv (AX.t 53)) none 17 true true)]) (AC.seq (AC.ops [(AOp.mk (some 55) (AK.ld (some 10) (AX.t 3)) none 0 false true), (AOp.mk (some 56) (AK.mv (AX.t 7)) none 1 false true), (AOp.mk (some 57) (AK.mv (AX.t 9)) none 2 false true), (AOp.mk (some 58) (AK.mv (AX.t 10)) none 3 false true), (AOp.mk (some 59) (AK.call 42 [(AX.t 55), (AX.t 56), (AX.t 57), (AX.t 58)]) none 4 false true), (AOp.mk (some 54) (AK.mv (AX.t 59)) none 5 false true), (AOp.mk (some 60) (AK.ext (AX.t 54) 0) none 6 false true), (AOp.mk (some 61) (AK.ext (AX.t 54) 1) none 7 false true), (AOp.mk (some 11) (AK.mv (AX.t 60)) none 8 false true), (AOp.mk (some 12) (AK.mv (AX.t 61)) none 9 false true)]) (AC.seq (AC.ops [(AOp.mk (some 63) (AK.ld (some 10) (AX.t 8)) none 0 false true), (AOp.mk (some 64) (AK.call 16 [(AX.t 63)]) none 1 false true), (AOp.mk (some 62) (AK.mv (AX.t 64)) none 2 false true), (AOp.mk (some 65) (AK.ext (AX.t 62) 0) none 3 false true), (AOp.mk (some 66) (AK.ext (AX.t 62) 1) none 4 false true), (AOp.mk (some 13) (AK.mv (AX.t 65)) none 5 false true), (AOp.mk (some 14) (AK.mv (AX.t 66)) none 6 false true)]) (AC.seq (AC.ops [(AOp.mk (some 68) (AK.ld (some 10) (AX.t 8)) none 0 false true), (AOp.mk (some 69) (AK.call 35 [(AX.t 68)]) none 1 false true), (AOp.mk (some 67) (AK.mv (AX.t 69)) none 2 false true), (AOp.mk (some 70) (AK.ext (AX.t 67) 0) none 3 false true), (AOp.mk (some 71) (AK.ext (AX.t 67) 1) none 4 false true), (AOp.mk (some 15) (AK.mv (AX.t 70)) none 5 false true), (AOp.mk (some 16) (AK.mv (AX.t 71)) none 6 false true)]) (AC.seq (AC.ops [(AOp.mk (some 73) (AK.ld (some 10) (AX.t 8)) none 0 false true), (AOp.mk (some 74) (AK.mv (AX.t 9)) none 1 false true), (AOp.mk (some 75) (AK.mv (AX.t 10)) none 2 false true), (AOp.mk (some 76) (AK.call 20 [(AX.t 73), (AX.t 74), (AX.t 75)]) none 3 false true), (AOp.mk (some 72) (AK.mv (AX.t 76)) none 4 false true), (AOp.mk (some 77) (AK.ext (AX.t 72) 0) none 5 false true), (AOp.mk (some 78) (AK.ext (AX.t 72) 1) none 6 false true), (AOp.mk (some 17) (AK.mv (AX.t 77)) none 7 false true), (AOp.mk (some 18) (AK.mv (AX.t 78)) none 8 false true)]) (AC.seq (AC.ops [(AOp.mk (some 80) (AK.ld (some 10) (AX.t 8)) none 0 false true), (AOp.mk (some 81) (AK.mv (AX.t 9)) none 1 false true), (AOp.mk (some 82) (AK.mv (AX.t 10)) none 2 false true), (AOp.mk (some 83) (AK.call 22 [(AX.t 80), (AX.t 81), (AX.t 82)]) none 3 false true), (AOp.mk (some 79) (AK.mv (AX.t 83)) none 4 false true), (AOp.mk (some 84) (AK.ext (AX.t 79) 0) none 5 false true), (AOp.mk (some 85) (AK.ext (AX.t 79) 1) none 6 false true), (AOp.mk (some 19) (AK.new (PV.agg [(PV.val (Value.int IntKind.i64 0)), (PV.val (Value.int IntKind.i64 0))])) none 7 false true), (AOp.mk none (AK.st 2 (AX.t 19) (AX.t 84)) none 8 false true), (AOp.mk (some 20) (AK.mv (AX.t 85)) none 9 false true)]) (AC.seq (AC.ops [(AOp.mk (some 87) (AK.ld (some 10) (AX.t 8)) none 0 false true), (AOp.mk (some 88) (AK.mv (AX.t 9)) none 1 false true), (AOp.mk (some 89) (AK.call 25 [(AX.t 87), (AX.t 88)]) none 2 false true), (AOp.mk (some 86) (AK.mv (AX.t 89)) none 3 false true), (AOp.mk (some 90) (AK.ext (AX.t 86) 0) none 4 false true), (AOp.mk (some 91) (AK.ext (AX.t 86) 1) none 5 false true), (AOp.mk (some 21) (AK.mv (AX.t 90)) none 6 false true), (AOp.mk (some 22) (AK.mv (AX.t 91)) none 7 false true)]) (AC.seq (AC.ops [(AOp.mk (some 93) (AK.ld (some 10) (AX.t 8)) none 0 false true), (AOp.mk (some 94) (AK.mv (AX.t 9)) none 1 false true), (AOp.mk (some 95) (AK.call 29 [(AX.t 93), (AX.t 94)]) none 2 false true), (AOp.mk (some 92) (AK.mv (AX.t 95)) none 3 false true), (AOp.mk (some 96) (AK.ext (AX.t 92) 0) none 4 false true), (AOp.mk (some 97) (AK.ext (AX.t 92) 1) none 5 false true), (AOp.mk (some 23) (AK.new (PV.agg [(PV.val (Value.int IntKind.i64 0)), (PV.val (Value.int IntKind.i64 0))])) none 6 false true), (AOp.mk none (AK.st 2 (AX.t 23) (AX.t 96)) none 7 false true), (AOp.mk (some 24) (AK.mv (AX.t 97)) none 8 false true)]) (AC.seq (AC.seq (AC.ops [(AOp.mk (some 98) (AK.mv (AX.t 14)) none 0 false true), (AOp.mk (some 99) (AK.bin false BinOp.neq (AX.t 98) (AX.c (PV.val (Value.int IntKind.i64 0)))) none 1 false true), (AOp.mk (some 100) (AK.mv (AX.t 99)) none 2 false true), (AOp.mk (some 101) (AK.mv (AX.t 16)) (some (100, false)) 3 false true), (AOp.mk (some 102) (AK.bin false BinOp.neq (AX.t 101) (AX.c (PV.val (Value.int IntKind.i64 0)))) (some (100, false)) 4 false true), (AOp.mk (some 103) (AK.pick (AX.t 100) (AX.c (PV.val (Value.bool true))) (AX.t 102)) none 5 false true), (AOp.mk (some 104) (AK.mv (AX.t 103)) none 6 false true), (AOp.mk (some 105) (AK.mv (AX.t 18)) (some (104, false)) 7 false true), (AOp.mk (some 106) (AK.bin false BinOp.neq (AX.t 105) (AX.c (PV.val (Value.int IntKind.i64 0)))) (some (104, false)) 8 false true), (AOp.mk (some 107) (AK.pick (AX.t 104) (AX.c (PV.val (Value.bool true))) (AX.t 106)) none 9 false true), (AOp.mk (some 108) (AK.mv (AX.t 107)) none 10 false true), (AOp.mk (some 109) (AK.mv (AX.t 20)) (some (108, false)) 11 false true), (AOp.mk (some 110) (AK.bin false BinOp.neq (AX.t 109) (AX.c (PV.val (Value.int IntKind.i64 0)))) (some (108, false)) 12 false true), (AOp.mk (some 111) (AK.pick (AX.t 108) (AX.c (PV.val (Value.bool true))) (AX.t 110)) none 13 false true), (AOp.mk (some 112) (AK.mv (AX.t 111)) none 14 false true), (AOp.mk (some 113) (AK.mv (AX.t 22)) (some (112, false)) 15 false true), (AOp.mk (some 114) (AK.bin false BinOp.neq (AX.t 113) (AX.c (PV.val (Value.int IntKind.i64 0)))) (some (112, false)) 16 false true), (AOp.mk (some 115) (AK.pick (AX.t 112) (AX.c (PV.val (Value.bool true))) (AX.t 114)) none 17 false true), (AOp.mk (some 116) (AK.mv (AX.t 115)) none 18 false true), (AOp.mk (some 117) (AK.mv (AX.t 24)) (some (116, false)) 19 false true), (AOp.mk (some 118) (AK.bin false BinOp.neq (AX.t 117) (AX.c (PV.val (Value.int IntKind.i64 0)))) (some (116, false)) 20 false true), (AOp.mk (some 119) (AK.mv (AX.t 118)) (some (116, false)) 21 false true), (AOp.mk (some 120) (AK.mv (AX.t 24)) (some (119, true)) 22 false true), (AOp.mk (some 121) (AK.bin false BinOp.neq (AX.t 120) (AX.c (PV.val (Value.int IntKind.i64 4)))) (some (119, true)) 23 false true), (AOp.mk (some 122) (AK.pick (AX.t 119) (AX.t 121) (AX.c (PV.val (Value.bool false)))) (some (116, false)) 24 false true), (AOp.mk (some 123) (AK.pick (AX.t 116) (AX.c (PV.val (Value.bool true))) (AX.t 122)) none 25 false true), (AOp.mk (some 124) (AK.mv (AX.t 123)) none 26 false true), (AOp.mk (some 125) (AK.mv (AX.t 13)) (some (124, false)) 27 false true), (AOp.mk (some 126) (AK.un UnOp.not (AX.t 125)) (some (124, false)) 28 false true), (AOp.mk (some 127) (AK.pick (AX.t 124) (AX.c (PV.val (Value.bool true))) (AX.t 126)) none 29 false true), (AOp.mk (some 128) (AK.mv (AX.t 127)) none 30 false true), (AOp.mk (some 129) (AK.mv (AX.t 15)) (some (128, false)) 31 false true), (AOp.mk (some 130) (AK.len (AX.t 129)) (some (128, false)) 32 false true), (AOp.mk (some 131) (AK.bin false BinOp.neq (AX.t 130) (AX.c (PV.val (Value.int IntKind.i64 0)))) (some (128, false)) 33 false true), (AOp.mk (some 132) (AK.pick (AX.t 128) (AX.c (PV.val (Value.bool true))) (AX.t 131)) none 34 false true), (AOp.mk (some 133) (AK.mv (AX.t 132)) none 35 false true), (AOp.mk (some 134) (AK.mv (AX.t 17)) (some (133, false)) 36 false true), (AOp.mk (some 135) (AK.call 43 [(AX.t 134), (AX.c (PV.val (Value.int IntKind.i64 0))), (AX.c (PV.val (Value.int IntKind.i64 2)))]) (some (133, false)) 37 false true), (AOp.mk (some 136) (AK.un UnOp.not (AX.t 135)) (some (133, false)) 38 false true), (AOp.mk (some 137) (AK.pick (AX.t 133) (AX.c (PV.val (Value.bool true))) (AX.t 136)) none 39 false true), (AOp.mk (some 138) (AK.mv (AX.t 137)) none 40 false true), (AOp.mk (some 139) (AK.fadr 1 (AX.t 19)) (some (138, false)) 41 false true), (AOp.mk (some 140) (AK.ld none (AX.t 139)) (some (138, false)) 42 false true), (AOp.mk (some 141) (AK.bin false BinOp.lss (AX.t 140) (AX.c (PV.val (Value.int IntKind.i64 1)))) (some (138, false)) 43 false true), (AOp.mk (some 142) (AK.pick (AX.t 138) (AX.c (PV.val (Value.bool true))) (AX.t 141)) none 44 false true)]) (AC.cond (AX.t 142) (AC.seq (AC.ops [(AOp.mk (some 6) (AK.mv (AX.c (PV.val (Value.bool false)))) none 0 false true)]) AC.ret) AC.skip)) (AC.seq (AC.seq (AC.ops [(AOp.mk (some 143) (AK.mv (AX.t 17)) none 0 false true), (AOp.mk (some 144) (AK.bin false BinOp.eql (AX.t 143) (AX.c (PV.val (Value.int IntKind.i64 0)))) none 1 false true), (AOp.mk (some 145) (AK.mv (AX.t 144)) none 2 false true), (AOp.mk (some 146) (AK.mv (AX.t 11)) (some (145, true)) 3 false true), (AOp.mk (some 147) (AK.bin false BinOp.lss (AX.t 146) (AX.c (PV.val (Value.int IntKind.i64 0)))) (some (145, true)) 4 false true), (AOp.mk (some 148) (AK.pick (AX.t 145) (AX.t 147) (AX.c (PV.val (Value.bool false)))) none 5 false true), (AOp.mk (some 149) (AK.mv (AX.t 148)) none 6 false true), (AOp.mk (some 150) (AK.mv (AX.t 17)) (some (149, false)) 7 false true), (AOp.mk (some 151) (AK.bin false BinOp.eql (AX.t 150) (AX.c (PV.val (Value.int IntKind.i64 2)))) (some (149, false)) 8 false true), (AOp.mk (some 152) (AK.mv (AX.t 151)) (some (149, false)) 9 false true), (AOp.mk (some 153) (AK.mv (AX.t 11)) (some (152, true)) 10 false true), (AOp.mk (some 154) (AK.bin false BinOp.geq (AX.t 153) (AX.c (PV.val (Value.int IntKind.i64 0)))) (some (152, true)) 11 false true), (AOp.mk (some 155) (AK.pick (AX.t 152) (AX.t 154) (AX.c (PV.val (Value.bool false)))) (some (149, false)) 12 false true), (AOp.mk (some 156) (AK.pick (AX.t 149) (AX.c (PV.val (Value.bool true))) (AX.t 155)) none 13 false true), (AOp.mk (some 157) (AK.mv (AX.t 156)) none 14 false true), (AOp.mk (some 158) (AK.fadr 0 (AX.t 19)) (some (157, false)) 15 false true), (AOp.mk (some 159) (AK.ld none (AX.t 158)) (some (157, false)) 16 false true), (AOp.mk (some 160) (AK.mv (AX.t 12)) (some (157, false)) 17 false true), (AOp.mk (some 161) (AK.bin false BinOp.mul (AX.t 159) (AX.t 160)) (some (157, false)) 18 false true), (AOp.mk (some 162) (AK.mv (AX.t 11)) (some (157, false)) 19 false true), (AOp.mk (some 163) (AK.fadr 1 (AX.t 19)) (some (157, false)) 20 false true), (AOp.mk (some 164) (AK.ld none (AX.t 163)) (some (157, false)) 21 false true), (AOp.mk (some 165) (AK.bin false BinOp.mul (AX.t 162) (AX.t 164)) (some (157, false)) 22 false true), (AOp.mk (some 166) (AK.bin false BinOp.gtr (AX.t 161) (AX.t 165)) (some (157, false)) 23 false true), (AOp.mk (some 167) (AK.pick (AX.t 157) (AX.c (PV.val (Value.bool true))) (AX.t 166)) none 24 false true)]) (AC.cond (AX.t 167) (AC.seq (AC.ops [(AOp.mk (some 6) (AK.mv (AX.c (PV.val (Value.bool false)))) none 0 false true)]) AC.ret) AC.skip)) (AC.seq (AC.seq (AC.ops [(AOp.mk (some 168) (AK.fadr 7 (AX.t 3)) none 0 false true), (AOp.mk (some 169) (AK.ld none (AX.t 168)) none 1 false true), (AOp.mk (some 170) (AK.un UnOp.neg (AX.t 169)) none 2 false true), (AOp.mk (some 25) (AK.mv (AX.t 170)) none 3 false true)]) (AC.block 0 (AC.loop (AC.seq (AC.seq (AC.ops [(AOp.mk (some 171) (AK.mv (AX.t 25)) none 0 false true), (AOp.mk (some 172) (AK.fadr 7 (AX.t 3)) none 1 false true), (AOp.mk (some 173) (AK.ld none (AX.t 172)) none 2 false true), (AOp.mk (some 174) (AK.bin false BinOp.leq (AX.t 171) (AX.t 173)) none 3 false true)]) (AC.cond (AX.t 174) AC.skip (AC.exit 0))) (AC.seq (AC.block 1 (AC.seq (AC.ops [(AOp.mk (some 178) (AK.ld (some 10) (AX.t 3)) none 0 false true), (AOp.mk (some 179) (AK.mv (AX.t 7)) none 1 false true), (AOp.mk (some 180) (AK.mv (AX.t 9)) none 2 false true), (AOp.mk (some 181) (AK.mv (AX.t 25)) none 3 false true), (AOp.mk (some 182) (AK.call 42 [(AX.t 178), (AX.t 179), (AX.t 180), (AX.t 181)]) none 4 false true), (AOp.mk (some 177) (AK.mv (AX.t 182)) none 5 false true), (AOp.mk (some 183) (AK.ext (AX.t 177) 0) none 6 false true), (AOp.mk (some 184) (AK.ext (AX.t 177) 1) none 7 false true), (AOp.mk (some 26) (AK.mv (AX.t 183)) none 8 false true), (AOp.mk (some 27) (AK.mv (AX.t 184)) none 9 false true)]) (AC.seq (AC.ops [(AOp.mk (some 185) (AK.mv (AX.t 26)) none 0 false true), (AOp.mk (some 186) (AK.bin false BinOp.lss (AX.t 185) (AX.c (PV.val (Value.int IntKind.i64 0)))) none 1 false true), (AOp.mk (some 187) (AK.mv (AX.t 186)) none 2 false true), (AOp.mk (some 188) (AK.mv (AX.t 21)) (some (187, true)) 3 false true), (AOp.mk (some 189) (AK.mv (AX.t 188)) (some (187, true)) 4 false true), (AOp.mk (some 190) (AK.mv (AX.t 24)) (some (189, false)) 5 false true), (AOp.mk (some 191) (AK.bin false BinOp.eql (AX.t 190) (AX.c (PV.val (Value.int IntKind.i64 0)))) (some (189, false)) 6 false true), (AOp.mk (some 192) (AK.mv (AX.t 191)) (some (189, false)) 7 false true), (AOp.mk (some 193) (AK.ld (some 2) (AX.t 23)) (some (192, true)) 8 false true), (AOp.mk (some 194) (AK.mv (AX.t 25)) (some (192, true)) 9 false true), (AOp.mk (some 195) (AK.call 44 [(AX.t 193), (AX.t 194)]) (some (192, true)) 10 false true), (AOp.mk (some 196) (AK.pick (AX.t 192) (AX.t 195) (AX.c (PV.val (Value.bool false)))) (some (189, false)) 11 false true), (AOp.mk (some 197) (AK.pick (AX.t 189) (AX.c (PV.val (Value.bool true))) (AX.t 196)) (some (187, true)) 12 false true), (AOp.mk (some 198) (AK.pick (AX.t 187) (AX.t 197) (AX.c (PV.val (Value.bool false)))) none 13 false true)]) (AC.cond (AX.t 198) (AC.seq (AC.ops [(AOp.mk (some 6) (AK.mv (AX.c (PV.val (Value.bool false)))) none 0 false true)]) AC.ret) AC.skip)))) (AC.ops [(AOp.mk (some 175) (AK.mv (AX.t 25)) none 0 false true), (AOp.mk (some 176) (AK.bin false BinOp.add (AX.t 175) (AX.c (PV.val (Value.int IntKind.i64 1)))) none 1 false true), (AOp.mk (some 25) (AK.mv (AX.t 176)) none 2 false true)])))))) (AC.seq (AC.ops [(AOp.mk (some 199) (AK.call 24 []) none 0 false true), (AOp.mk (some 6) (AK.mv (AX.t 199)) none 1 false true)]) AC.ret))))))))))))))))
theorem ac6_ok : cCode Try.prog (fun _ => false) Try.f6.ntmps (Try.f6.body.getD .skip) = some ac6 := by kernel_rfl
theorem unitT_b {b : SBook} (hb : small b) (back : Bool) {a h : Int} (ha : -100 ≤ a ∧ a ≤ 100) (hh : -100 ≤ h ∧ h ≤ 100) : -100000 ≤ unitT b back a h ∧ unitT b back a h ≤ 100000 := by
  obtain ⟨b1, b2, b3, b4, b5⟩ := hb
  have k1 := mulb (a := b.radius) (b := a) 200 100 (by omega) (by omega)
  have k2 := mulb (a := b.back) (b := b.radius - h) 100 300 (by omega) (by omega)
  have k3 := mulb (a := b.front) (b := b.radius - h) 100 300 (by omega) (by omega)
  unfold unitT
  split
  · cases back <;> simp only [Bool.false_eq_true, if_false, if_true] <;> omega
  · cases back <;> simp only [Bool.false_eq_true, if_false, if_true] <;> omega
theorem turn_sem (k k2 : SK) {b : SBook} (hb : small b) {w a h : Int} (fr : Bool) (hw : -1000 ≤ w ∧ w ≤ 1000) (ha : -100 ≤ a ∧ a ≤ 100) (hh : -100 ≤ h ∧ h ≤ 100) : Sem1 94 [.agg (bookC k k2 b), pi w, pi a, pi h, pb fr] (pi (w * unitT b (!fr) a h)) := by
  have hub := unitT_b hb (!fr) ha hh
  have kk := mulb (a := w) (b := unitT b (!fr) a h) 1000 100000 hw hub
  obtain ⟨b1, b2, b3, b4, b5⟩ := hb
  have k1 := mulb (a := b.radius) (b := a) 200 100 (by omega) (by omega)
  have k1' := mulb (a := b.radius) (b := -a) 200 100 (by omega) (by omega)
  have k2 := mulb (a := b.back) (b := b.radius - h) 100 300 (by omega) (by omega)
  have k3 := mulb (a := b.front) (b := b.radius - h) 100 300 (by omega) (by omega)
  have hz : IntKind.i64.wrap (0 - a) = -a := by rw [wrap_id (by omega) (by omega)]; omega
  obtain ⟨U, hU⟩ : ∃ U, unitT b (!fr) a h = U := ⟨_, rfl⟩
  rw [hU] at hub kk ⊢
  unfold unitT at hU
  cases fr
  · refine semC_of_exec' mixed Try.func94 (by kernel_rfl) (by kernel_rfl) ac94_ok 5 rfl (by decide) [(.tmp 10)] (by kernel_rfl) ?_
    intro hr C hC hI
    unfold ac94
    simp only [go_sem, Nat.reduceBEq, Nat.reduceAdd]
    by_cases hk : b.kind = 0
    · simp only [hk, Bool.not_false, if_true] at hU
      refine ⟨fun _ => ?_, fun h => absurd hk h⟩
      rw [wrap_id (n := b.back + a) (by omega) (by omega), hU, wrap_id (n := w * U) (by omega) (by omega)]
      exact retQ_one rfl rfl
    · simp only [hk, Bool.not_false, if_true, if_false] at hU
      refine ⟨fun h => absurd h hk, fun _ => ?_⟩
      rw [wrap_id (n := b.radius - h) (by omega) (by omega), wrap_id (n := b.back * (b.radius - h)) (by omega) (by omega), wrap_id (n := b.radius * a) (by omega) (by omega), wrap_id (n := b.back * (b.radius - h) + b.radius * a) (by omega) (by omega), hU, wrap_id (n := w * U) (by omega) (by omega)]
      exact retQ_one rfl rfl
  · refine semC_of_exec' mixed Try.func94 (by kernel_rfl) (by kernel_rfl) ac94_ok 5 rfl (by decide) [(.tmp 10)] (by kernel_rfl) ?_
    intro hr C hC hI
    unfold ac94
    simp only [go_sem, Nat.reduceBEq, Nat.reduceAdd, hz]
    by_cases hk : b.kind = 0
    · simp only [hk, Bool.not_true, Bool.false_eq_true, if_true, if_false] at hU
      refine ⟨fun _ => ?_, fun h => absurd hk h⟩
      rw [show b.front + -a = U by omega, wrap_id (n := U) (by omega) (by omega), wrap_id (n := w * U) (by omega) (by omega)]
      exact retQ_one rfl rfl
    · simp only [hk, Bool.not_true, Bool.false_eq_true, if_false] at hU
      refine ⟨fun h => absurd h hk, fun _ => ?_⟩
      have e : b.radius * -a = -(b.radius * a) := Int.mul_neg ..
      rw [wrap_id (n := b.radius - h) (by omega) (by omega), wrap_id (n := b.front * (b.radius - h)) (by omega) (by omega), wrap_id (n := b.radius * -a) (by omega) (by omega), show b.front * (b.radius - h) + b.radius * -a = U by omega, wrap_id (n := U) (by omega) (by omega), wrap_id (n := w * U) (by omega) (by omega)]
      exact retQ_one rfl rfl
theorem sideT_b {b : SBook} (hb : small b) (back : Bool) {l : SLoad} (hl : l.ok 10000) : -1000000000 ≤ sideT b back l ∧ sideT b back l ≤ 1000000000 := by
  obtain ⟨b1, b2, b3, b4, b5⟩ := hb
  obtain ⟨h1, h2, h3⟩ := hl
  have k1 := mulb (a := b.back) (b := l.w) 100 10000 (by omega) (by omega)
  have k2 := mulb (a := b.front) (b := l.w) 100 10000 (by omega) (by omega)
  have k3 := mulb (a := b.radius) (b := l.w) 200 10000 (by omega) (by omega)
  have k4 := mulb (a := b.radius) (b := l.a) 200 1000000 (by omega) (by omega)
  have k5 := mulb (a := b.back) (b := b.radius * l.w - l.h) 100 3000000 (by omega) (by omega)
  have k6 := mulb (a := b.front) (b := b.radius * l.w - l.h) 100 3000000 (by omega) (by omega)
  unfold sideT
  split
  · cases back <;> simp only [Bool.false_eq_true, if_false, if_true] <;> omega
  · cases back <;> simp only [Bool.false_eq_true, if_false, if_true] <;> omega
theorem sideT_zero (b : SBook) (back : Bool) : sideT b back ⟨0, 0, 0⟩ = 0 := by
  unfold sideT
  simp
theorem stays_sem (k k2 : SK) {b : SBook} (ho : okBook b) {ws : List Int} (hws : ws.length = b.parts.length) (hw : ∀ w ∈ ws, 0 ≤ w ∧ w ≤ 99) {w n : Int} (hwr : 1 ≤ w ∧ w ≤ 60) (hn : -12 ≤ n ∧ n ≤ 12) :
    Sem1 42 [.agg (bookC k k2 b), pis ws, pi w, pi n] (.tup [pi (topI b (seatB b (loadW b.parts ws) w n)), pi (seatB b (loadW b.parts ws) w n).w]) := by
  have hsm := ho.fit.small
  have hbs := hsm
  unfold small at hbs
  have hpl := ho.2.2.1
  have hu1 := unitT_b hsm true (a := b.along + n) (h := b.high) (by omega) (by omega)
  have hu2 := unitT_b hsm false (a := b.along + n) (h := b.high) (by omega) (by omega)
  have kk1 := mulb (a := w) (b := unitT b true (b.along + n) b.high) 60 100000 (by omega) hu1
  have kk2 := mulb (a := w) (b := unitT b false (b.along + n) b.high) 60 100000 (by omega) hu2
  have hT : topI b (seatB b (loadW b.parts ws) w n) = maxI false (w * unitT b true (b.along + n) b.high + sideT b true (loadW b.parts ws)) (w * unitT b false (b.along + n) b.high + sideT b false (loadW b.parts ws)) := by
    rw [topI_side, sideT_seat, sideT_seat, ← unitT_lean, ← unitT_lean]
    unfold maxI
    simp only [Bool.false_eq_true, if_false]
    split <;> omega
  have hS : (seatB b (loadW b.parts ws) w n).w = w + (loadW b.parts ws).w := by
    show (loadW b.parts ws).w + w = _
    omega
  rw [hT, hS]
  obtain ⟨B0, hB0⟩ : ∃ B0, w * unitT b true (b.along + n) b.high = B0 := ⟨_, rfl⟩
  obtain ⟨F0, hF0⟩ : ∃ F0, w * unitT b false (b.along + n) b.high = F0 := ⟨_, rfl⟩
  rw [hB0] at kk1 ⊢
  rw [hF0] at kk2 ⊢
  refine semC_of_exec' mixed Try.func42 (by kernel_rfl) (by kernel_rfl) ac42_ok 4 rfl (by decide) [(.tmp 8), (.tmp 9)] (by kernel_rfl) ?_
  intro hr C hC hI
  unfold ac42
  simp only [go_sem, Nat.reduceBEq, Nat.reduceAdd, wrap_id (n := b.along + n) (by omega) (by omega)]
  have ht1 := turn_sem k k2 hsm (w := w) (a := b.along + n) (h := b.high) false (by omega) (by omega) (by omega)
  have ht2 := turn_sem k k2 hsm (w := w) (a := b.along + n) (h := b.high) true (by omega) (by omega) (by omega)
  rw [Bool.not_false, hB0] at ht1
  rw [Bool.not_true, hF0] at ht2
  refine call_pure2 hC (ht1) rfl (PVleL_refl _) ?_
  rintro r rfl
  simp only [go_sem, Nat.reduceBEq]
  refine call_pure2 hC (ht2) rfl (PVleL_refl _) ?_
  rintro r rfl
  simp only [go_sem, Nat.reduceBEq]
  refine loop_nat b.parts.length (fun _ => True) (fun (j : Nat) => ⟨[(13, .p (pi j)), (12, .p (pi (F0 + sideT b false (loadW (b.parts.take j) ws)))), (11, .p (pi (B0 + sideT b true (loadW (b.parts.take j) ws)))), (10, .p (pi (w + (loadW (b.parts.take j) ws).w))), (4, .loc 0 0), (1, .p (pis ws))], [.cells ((bookC k k2 b).map .p)], [], some [], 0⟩) trivial (by simp [Wk, wkT, wkL, look, AV.lo, AV.lo.loL, loadW, sideT_zero]) ?_
  rintro j ⟨hj, -⟩
  have hok := loadW_ok b.parts ws ho.2.2.2.2.1 hw j hj (by omega)
  have s1 := sideT_b hsm true (ok_le hok (show 100 * j ≤ 10000 by omega))
  have s2 := sideT_b hsm false (ok_le hok (show 100 * j ≤ 10000 by omega))
  obtain ⟨hokw, -, -⟩ := hok
  simp only [go_sem, Nat.reduceBEq, List.length_map]
  refine ⟨fun h5 => ?_, fun h5 => ?_⟩
  · have hj2 : j < b.parts.length := by omega
    have hn1 := loadW_next b.parts ws j hj2 (by omega)
    have hwj := hw _ (List.getElem_mem (show j < ws.length by omega))
    have hp := ho.2.2.2.2.1 _ (List.getElem_mem hj2)
    have e1 := iadr_map (f := partC) (kd := k) (sz := 4) hj2
    have e2 := iadr_pis (kd := .sh) (l := ws) (show j < ws.length by omega)
    obtain ⟨P, hP⟩ : ∃ P, b.parts[j] = P := ⟨_, rfl⟩
    obtain ⟨W, hW⟩ : ∃ W, ws[j] = W := ⟨_, rfl⟩
    rw [hP] at hp e1
    rw [hW] at hwj e2
    rw [hP, hW] at hn1
    unfold okPart at hp
    obtain ⟨L, hL⟩ : ∃ L, loadW (b.parts.take j) ws = L := ⟨_, rfl⟩
    rw [hL] at hn1 s1 s2 hokw
    simp only [hL]
    have hv1 := unitT_b hsm true (a := P.along) (h := P.high) (by omega) (by omega)
    have hv2 := unitT_b hsm false (a := P.along) (h := P.high) (by omega) (by omega)
    have v1 := mulb (a := W) (b := unitT b true P.along P.high) 99 100000 (by omega) hv1
    have v2 := mulb (a := W) (b := unitT b false P.along P.high) 99 100000 (by omega) hv2
    have q1 := sideT_add b true L W P.along P.high
    have q2 := sideT_add b false L W P.along P.high
    have q3 : (L.add W P.along P.high).w = L.w + W := rfl
    rw [← hn1] at q1 q2 q3
    have ht3 := turn_sem k k2 hsm (w := W) (a := P.along) (h := P.high) false (by omega) (by omega) (by omega)
    have ht4 := turn_sem k k2 hsm (w := W) (a := P.along) (h := P.high) true (by omega) (by omega) (by omega)
    rw [Bool.not_false] at ht3
    rw [Bool.not_true] at ht4
    simp only [go_sem, Nat.reduceBEq, Nat.reduceAdd, e1, partC, putCells, e2]
    refine call_pure2 hC (ht3) rfl (PVleL_refl _) ?_
    rintro r rfl
    simp only [go_sem, Nat.reduceBEq, Nat.reduceAdd, e2, wrap_id (n := w + L.w + W) (by omega) (by omega)]
    refine call_pure2 hC (ht4) rfl (PVleL_refl _) ?_
    rintro r rfl
    simp only [go_sem, Nat.reduceBEq, wrap_succ (k := j) (by omega)]
    refine ⟨⟨j + 1, hj2, trivial⟩, by simp only; omega, ?_⟩
    simp only [q1, q2, q3]
    rw [wrap_id (n := B0 + sideT b true L + W * unitT b true P.along P.high) (by omega) (by omega), wrap_id (n := F0 + sideT b false L + W * unitT b false P.along P.high) (by omega) (by omega), Int.add_assoc, Int.add_assoc, Int.add_assoc]
    simp [Wk, wkT, wkL, look, AV.lo, AV.lo.loL]
  · have hjn : j = b.parts.length := by omega
    subst hjn
    simp only [List.take_length]
    exact retQ_two rfl rfl rfl
/-- The true weights, as numbers choose them. -/
def truL (b : SBook) (bits : List Int) : List Int := (List.range b.parts.length).map fun (i : Nat) => match b.parts[i]? with | some p => p.lo + rndI (takeL bits i) (p.hi - p.lo + 1) | none => 0
theorem truL_at {b : SBook} {bits : List Int} {i : Nat} {p : SPart} (h : b.parts[i]? = some p) : (truL b bits)[i]? = some (p.lo + rndI (takeL bits i) (p.hi - p.lo + 1)) := by
  have hi := (List.getElem?_eq_some_iff.1 h).1
  unfold truL
  rw [List.getElem?_map, List.getElem?_range hi]
  simp [h]
theorem truL_len (b : SBook) (bits : List Int) : (truL b bits).length = b.parts.length := by simp [truL]
theorem truL_rng {b : SBook} (ho : okBook b) (bits : List Int) {i : Nat} {p : SPart} (h : b.parts[i]? = some p) : ∃ w, (truL b bits)[i]? = some w ∧ p.lo ≤ w ∧ w ≤ p.hi := by
  refine ⟨_, truL_at h, ?_⟩
  have hp := ho.2.2.2.2.1 p (List.mem_of_getElem? h)
  unfold okPart at hp
  have := rndI_range (n := takeL bits i) (m := p.hi - p.lo + 1) (by omega)
  omega
theorem truL_ok {b : SBook} (ho : okBook b) (bits : List Int) : ∀ w ∈ truL b bits, 0 ≤ w ∧ w ≤ 99 := by
  intro w hw
  obtain ⟨i, hi⟩ := List.mem_iff_getElem?.1 hw
  have hlt := (List.getElem?_eq_some_iff.1 hi).1
  rw [truL_len] at hlt
  have hp := ho.2.2.2.2.1 _ (List.getElem_mem hlt)
  obtain ⟨w', h1, h2⟩ := truL_rng ho bits (List.getElem?_eq_getElem hlt)
  rw [hi] at h1
  cases h1
  unfold okPart at hp
  omega
theorem truly_sem (k k2 : SK) {b : SBook} (ho : okBook b) (bits : List Int) : Sem1 39 [.agg (bookC k k2 b), pis bits] (pis (truL b bits)) := by
  have hpl := ho.2.2.1
  have hlen := truL_len b bits
  have htk : (truL b bits).take b.parts.length = truL b bits := by rw [← hlen, List.take_length]
  refine semC_of_exec' mixed Try.func39 (by kernel_rfl) (by kernel_rfl) ac39_ok 2 rfl (by decide) [(.tmp 4)] (by kernel_rfl) ?_
  intro hr C hC hI
  unfold ac39
  simp only [go_sem, Nat.reduceBEq, Nat.reduceAdd]
  refine ⟨{x : Nat × Option Nat // x.1 ≤ b.parts.length ∧ (x.2 = none → (truL b bits).take x.1 = [])}, fun x => ⟨[(6, .p (pi x.1.1)), (5, .p (slN 3 x.1.2 ((truL b bits).take x.1.1))), (2, .loc 0 0), (1, .p (pis bits))], [.cells ((bookC k k2 b).map .p)], x.1.2.toList, some [], 0⟩, fun x => b.parts.length - x.1.1, ⟨(0, none), by simp, fun _ => rfl⟩, by simp [Wk, wkT, wkL, look, AV.lo, AV.lo.loL, slN], ?_⟩
  rintro ⟨⟨j, o⟩, hj, hoj⟩
  simp only at hj hoj
  simp only [go_sem, Nat.reduceBEq, List.length_map]
  refine ⟨fun h5 => ?_, fun h5 => ?_⟩
  · have hj2 : j < b.parts.length := by omega
    have hp := ho.2.2.2.2.1 _ (List.getElem_mem hj2)
    have e1 := iadr_map (f := partC) (kd := k) (sz := 4) hj2
    have hta := truL_at (bits := bits) (List.getElem?_eq_getElem hj2)
    obtain ⟨P, hP⟩ : ∃ P, b.parts[j] = P := ⟨_, rfl⟩
    rw [hP] at hp e1 hta
    unfold okPart at hp
    obtain ⟨W, hW⟩ : ∃ W, P.lo + rndI (takeL bits j) (P.hi - P.lo + 1) = W := ⟨_, rfl⟩
    rw [hW] at hta
    have hs : (truL b bits).take (j + 1) = (truL b bits).take j ++ [W] := by
      obtain ⟨h1, h2⟩ := List.getElem?_eq_some_iff.1 hta
      rw [List.take_succ_eq_append_getElem h1, h2]
    obtain ⟨L, hL⟩ : ∃ L, (truL b bits).take j = L := ⟨_, rfl⟩
    have hLl : L.length ≤ j := by rw [← hL, List.length_take]; omega
    rw [hL] at hs hoj
    simp only [hL]
    simp only [go_sem, Nat.reduceBEq, Nat.reduceAdd, Nat.reduceLeDiff, e1, partC]
    refine call_pure2 hC (Take_sem bits j) rfl (PVleL_refl _) ?_
    rintro r rfl
    simp only [go_sem, Nat.reduceBEq]
    refine call_pure2 hC (Any_sem (takeL bits j) (a := P.lo) (b := P.hi) (by omega) (by omega) (by omega)) rfl (PVleL_refl _) ?_
    rintro r rfl
    simp only [go_sem, Nat.reduceBEq, hW]
    cases o with
    | none =>
      rw [hoj rfl] at hs
      simp only [slN]
      simp only [go_sem, Nat.reduceBEq, Nat.reduceLeDiff, Nat.reduceEqDiff, wrap_succ (k := j) (by omega)]
      intro tk _
      refine ⟨⟨(j + 1, some tk), by simp only; omega, fun h => by cases h⟩, by simp only; omega, ?_⟩
      simp only [hs]
      simp [Wk, wkT, wkL, look, AV.lo, AV.lo.loL]
    | some tk =>
      simp only [slN]
      simp only [go_sem, Nat.reduceBEq, Nat.reduceLeDiff, wrap_succ (k := j) (by omega)]
      refine ⟨by rw [List.length_map]; omega, by simp, fun t2 _ => ?_⟩
      refine ⟨⟨(j + 1, some t2), by simp only; omega, fun h => by cases h⟩, by simp only; omega, ?_⟩
      simp only [hs]
      simp [Wk, wkT, wkL, look, AV.lo, AV.lo.loL]
  · have hjn : j = b.parts.length := by omega
    subst hjn
    simp only [htk] at hoj ⊢
    cases o with
    | none => rw [hoj rfl]; exact retQ_le rfl (PVle.nil .full 0 1) rfl
    | some tk => exact retQ_le rfl (PVle.sh _ _ _) rfl
/-- A book whose trials are right. -/
def rightT (b : SBook) (ws : List Int) (t : STrial) : STrial := ⟨t.weight, t.lean, decide (tipsI b (loadW b.parts ws) t.weight t.lean)⟩
def rightB (b : SBook) (ws : List Int) : SBook := { b with trials := b.trials.map (rightT b ws) }
theorem rightly_sem {b : SBook} (ho : okBook b) {ws : List Int} (hws : ws.length = b.parts.length) (hw : ∀ w ∈ ws, 0 ≤ w ∧ w ≤ 99) : Sem1 40 [.agg (bookC .sh .sh b), pis ws] (.agg (bookC .sh .sh (rightB b ws))) := by
  have htl := ho.2.2.2.1
  have hg := ok_rng ho
  refine semC_of_exec' mixed Try.func40 (by kernel_rfl) (by kernel_rfl) ac40_ok 2 rfl (by decide) [(.cell 4 25)] (by kernel_rfl) ?_
  intro hr C hC hI
  unfold ac40
  simp only [go_sem, Nat.reduceBEq, Nat.reduceAdd, putCells]
  refine ⟨{x : Nat × Option Nat // x.1 ≤ b.trials.length ∧ (x.2 = none → (b.trials.take x.1).map (rightT b ws) = [])}, fun x => ⟨[(6, .p (pi x.1.1)), (5, .loc 2 0), (4, .loc 1 0), (2, .loc 0 0), (1, .p (pis ws))], [.cells ((bookC .sh .sh b).map .p), .cells [.p (pi 0), .p (pi 0), .p (pi 0), .p (pi 0), .p (.sl .full 0 []), .p (pi 0), .p (pi 0), .p (pi 0), .p (pi 0), .p (.sl .full 0 [])], .cells [.p (pi b.kind), .p (pi b.front), .p (pi b.back), .p (pi b.radius), .p (.sl .sh 4 (b.parts.map partC)), .p (pi b.along), .p (pi b.high), .p (pi b.lean), .p (pi b.limit), .p (slT x.1.2 ((b.trials.take x.1.1).map (rightT b ws)))]], x.1.2.toList, some [], 0⟩, fun x => b.trials.length - x.1.1, ⟨(0, none), by simp, fun _ => rfl⟩, by simp [Wk, wkT, wkL, look, AV.lo, AV.lo.loL, slT], ?_⟩
  rintro ⟨⟨i, q⟩, hi, hqi⟩
  simp only at hi hqi
  simp only [go_sem, Nat.reduceBEq, Nat.reduceAdd, List.length_map]
  refine ⟨fun h5 => ?_, fun h5 => ?_⟩
  · have hi2 : i < b.trials.length := by omega
    have hs := map_take_succ (rightT b ws) b.trials i hi2
    have hp := ho.2.2.2.2.2 _ (List.getElem_mem hi2)
    have e := iadr_map (f := trialC) (kd := .sh) (sz := 3) hi2
    obtain ⟨P, hP⟩ : ∃ P, b.trials[i] = P := ⟨_, rfl⟩
    rw [hP] at hs hp e
    unfold okTrial at hp
    have hst := stays_sem .sh .sh ho hws hw (w := P.weight) (n := P.lean) (by omega) (by omega)
    obtain ⟨L, hL⟩ : ∃ L, (b.trials.take i).map (rightT b ws) = L := ⟨_, rfl⟩
    have hLl : L.length ≤ i := by rw [← hL, List.length_map, List.length_take]; omega
    rw [hL] at hs hqi
    simp only [hL]
    simp only [go_sem, Nat.reduceBEq, Nat.reduceAdd, e, trialC, putCells]
    refine call_pure2 hC (hst) rfl (PVleL_refl _) ?_
    rintro r rfl
    simp only [go_sem, Nat.reduceBEq, Nat.reduceAdd, putCells]
    have hR : rightT b ws P = ⟨P.weight, P.lean, decide (topI b (seatB b (loadW b.parts ws) P.weight P.lean) < 0)⟩ := rfl
    obtain ⟨T, hT⟩ : ∃ T, decide (topI b (seatB b (loadW b.parts ws) P.weight P.lean) < 0) = T := ⟨_, rfl⟩
    rw [hT] at hR ⊢
    cases q with
    | none =>
      rw [hqi rfl] at hs
      simp only [slT]
      simp only [go_sem, Nat.reduceBEq, Nat.reduceAdd, Nat.reduceLeDiff, Nat.reduceEqDiff, putCells, wrap_succ (k := i) (by omega)]
      intro tk _
      refine ⟨⟨(i + 1, some tk), by simp only; omega, fun h => by cases h⟩, by simp only; omega, ?_⟩
      simp only [hs, hR]
      simp [Wk, wkT, wkL, look, AV.lo, AV.lo.loL, trialC]
    | some tk =>
      simp only [slT]
      simp only [go_sem, Nat.reduceBEq, Nat.reduceAdd, Nat.reduceLeDiff, putCells, wrap_succ (k := i) (by omega)]
      refine ⟨by rw [List.length_map]; omega, by simp, fun t2 _ => ?_⟩
      refine ⟨⟨(i + 1, some t2), by simp only; omega, fun h => by cases h⟩, by simp only; omega, ?_⟩
      simp only [hs, hR]
      simp [Wk, wkT, wkL, look, AV.lo, AV.lo.loL, trialC]
  · have hin : i = b.trials.length := by omega
    subst hin
    simp only [List.take_length] at hqi ⊢
    cases q
    all_goals
      simp only [slT]
      refine retQ_cell_le (n := some 10) (by kernel_rfl) rfl ?_ rfl
    · exact PVle.agg ⟨PVle.refl _, PVle.refl _, PVle.refl _, PVle.refl _, PVle.refl _, PVle.refl _, PVle.refl _, PVle.refl _, PVle.refl _, slT_le none hqi, trivial⟩
    · exact PVle.agg ⟨PVle.refl _, PVle.refl _, PVle.refl _, PVle.refl _, PVle.refl _, PVle.refl _, PVle.refl _, PVle.refl _, PVle.refl _, PVle.sh _ _ _, trivial⟩
theorem right_ok {b : SBook} (ho : okBook b) (ws : List Int) : okBook (rightB b ws) := by
  obtain ⟨h1, h2, h3, h4, h5, h6⟩ := ho
  refine ⟨h1, h2, h3, by simpa [rightB] using h4, h5, fun t ht => ?_⟩
  unfold rightB at ht
  simp only [List.mem_map] at ht
  obtain ⟨u, hu, rfl⟩ := ht
  exact h6 u hu
theorem zip_pad {α β : Type} : ∀ (ps : List α) (ws xs : List β), ws.length = ps.length → ps.zip (ws ++ xs) = ps.zip ws
  | [], [], xs, _ => by simp
  | [], _ :: _, _, h => by simp at h
  | _ :: _, [], _, h => by simp at h
  | p :: ps, w :: ws, xs, h => by
    simp only [List.cons_append, List.zip_cons_cons, List.cons.injEq, true_and]
    exact zip_pad ps ws xs (by simpa using h)
theorem right_load {b : SBook} (ho : okBook b) (bits : List Int) : loadW b.parts (truL b bits) ∈ loadsI (rightB b (truL b bits)) := by
  have hl := truL_len b bits
  have hp := ho.2.2.1
  have e : loadW b.parts (truL b bits ++ List.replicate (4 - b.parts.length) 0) = loadW b.parts (truL b bits) := by
    unfold loadW
    rw [zip_pad _ _ _ hl]
  refine mem_loadsI.2 ⟨truL b bits ++ List.replicate (4 - b.parts.length) 0, mem_truthL.2 ⟨(mem_allW (b := rightB b (truL b bits)) (by show 0 < b.parts.length; omega) (by show b.parts.length ≤ 4; omega)).2 ⟨?_, ?_, ?_⟩, ?_⟩, e⟩
  · simp [hl]; omega
  · intro i hi hi2
    have hi : b.parts.length ≤ i := hi
    rw [List.getElem?_append_right (by omega), List.getElem?_replicate, if_pos (by omega)]
  · intro i p hpi
    have hpi : b.parts[i]? = some p := hpi
    have hlt := (List.getElem?_eq_some_iff.1 hpi).1
    rw [List.getElem?_append_left (by omega)]
    exact truL_rng ho bits hpi
  · intro t ht
    unfold rightB at ht
    simp only [List.mem_map] at ht
    obtain ⟨u, hu, rfl⟩ := ht
    show (decide (tipsI b (loadW b.parts (truL b bits ++ List.replicate (4 - b.parts.length) 0)) u.weight u.lean) == decide (tipsI b (loadW b.parts (truL b bits)) u.weight u.lean)) = true
    rw [e]
    simp
theorem any_room {b : SBook} (ho : okBook b) (hT : truthL b ≠ []) {w : Int} (hw : 1 ≤ w ∧ w ≤ b.limit) : ∃ lo hi e : Int, Sem1 29 [.agg (bookC .sh .sh b), pi w] (.tup [.agg [pi lo, pi hi], pi e]) ∧ (e = 4 ∨ (e = 0 ∧ ∀ m, lo ≤ m → m ≤ hi → holdsI b (loadsI b) w m)) := by
  by_cases hc : holdsI b (loadsI b) w 0
  · refine ⟨_, _, 0, Room_S ho hT hw hc, .inr ⟨rfl, fun m h1 h2 => ?_⟩⟩
    obtain ⟨k1, a1, a2, a3, a4⟩ := far_facts b (loadsI b) w (-1) (.inr rfl) b.lean.toNat 0
    obtain ⟨k2, c1, c2, c3, c4⟩ := far_facts b (loadsI b) w 1 (.inl rfl) b.lean.toNat 0
    rcases Int.lt_trichotomy m 0 with h3 | h3 | h3
    · have := a3 (-m).toNat (by omega) (by omega)
      rwa [show (0 : Int) + -1 * ((-m).toNat : Int) = m by omega] at this
    · subst h3; exact hc
    · have := c3 m.toNat (by omega) (by omega)
      rwa [show (0 : Int) + 1 * (m.toNat : Int) = m by omega] at this
  · exact ⟨0, 0, 4, Room_N ho hT hw hc, .inl rfl⟩
set_option maxRecDepth 100000 in
set_option maxHeartbeats 4000000 in
theorem StandTrue_law (b : SBook) (bits : List Int) (n0 n1 : Int) : Sem1 6 [.agg (bookC .sh .sh b), pis bits, .agg [pi n0, pi n1]] (pb true) := by
  have e10 : iadrAS 1 2 (.loc 1 0) (.p (pi 0)) = some (.loc 1 0) := rfl
  have e11 : iadrAS 1 2 (.loc 1 0) (.p (pi 1)) = some (.loc 1 1) := rfl
  refine semC_of_exec' mixed Try.func6 (by kernel_rfl) (by kernel_rfl) ac6_ok 3 rfl (by decide) [(.tmp 6)] (by kernel_rfl) ?_
  intro hr C hC hI
  unfold ac6
  simp only [go_sem, Nat.reduceBEq, Nat.reduceAdd]
  refine call_pure2 hC (sound_sem ..) rfl (PVleL_refl _) ?_
  rintro r rfl
  simp only [go_sem, Nat.reduceBEq, Nat.reduceAdd]
  refine ⟨fun _ => ?_, fun ho => ?_⟩
  · refine call_pure2 hC (stood_sem) rfl (PVleL_refl _) ?_
    rintro r rfl
    simp only [go_sem, Nat.reduceBEq]
    exact retQ_one rfl rfl
  have hg := ok_rng ho
  have hlen := truL_len b bits
  have htok := truL_ok ho bits
  obtain ⟨ws, hws⟩ : ∃ ws, truL b bits = ws := ⟨_, rfl⟩
  have hlx := right_load ho bits
  rw [hws] at hlen htok hlx
  have hox := right_ok ho ws
  obtain ⟨l, hl⟩ : ∃ l, loadW b.parts ws = l := ⟨_, rfl⟩
  rw [hl] at hlx
  have hTx : truthL (rightB b ws) ≠ [] := by
    have := List.ne_nil_of_mem hlx
    unfold loadsI at this
    simpa using this
  have r1 := rndI_range (n := n0) (m := b.limit) (by omega)
  have r2 := rndI_range (n := n1) (m := 2 * b.lean + 1) (by omega)
  obtain ⟨w, hw⟩ : ∃ w, 1 + rndI n0 b.limit = w := ⟨_, rfl⟩
  obtain ⟨v, hv⟩ : ∃ v, rndI n1 (2 * b.lean + 1) - b.lean = v := ⟨_, rfl⟩
  have hwr : 1 ≤ w ∧ w ≤ b.limit := by omega
  have hvr : -b.lean ≤ v ∧ v ≤ b.lean := by omega
  have hst := fun (m : Int) (hm : -12 ≤ m ∧ m ≤ 12) => stays_sem .sh .sh ho hlen htok (w := w) (n := m) (by omega) hm
  rw [hl] at hst
  have htr := truly_sem .sh .sh ho bits
  rw [hws] at htr
  have hnil : fewI (rightB b ws) = [] := (few_nil hox).2 hTx
  have hWr := Wrong_ok (k := .sh) (k2 := .sh) hox
  rw [hnil] at hWr
  -- what is told of the true weights
  obtain ⟨f1, f2, f3⟩ := lm_facts (n := v) hox hTx (w := w) (by omega)
  have hM := Margin_T (k := .sh) (k2 := .sh) hox hTx hwr hvr
  have hsm := lmI_b (w := w) (n := v) hox.fit.small (by omega) (by omega) (loadsI (rightB b ws)) (loadsI_ok hox.fit)
  have hsp := seat_pos (n := v) hox.fit hwr.1
  obtain ⟨-, -, hle⟩ := lmI_least (n := v) hsp (List.ne_nil_of_mem hlx)
  have hle := hle l hlx
  obtain ⟨g, g1, g2, g3, g4, -⟩ := margin_facts (rightB b ws) l w v (hsp l hlx)
  have g2 : (marginI (rightB b ws) l w v).1 * g = topI b (seatB b l w v) := g2
  have g3 : (marginI (rightB b ws) l w v).2 * g = (seatB b l w v).w := g3
  have hloads := loadsI_ok hox.fit l hlx
  have hseat := seat_ok (b := b) (l := l) (w := w) (n := v) ho.fit.small hloads (by omega) (by omega)
  have htb := topI_b ho.fit.small hseat
  have hswb := hseat.1
  obtain ⟨P, hP⟩ : ∃ P, (lmI (rightB b ws) w v (loadsI (rightB b ws))).2 = P := ⟨_, rfl⟩
  rw [hP] at f1 f2 f3 hM hsm hle
  obtain ⟨⟨p1, p2⟩, p3, p4⟩ := hsm
  have hmul : P.1 * (seatB b l w v).w ≤ topI b (seatB b l w v) * P.2 := by
    have := Int.mul_le_mul_of_nonneg_right hle (show 0 ≤ g by omega)
    rw [← g2, ← g3]
    rw [Int.mul_assoc, Int.mul_right_comm] at this
    exact this
  have hans := answer_rng (rightB b ws) (loadsI (rightB b ws)) w v
  have ha0 : answerI (rightB b ws) (loadsI (rightB b ws)) w v = 0 → 0 ≤ topI b (seatB b l w v) := fun h => by
    have h1 : ¬ (topI b (seatB b l w v) < 0) := answer_holds.1 h l hlx
    omega
  have ha2 : answerI (rightB b ws) (loadsI (rightB b ws)) w v = 2 → topI b (seatB b l w v) < 0 := fun h => by
    unfold answerI at h
    split at h
    · omega
    · split at h
      · rename_i h1
        exact count_all.1 h1 l hlx
      · omega
  obtain ⟨lo, hi, re, hRm, hre⟩ := any_room hox hTx hwr
  have hsafe : safeI (rightB b ws) (loadsI (rightB b ws)) w = true → ∀ m, -b.lean ≤ m → m ≤ b.lean → 0 ≤ topI b (seatB b l w m) := fun h m h1 h2 => by
    have : ¬ (topI b (seatB b l w m) < 0) := (safeI_iff (b := rightB b ws) hg.2.2.1).1 h m h1 h2 l hlx
    omega
  have hroom : re = 0 → ∀ m, lo ≤ m → m ≤ hi → 0 ≤ topI b (seatB b l w m) := fun h m h1 h2 => by
    rcases hre with h3 | ⟨-, h3⟩
    · omega
    · have : ¬ (topI b (seatB b l w m) < 0) := h3 m h1 h2 l hlx
      omega
  have hre4 : re = 0 ∨ re = 4 := by rcases hre with h | h <;> omega
  obtain ⟨A, hA⟩ : ∃ A, answerI (rightB b ws) (loadsI (rightB b ws)) w v = A := ⟨_, rfl⟩
  obtain ⟨S, hS⟩ : ∃ S, safeI (rightB b ws) (loadsI (rightB b ws)) w = S := ⟨_, rfl⟩
  obtain ⟨top, htop⟩ : ∃ t, topI b (seatB b l w v) = t := ⟨_, rfl⟩
  obtain ⟨sw, hsw⟩ : ∃ t, (seatB b l w v).w = t := ⟨_, rfl⟩
  have hstv := hst v (by omega)
  rw [htop, hsw] at hstv
  rw [hA] at hans ha0 ha2
  rw [htop] at ha0 ha2 htb hmul
  rw [hsw] at hmul hswb
  rw [hS] at hsafe
  have k1 := mulb (a := P.1) (b := sw) 1000000000 10000 (by omega) (by omega)
  have k2 := mulb (a := top) (b := P.2) 1000000000 1000000 (by omega) (by omega)
  have hTp := Tips_T (k := .sh) (k2 := .sh) hox hTx hwr hvr
  have hSf := Safe_T (k := .sh) (k2 := .sh) hox hTx hwr
  rw [hA] at hTp
  rw [hS] at hSf
  have hz : IntKind.i64.wrap (0 - b.lean) = ((0 : Nat) : Int) - b.lean := by rw [wrap_id (by omega) (by omega)]; omega
  clear hle g2 g3 g4 hseat hloads hsp f1 f3 hnil hre
  refine call_pure2 hC (htr) rfl (PVleL_refl _) ?_
  rintro r rfl
  simp only [go_sem, Nat.reduceBEq, Nat.reduceAdd]
  refine call_pure2 hC (rightly_sem ho hlen htok) rfl (PVleL_refl _) ?_
  rintro r rfl
  simp only [go_sem, Nat.reduceBEq, Nat.reduceAdd, putCells, e10, e11, wrap_id (n := 2 * b.lean) (by omega) (by omega), wrap_id (n := 2 * b.lean + 1) (by omega) (by omega)]
  refine call_pure2 hC (Round_sem n0 b.limit) rfl (PVleL_refl _) ?_
  rintro r rfl
  simp only [go_sem, Nat.reduceBEq, hw, wrap_id (n := w) (by omega) (by omega)]
  refine call_pure2 hC (Round_sem n1 (2 * b.lean + 1)) rfl (PVleL_refl _) ?_
  rintro r rfl
  simp only [go_sem, Nat.reduceBEq, Nat.reduceAdd, hv, wrap_id (n := v) (by omega) (by omega)]
  refine call_pure2 hC (hstv) rfl (PVleL_refl _) ?_
  rintro r rfl
  simp only [go_sem, Nat.reduceBEq, Nat.reduceAdd]
  refine call_pure2 hC (Right_ok hox) rfl (PVleL_refl _) ?_
  rintro r rfl
  simp only [go_sem, Nat.reduceBEq, Nat.reduceAdd]
  refine call_pure2 hC (hWr) rfl (PVleL_refl _) ?_
  rintro r rfl
  simp only [go_sem, Nat.reduceBEq, Nat.reduceAdd]
  refine call_pure2 hC (hTp) rfl (PVleL_refl _) ?_
  rintro r rfl
  simp only [go_sem, Nat.reduceBEq, Nat.reduceAdd]
  refine call_pure2 hC (hM) rfl (PVleL_refl _) ?_
  rintro r rfl
  simp only [go_sem, Nat.reduceBEq, Nat.reduceAdd, putCells]
  refine call_pure2 hC (hSf) rfl (PVleL_refl _) ?_
  rintro r rfl
  simp only [go_sem, Nat.reduceBEq, Nat.reduceAdd]
  cases S <;> rcases hre4 with rfl | rfl
  · refine call_pure2 hC (hRm) rfl (PVleL_refl _) ?_
    rintro r rfl
    simp only [go_sem, Nat.reduceBEq, Nat.reduceAdd, putCells, decide_false, not_true_eq_false, not_false_eq_true, decide_eq_true hTx, Int.natCast_zero]
    refine call_pure2 hC (In_sem A 0 2) rfl (PVleL_refl _) ?_
    rintro r rfl
    simp only [go_sem, Nat.reduceBEq, decide_eq_true hans, wrap_id (n := P.1 * sw) (by omega) (by omega), wrap_id (n := top * P.2) (by omega) (by omega), hz]
    repeat' (first | (exfalso; omega) | (guard_target =~ _ ∧ _; refine ⟨fun _ => ?_, fun _ => ?_⟩))
    all_goals
      refine loop_nat (2 * b.lean + 1).toNat (fun _ => True) (fun (j : Nat) => ⟨[(25, .p (pi (j - b.lean))), (24, .p (pi 0)), (23, .loc 4 0), (21, .p (pb false)), (9, .p (pi w)), (7, .p (pis ws)), (3, .loc 0 0)], [.cells ((bookC .sh .sh b).map .p), .cells [.p (pi n0), .p (pi n1)], .dead, .dead, .cells [.p (pi lo), .p (pi hi)]], [], some [], 0⟩) trivial (by simp [Wk, wkT, wkL, look, AV.lo, AV.lo.loL]) ?_
      rintro j ⟨hj, -⟩
      obtain ⟨m, hm⟩ : ∃ m, (j : Int) - b.lean = m := ⟨_, rfl⟩
      have hnx : IntKind.i64.wrap (m + 1) = ((j + 1 : Nat) : Int) - b.lean := by rw [wrap_id (by omega) (by omega)]; omega
      simp only [hm]
      simp only [go_sem, Nat.reduceBEq, Nat.reduceAdd]
      refine ⟨fun h5 => ?_, fun h5 => ?_⟩
      rotate_left
      · refine call_pure2 hC (stood_sem) rfl (PVleL_refl _) ?_
        rintro r rfl
        simp only [go_sem, Nat.reduceBEq]
        exact retQ_one rfl rfl
      have hsT := hst m (by omega)
      have hr1 := hroom rfl m
      obtain ⟨T, hT⟩ : ∃ T, topI b (seatB b l w m) = T := ⟨_, rfl⟩
      rw [hT] at hsT hr1
      refine call_pure2 hC (hsT) rfl (PVleL_refl _) ?_
      rintro r rfl
      simp only [go_sem, Nat.reduceBEq, Nat.reduceAdd, decide_true, hnx]
      repeat' (first | (exfalso; omega) | (guard_target =~ _ ∧ _; refine ⟨fun _ => ?_, fun _ => ?_⟩))
      all_goals first
        | (guard_target =~ ∃ _, _; exact ⟨⟨j + 1, by omega, trivial⟩, by simp only; omega, by simp [Wk, wkT, wkL, look, AV.lo, AV.lo.loL]⟩)
        | skip
      refine call_pure2 hC (Has_sem lo hi m) rfl (PVleL_refl _) ?_
      rintro r rfl
      simp only [go_sem, Nat.reduceBEq, hnx]
      repeat' (first | (exfalso; omega) | (guard_target =~ _ ∧ _; refine ⟨fun _ => ?_, fun _ => ?_⟩))
      all_goals exact ⟨⟨j + 1, by omega, trivial⟩, by simp only; omega, by simp [Wk, wkT, wkL, look, AV.lo, AV.lo.loL]⟩
  · refine call_pure2 hC (hRm) rfl (PVleL_refl _) ?_
    rintro r rfl
    simp only [go_sem, Nat.reduceBEq, Nat.reduceAdd, putCells, decide_true, decide_false, not_true_eq_false, not_false_eq_true, Int.reduceEq, decide_eq_true hTx, Int.natCast_zero]
    refine call_pure2 hC (In_sem A 0 2) rfl (PVleL_refl _) ?_
    rintro r rfl
    simp only [go_sem, Nat.reduceBEq, decide_eq_true hans, wrap_id (n := P.1 * sw) (by omega) (by omega), wrap_id (n := top * P.2) (by omega) (by omega), hz]
    repeat' (first | (exfalso; omega) | (guard_target =~ _ ∧ _; refine ⟨fun _ => ?_, fun _ => ?_⟩))
    all_goals
      refine loop_nat (2 * b.lean + 1).toNat (fun _ => True) (fun (j : Nat) => ⟨[(25, .p (pi (j - b.lean))), (24, .p (pi 4)), (23, .loc 4 0), (21, .p (pb false)), (9, .p (pi w)), (7, .p (pis ws)), (3, .loc 0 0)], [.cells ((bookC .sh .sh b).map .p), .cells [.p (pi n0), .p (pi n1)], .dead, .dead, .cells [.p (pi lo), .p (pi hi)]], [], some [], 0⟩) trivial (by simp [Wk, wkT, wkL, look, AV.lo, AV.lo.loL]) ?_
      rintro j ⟨hj, -⟩
      obtain ⟨m, hm⟩ : ∃ m, (j : Int) - b.lean = m := ⟨_, rfl⟩
      have hnx : IntKind.i64.wrap (m + 1) = ((j + 1 : Nat) : Int) - b.lean := by rw [wrap_id (by omega) (by omega)]; omega
      simp only [hm]
      simp only [go_sem, Nat.reduceBEq, Nat.reduceAdd]
      refine ⟨fun h5 => ?_, fun h5 => ?_⟩
      rotate_left
      · refine call_pure2 hC (stood_sem) rfl (PVleL_refl _) ?_
        rintro r rfl
        simp only [go_sem, Nat.reduceBEq]
        exact retQ_one rfl rfl
      have hsT := hst m (by omega)
      obtain ⟨T, hT⟩ : ∃ T, topI b (seatB b l w m) = T := ⟨_, rfl⟩
      rw [hT] at hsT
      refine call_pure2 hC (hsT) rfl (PVleL_refl _) ?_
      rintro r rfl
      simp only [go_sem, Nat.reduceBEq, decide_false, Int.reduceEq, hnx]
      repeat' (first | (exfalso; omega) | (guard_target =~ _ ∧ _; refine ⟨fun _ => ?_, fun _ => ?_⟩))
      all_goals exact ⟨⟨j + 1, by omega, trivial⟩, by simp only; omega, by simp [Wk, wkT, wkL, look, AV.lo, AV.lo.loL]⟩
  · refine call_pure2 hC (hRm) rfl (PVleL_refl _) ?_
    rintro r rfl
    simp only [go_sem, Nat.reduceBEq, Nat.reduceAdd, putCells, decide_false, not_true_eq_false, not_false_eq_true, decide_eq_true hTx, Int.natCast_zero]
    refine call_pure2 hC (In_sem A 0 2) rfl (PVleL_refl _) ?_
    rintro r rfl
    simp only [go_sem, Nat.reduceBEq, decide_eq_true hans, wrap_id (n := P.1 * sw) (by omega) (by omega), wrap_id (n := top * P.2) (by omega) (by omega), hz]
    repeat' (first | (exfalso; omega) | (guard_target =~ _ ∧ _; refine ⟨fun _ => ?_, fun _ => ?_⟩))
    all_goals
      refine loop_nat (2 * b.lean + 1).toNat (fun _ => True) (fun (j : Nat) => ⟨[(25, .p (pi (j - b.lean))), (24, .p (pi 0)), (23, .loc 4 0), (21, .p (pb true)), (9, .p (pi w)), (7, .p (pis ws)), (3, .loc 0 0)], [.cells ((bookC .sh .sh b).map .p), .cells [.p (pi n0), .p (pi n1)], .dead, .dead, .cells [.p (pi lo), .p (pi hi)]], [], some [], 0⟩) trivial (by simp [Wk, wkT, wkL, look, AV.lo, AV.lo.loL]) ?_
      rintro j ⟨hj, -⟩
      obtain ⟨m, hm⟩ : ∃ m, (j : Int) - b.lean = m := ⟨_, rfl⟩
      have hnx : IntKind.i64.wrap (m + 1) = ((j + 1 : Nat) : Int) - b.lean := by rw [wrap_id (by omega) (by omega)]; omega
      simp only [hm]
      simp only [go_sem, Nat.reduceBEq, Nat.reduceAdd]
      refine ⟨fun h5 => ?_, fun h5 => ?_⟩
      rotate_left
      · refine call_pure2 hC (stood_sem) rfl (PVleL_refl _) ?_
        rintro r rfl
        simp only [go_sem, Nat.reduceBEq]
        exact retQ_one rfl rfl
      have hsT := hst m (by omega)
      have hs1 := hsafe rfl m (by omega) (by omega)
      have hr1 := hroom rfl m
      obtain ⟨T, hT⟩ : ∃ T, topI b (seatB b l w m) = T := ⟨_, rfl⟩
      rw [hT] at hsT hs1 hr1
      refine call_pure2 hC (hsT) rfl (PVleL_refl _) ?_
      rintro r rfl
      simp only [go_sem, Nat.reduceBEq, hnx]
      repeat' (first | (exfalso; omega) | (guard_target =~ _ ∧ _; refine ⟨fun _ => ?_, fun _ => ?_⟩))
      all_goals exact ⟨⟨j + 1, by omega, trivial⟩, by simp only; omega, by simp [Wk, wkT, wkL, look, AV.lo, AV.lo.loL]⟩
  · refine call_pure2 hC (hRm) rfl (PVleL_refl _) ?_
    rintro r rfl
    simp only [go_sem, Nat.reduceBEq, Nat.reduceAdd, putCells, decide_true, decide_false, not_true_eq_false, not_false_eq_true, Int.reduceEq, decide_eq_true hTx, Int.natCast_zero]
    refine call_pure2 hC (In_sem A 0 2) rfl (PVleL_refl _) ?_
    rintro r rfl
    simp only [go_sem, Nat.reduceBEq, decide_eq_true hans, wrap_id (n := P.1 * sw) (by omega) (by omega), wrap_id (n := top * P.2) (by omega) (by omega), hz]
    repeat' (first | (exfalso; omega) | (guard_target =~ _ ∧ _; refine ⟨fun _ => ?_, fun _ => ?_⟩))
    all_goals
      refine loop_nat (2 * b.lean + 1).toNat (fun _ => True) (fun (j : Nat) => ⟨[(25, .p (pi (j - b.lean))), (24, .p (pi 4)), (23, .loc 4 0), (21, .p (pb true)), (9, .p (pi w)), (7, .p (pis ws)), (3, .loc 0 0)], [.cells ((bookC .sh .sh b).map .p), .cells [.p (pi n0), .p (pi n1)], .dead, .dead, .cells [.p (pi lo), .p (pi hi)]], [], some [], 0⟩) trivial (by simp [Wk, wkT, wkL, look, AV.lo, AV.lo.loL]) ?_
      rintro j ⟨hj, -⟩
      obtain ⟨m, hm⟩ : ∃ m, (j : Int) - b.lean = m := ⟨_, rfl⟩
      have hnx : IntKind.i64.wrap (m + 1) = ((j + 1 : Nat) : Int) - b.lean := by rw [wrap_id (by omega) (by omega)]; omega
      simp only [hm]
      simp only [go_sem, Nat.reduceBEq, Nat.reduceAdd]
      refine ⟨fun h5 => ?_, fun h5 => ?_⟩
      rotate_left
      · refine call_pure2 hC (stood_sem) rfl (PVleL_refl _) ?_
        rintro r rfl
        simp only [go_sem, Nat.reduceBEq]
        exact retQ_one rfl rfl
      have hsT := hst m (by omega)
      have hs1 := hsafe rfl m (by omega) (by omega)
      obtain ⟨T, hT⟩ : ∃ T, topI b (seatB b l w m) = T := ⟨_, rfl⟩
      rw [hT] at hsT hs1
      refine call_pure2 hC (hsT) rfl (PVleL_refl _) ?_
      rintro r rfl
      simp only [go_sem, Nat.reduceBEq, hnx]
      repeat' (first | (exfalso; omega) | (guard_target =~ _ ∧ _; refine ⟨fun _ => ?_, fun _ => ?_⟩))
      all_goals exact ⟨⟨j + 1, by omega, trivial⟩, by simp only; omega, by simp [Wk, wkT, wkL, look, AV.lo, AV.lo.loL]⟩
set_option maxRecDepth 100000 in
theorem StandTrue_row {l0 l1 l2 : List PV} (T0 : Ty Try.prog 10 25 l0) (T1 : Ty Try.prog 10 47 l1) (T2 : Ty Try.prog 10 26 l2) : SemC Try.prog 6 [argPV Try.prog 25 l0, argPV Try.prog 47 l1, argPV Try.prog 26 l2] (fun r => r = pb true) := by
  obtain ⟨b, rfl⟩ := ty_book T0
  obtain ⟨bits, rfl⟩ := ty_ints T1
  obtain ⟨n0, n1, rfl⟩ := ty_two T2
  rw [argStruct Try.underlying25, argSlice Try.underlying47, argArray Try.underlying26]
  exact StandTrue_law b bits n0 n1
end Go.Proofs.Ytgniamjempccmaa
