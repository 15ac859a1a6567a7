/- StandTurned. -/
import Derived.Test.YtgniamjempccmaaStr02
import Derived.Test.YtgniamjempccmaaStr01
namespace Go.Proofs.Ytgniamjempccmaa
open Go.RowKit
def ac45 : AC := (AC.seq (AC.ops [(AOp.mk (some 1) (AK.box 10 (AX.t 0)) none 0 false true), (AOp.mk (some 2) (AK.new (PV.agg [(PV.val (Value.int IntKind.i64 0)), (PV.val (Value.int IntKind.i64 0)), (PV.val (Value.int IntKind.i64 0)), (PV.val (Value.int IntKind.i64 0)), (PV.sl SK.full 0 []), (PV.val (Value.int IntKind.i64 0)), (PV.val (Value.int IntKind.i64 0)), (PV.val (Value.int IntKind.i64 0)), (PV.val (Value.int IntKind.i64 0)), (PV.sl SK.full 0 [])])) none 1 false true)]) (AC.seq (AC.ops [(AOp.mk (some 8) (AK.ld (some 10) (AX.t 1)) none 0 false true), (AOp.mk (some 3) (AK.new (PV.agg [(PV.val (Value.int IntKind.i64 0)), (PV.val (Value.int IntKind.i64 0)), (PV.val (Value.int IntKind.i64 0)), (PV.val (Value.int IntKind.i64 0)), (PV.sl SK.full 0 []), (PV.val (Value.int IntKind.i64 0)), (PV.val (Value.int IntKind.i64 0)), (PV.val (Value.int IntKind.i64 0)), (PV.val (Value.int IntKind.i64 0)), (PV.sl SK.full 0 [])])) none 1 false true), (AOp.mk none (AK.st 10 (AX.t 3) (AX.t 8)) none 2 false true)]) (AC.seq (AC.ops [(AOp.mk (some 9) (AK.fadr 2 (AX.t 1)) none 0 true false), (AOp.mk (some 10) (AK.ld none (AX.t 9)) none 1 true false), (AOp.mk (some 11) (AK.fadr 1 (AX.t 1)) none 2 true false), (AOp.mk (some 12) (AK.ld none (AX.t 11)) none 3 true false), (AOp.mk (some 13) (AK.fadr 5 (AX.t 1)) none 4 true false), (AOp.mk (some 14) (AK.ld none (AX.t 13)) none 5 true false), (AOp.mk (some 15) (AK.un UnOp.neg (AX.t 14)) none 6 true false), (AOp.mk (some 16) (AK.fadr 1 (AX.t 3)) none 7 true false), (AOp.mk none (AK.st 1 (AX.t 16) (AX.t 10)) none 8 false false), (AOp.mk (some 17) (AK.fadr 2 (AX.t 3)) none 9 true false), (AOp.mk none (AK.st 1 (AX.t 17) (AX.t 12)) none 10 false false), (AOp.mk (some 18) (AK.fadr 5 (AX.t 3)) none 11 true false), (AOp.mk none (AK.st 1 (AX.t 18) (AX.t 15)) none 12 false true)]) (AC.seq (AC.ops [(AOp.mk (some 19) (AK.fadr 4 (AX.t 3)) none 0 false true), (AOp.mk none (AK.st 1 (AX.t 19) (AX.c (PV.sl SK.full 0 []))) none 1 false true), (AOp.mk (some 20) (AK.fadr 9 (AX.t 3)) none 2 false true), (AOp.mk none (AK.st 1 (AX.t 20) (AX.c (PV.sl SK.full 0 []))) none 3 false true)]) (AC.seq (AC.seq (AC.ops [(AOp.mk (some 4) (AK.mv (AX.c (PV.val (Value.int IntKind.i64 0)))) none 0 false true)]) (AC.block 0 (AC.loop (AC.seq (AC.seq (AC.ops [(AOp.mk (some 21) (AK.mv (AX.t 4)) none 0 false true), (AOp.mk (some 22) (AK.fadr 4 (AX.t 1)) none 1 false true), (AOp.mk (some 23) (AK.ld none (AX.t 22)) none 2 false true), (AOp.mk (some 24) (AK.len (AX.t 23)) none 3 false true), (AOp.mk (some 25) (AK.bin false BinOp.lss (AX.t 21) (AX.t 24)) none 4 false true)]) (AC.cond (AX.t 25) AC.skip (AC.exit 0))) (AC.seq (AC.block 1 (AC.seq (AC.ops [(AOp.mk (some 28) (AK.fadr 4 (AX.t 1)) none 0 false true), (AOp.mk (some 29) (AK.ld none (AX.t 28)) none 1 false true), (AOp.mk (some 30) (AK.mv (AX.t 4)) none 2 false true), (AOp.mk (some 31) (AK.iadrS 4 (AX.t 29) (AX.t 30)) none 3 false true), (AOp.mk (some 32) (AK.ld (some 4) (AX.t 31)) none 4 false true), (AOp.mk (some 5) (AK.new (PV.agg [(PV.val (Value.int IntKind.i64 0)), (PV.val (Value.int IntKind.i64 0)), (PV.val (Value.int IntKind.i64 0)), (PV.val (Value.int IntKind.i64 0))])) none 5 false true), (AOp.mk none (AK.st 4 (AX.t 5) (AX.t 32)) none 6 false true)]) (AC.seq (AC.ops [(AOp.mk (some 33) (AK.fadr 2 (AX.t 5)) none 0 false true), (AOp.mk (some 34) (AK.ld none (AX.t 33)) none 1 false true), (AOp.mk (some 35) (AK.un UnOp.neg (AX.t 34)) none 2 false true), (AOp.mk (some 36) (AK.fadr 2 (AX.t 5)) none 3 false true), (AOp.mk none (AK.st 1 (AX.t 36) (AX.t 35)) none 4 false true)]) (AC.ops [(AOp.mk (some 37) (AK.fadr 4 (AX.t 3)) none 0 false true), (AOp.mk (some 38) (AK.ld none (AX.t 37)) none 1 false true), (AOp.mk (some 39) (AK.ld (some 4) (AX.t 5)) none 2 false true), (AOp.mk (some 40) (AK.bslice false 70 4 1 [(PV.val (Value.int IntKind.i64 0)), (PV.val (Value.int IntKind.i64 0)), (PV.val (Value.int IntKind.i64 0)), (PV.val (Value.int IntKind.i64 0))] [(0, (4, (AX.t 39)))]) none 3 false true), (AOp.mk (some 41) (AK.app false 70 4 32 [(PV.val (Value.int IntKind.i64 0)), (PV.val (Value.int IntKind.i64 0)), (PV.val (Value.int IntKind.i64 0)), (PV.val (Value.int IntKind.i64 0))] (AX.t 38) (AX.t 40)) none 4 false true), (AOp.mk (some 42) (AK.fadr 4 (AX.t 3)) none 5 false true), (AOp.mk none (AK.st 1 (AX.t 42) (AX.t 41)) none 6 false true)])))) (AC.ops [(AOp.mk (some 26) (AK.mv (AX.t 4)) none 0 false true), (AOp.mk (some 27) (AK.bin false BinOp.add (AX.t 26) (AX.c (PV.val (Value.int IntKind.i64 1)))) none 1 false true), (AOp.mk (some 4) (AK.mv (AX.t 27)) none 2 false true)])))))) (AC.seq (AC.seq (AC.ops [(AOp.mk (some 6) (AK.mv (AX.c (PV.val (Value.int IntKind.i64 0)))) none 0 false true)]) (AC.block 2 (AC.loop (AC.seq (AC.seq (AC.ops [(AOp.mk (some 43) (AK.mv (AX.t 6)) none 0 false true), (AOp.mk (some 44) (AK.fadr 9 (AX.t 1)) none 1 false true), (AOp.mk (some 45) (AK.ld none (AX.t 44)) none 2 false true), (AOp.mk (some 46) (AK.len (AX.t 45)) none 3 false true), (AOp.mk (some 47) (AK.bin false BinOp.lss (AX.t 43) (AX.t 46)) none 4 false true)]) (AC.cond (AX.t 47) AC.skip (AC.exit 2))) (AC.seq (AC.block 3 (AC.seq (AC.ops [(AOp.mk (some 50) (AK.fadr 9 (AX.t 1)) none 0 false true), (AOp.mk (some 51) (AK.ld none (AX.t 50)) none 1 false true), (AOp.mk (some 52) (AK.mv (AX.t 6)) none 2 false true), (AOp.mk (some 53) (AK.iadrS 3 (AX.t 51) (AX.t 52)) none 3 false true), (AOp.mk (some 54) (AK.ld (some 3) (AX.t 53)) none 4 false true), (AOp.mk (some 7) (AK.new (PV.agg [(PV.val (Value.int IntKind.i64 0)), (PV.val (Value.int IntKind.i64 0)), (PV.val (Value.bool false))])) none 5 false true), (AOp.mk none (AK.st 3 (AX.t 7) (AX.t 54)) none 6 false true)]) (AC.seq (AC.ops [(AOp.mk (some 55) (AK.fadr 1 (AX.t 7)) none 0 false true), (AOp.mk (some 56) (AK.ld none (AX.t 55)) none 1 false true), (AOp.mk (some 57) (AK.un UnOp.neg (AX.t 56)) none 2 false true), (AOp.mk (some 58) (AK.fadr 1 (AX.t 7)) none 3 false true), (AOp.mk none (AK.st 1 (AX.t 58) (AX.t 57)) none 4 false true)]) (AC.ops [(AOp.mk (some 59) (AK.fadr 9 (AX.t 3)) none 0 false true), (AOp.mk (some 60) (AK.ld none (AX.t 59)) none 1 false true), (AOp.mk (some 61) (AK.ld (some 3) (AX.t 7)) none 2 false true), (AOp.mk (some 62) (AK.bslice false 65 3 1 [(PV.val (Value.int IntKind.i64 0)), (PV.val (Value.int IntKind.i64 0)), (PV.val (Value.bool false))] [(0, (3, (AX.t 61)))]) none 3 false true), (AOp.mk (some 63) (AK.app false 65 3 24 [(PV.val (Value.int IntKind.i64 0)), (PV.val (Value.int IntKind.i64 0)), (PV.val (Value.bool false))] (AX.t 60) (AX.t 62)) none 4 false true), (AOp.mk (some 64) (AK.fadr 9 (AX.t 3)) none 5 false true), (AOp.mk none (AK.st 1 (AX.t 64) (AX.t 63)) none 6 false true)])))) (AC.ops [(AOp.mk (some 48) (AK.mv (AX.t 6)) none 0 false true), (AOp.mk (some 49) (AK.bin false BinOp.add (AX.t 48) (AX.c (PV.val (Value.int IntKind.i64 1)))) none 1 false true), (AOp.mk (some 6) (AK.mv (AX.t 49)) none 2 false true)])))))) (AC.seq (AC.ops [(AOp.mk (some 65) (AK.ld (some 10) (AX.t 3)) none 0 false true), (AOp.mk none (AK.st 10 (AX.t 2) (AX.t 65)) none 1 false true)]) AC.ret)))))))
theorem ac45_ok : cCode Try.prog (fun _ => false) Try.f45.ntmps (Try.f45.body.getD .skip) = some ac45 := by kernel_rfl
def ac9 : AC := (AC.seq (AC.ops [(AOp.mk (some 2) (AK.box 10 (AX.t 0)) none 0 false true), (AOp.mk (some 3) (AK.box 3 (AX.t 1)) none 1 false true), (AOp.mk (some 4) (AK.mv (AX.c (PV.val (Value.bool false)))) none 2 false true)]) (AC.seq (AC.seq (AC.ops [(AOp.mk (some 25) (AK.ld (some 10) (AX.t 2)) none 0 false true), (AOp.mk (some 26) (AK.call 38 [(AX.t 25)]) none 1 false true), (AOp.mk (some 27) (AK.un UnOp.not (AX.t 26)) none 2 false true)]) (AC.cond (AX.t 27) (AC.seq (AC.ops [(AOp.mk (some 28) (AK.call 24 []) none 0 false true), (AOp.mk (some 4) (AK.mv (AX.t 28)) none 1 false true)]) AC.ret) AC.skip)) (AC.seq (AC.ops [(AOp.mk (some 29) (AK.ld (some 10) (AX.t 2)) none 0 false true), (AOp.mk (some 30) (AK.call 45 [(AX.t 29)]) none 1 false true), (AOp.mk (some 5) (AK.new (PV.agg [(PV.val (Value.int IntKind.i64 0)), (PV.val (Value.int IntKind.i64 0)), (PV.val (Value.int IntKind.i64 0)), (PV.val (Value.int IntKind.i64 0)), (PV.sl SK.full 0 []), (PV.val (Value.int IntKind.i64 0)), (PV.val (Value.int IntKind.i64 0)), (PV.val (Value.int IntKind.i64 0)), (PV.val (Value.int IntKind.i64 0)), (PV.sl SK.full 0 [])])) none 2 false true), (AOp.mk none (AK.st 10 (AX.t 5) (AX.t 30)) none 3 false true)]) (AC.seq (AC.ops [(AOp.mk (some 31) (AK.iadrA 1 3 (AX.t 3) (AX.c (PV.val (Value.int IntKind.i64 0)))) none 0 true false), (AOp.mk (some 32) (AK.ld none (AX.t 31)) none 1 true false), (AOp.mk (some 33) (AK.fadr 8 (AX.t 2)) none 2 true false), (AOp.mk (some 34) (AK.ld none (AX.t 33)) none 3 true false), (AOp.mk (some 37) (AK.iadrA 1 3 (AX.t 3) (AX.c (PV.val (Value.int IntKind.i64 1)))) none 6 true false), (AOp.mk (some 38) (AK.ld none (AX.t 37)) none 7 true false), (AOp.mk (some 39) (AK.fadr 7 (AX.t 2)) none 8 true false), (AOp.mk (some 40) (AK.ld none (AX.t 39)) none 9 true false), (AOp.mk (some 41) (AK.bin false BinOp.mul (AX.c (PV.val (Value.int IntKind.i64 2))) (AX.t 40)) none 10 true false), (AOp.mk (some 42) (AK.bin false BinOp.add (AX.t 41) (AX.c (PV.val (Value.int IntKind.i64 1)))) none 11 true false), (AOp.mk (some 44) (AK.fadr 7 (AX.t 2)) none 13 true false), (AOp.mk (some 45) (AK.ld none (AX.t 44)) none 14 true false), (AOp.mk (some 47) (AK.iadrA 1 3 (AX.t 3) (AX.c (PV.val (Value.int IntKind.i64 2)))) none 16 true false), (AOp.mk (some 48) (AK.ld none (AX.t 47)) none 17 true false), (AOp.mk (some 35) (AK.call 41 [(AX.t 32), (AX.t 34)]) none 4 false false), (AOp.mk (some 36) (AK.bin false BinOp.add (AX.c (PV.val (Value.int IntKind.i64 1))) (AX.t 35)) none 5 true false), (AOp.mk (some 43) (AK.call 41 [(AX.t 38), (AX.t 42)]) none 12 false false), (AOp.mk (some 46) (AK.bin false BinOp.sub (AX.t 43) (AX.t 45)) none 15 true false), (AOp.mk (some 49) (AK.call 41 [(AX.t 48), (AX.c (PV.val (Value.int IntKind.i64 121)))]) none 18 false false), (AOp.mk (some 50) (AK.bin false BinOp.sub (AX.t 49) (AX.c (PV.val (Value.int IntKind.i64 60)))) none 19 true false), (AOp.mk (some 6) (AK.mv (AX.t 36)) none 20 true false), (AOp.mk (some 7) (AK.mv (AX.t 46)) none 21 true false), (AOp.mk (some 8) (AK.mv (AX.t 50)) none 22 true true)]) (AC.seq (AC.ops [(AOp.mk (some 52) (AK.ld (some 10) (AX.t 2)) none 0 false true), (AOp.mk (some 53) (AK.mv (AX.t 6)) none 1 false true), (AOp.mk (some 54) (AK.mv (AX.t 7)) none 2 false true), (AOp.mk (some 55) (AK.call 20 [(AX.t 52), (AX.t 53), (AX.t 54)]) none 3 false true), (AOp.mk (some 51) (AK.mv (AX.t 55)) none 4 false true), (AOp.mk (some 56) (AK.ext (AX.t 51) 0) none 5 false true), (AOp.mk (some 57) (AK.ext (AX.t 51) 1) none 6 false true), (AOp.mk (some 9) (AK.mv (AX.t 56)) none 7 false true), (AOp.mk (some 10) (AK.mv (AX.t 57)) none 8 false true)]) (AC.seq (AC.ops [(AOp.mk (some 59) (AK.ld (some 10) (AX.t 5)) none 0 false true), (AOp.mk (some 60) (AK.mv (AX.t 6)) none 1 false true), (AOp.mk (some 61) (AK.mv (AX.t 7)) none 2 false true), (AOp.mk (some 62) (AK.un UnOp.neg (AX.t 61)) none 3 false true), (AOp.mk (some 63) (AK.call 20 [(AX.t 59), (AX.t 60), (AX.t 62)]) none 4 false true), (AOp.mk (some 58) (AK.mv (AX.t 63)) none 5 false true), (AOp.mk (some 64) (AK.ext (AX.t 58) 0) none 6 false true), (AOp.mk (some 65) (AK.ext (AX.t 58) 1) none 7 false true), (AOp.mk (some 11) (AK.mv (AX.t 64)) none 8 false true), (AOp.mk (some 12) (AK.mv (AX.t 65)) none 9 false true)]) (AC.seq (AC.ops [(AOp.mk (some 67) (AK.ld (some 10) (AX.t 2)) none 0 false true), (AOp.mk (some 68) (AK.mv (AX.t 6)) none 1 false true), (AOp.mk (some 69) (AK.mv (AX.t 7)) none 2 false true), (AOp.mk (some 70) (AK.call 22 [(AX.t 67), (AX.t 68), (AX.t 69)]) none 3 false true), (AOp.mk (some 66) (AK.mv (AX.t 70)) none 4 false true), (AOp.mk (some 71) (AK.ext (AX.t 66) 0) none 5 false true), (AOp.mk (some 72) (AK.ext (AX.t 66) 1) none 6 false true), (AOp.mk (some 13) (AK.new (PV.agg [(PV.val (Value.int IntKind.i64 0)), (PV.val (Value.int IntKind.i64 0))])) none 7 false true), (AOp.mk none (AK.st 2 (AX.t 13) (AX.t 71)) none 8 false true), (AOp.mk (some 14) (AK.mv (AX.t 72)) none 9 false true)]) (AC.seq (AC.ops [(AOp.mk (some 74) (AK.ld (some 10) (AX.t 5)) none 0 false true), (AOp.mk (some 75) (AK.mv (AX.t 6)) none 1 false true), (AOp.mk (some 76) (AK.mv (AX.t 7)) none 2 false true), (AOp.mk (some 77) (AK.un UnOp.neg (AX.t 76)) none 3 false true), (AOp.mk (some 78) (AK.call 22 [(AX.t 74), (AX.t 75), (AX.t 77)]) none 4 false true), (AOp.mk (some 73) (AK.mv (AX.t 78)) none 5 false true), (AOp.mk (some 79) (AK.ext (AX.t 73) 0) none 6 false true), (AOp.mk (some 80) (AK.ext (AX.t 73) 1) none 7 false true), (AOp.mk (some 15) (AK.new (PV.agg [(PV.val (Value.int IntKind.i64 0)), (PV.val (Value.int IntKind.i64 0))])) none 8 false true), (AOp.mk none (AK.st 2 (AX.t 15) (AX.t 79)) none 9 false true), (AOp.mk (some 16) (AK.mv (AX.t 80)) none 10 false true)]) (AC.seq (AC.seq (AC.ops [(AOp.mk (some 81) (AK.mv (AX.t 9)) none 0 false true), (AOp.mk (some 82) (AK.mv (AX.t 11)) none 1 false true), (AOp.mk (some 83) (AK.bin false BinOp.neq (AX.t 81) (AX.t 82)) none 2 false true), (AOp.mk (some 84) (AK.mv (AX.t 83)) none 3 false true), (AOp.mk (some 85) (AK.mv (AX.t 10)) (some (84, false)) 4 false true), (AOp.mk (some 86) (AK.mv (AX.t 12)) (some (84, false)) 5 false true), (AOp.mk (some 87) (AK.bin false BinOp.neq (AX.t 85) (AX.t 86)) (some (84, false)) 6 false true), (AOp.mk (some 88) (AK.pick (AX.t 84) (AX.c (PV.val (Value.bool true))) (AX.t 87)) none 7 false true), (AOp.mk (some 89) (AK.mv (AX.t 88)) none 8 false true), (AOp.mk (some 90) (AK.ld (some 2) (AX.t 13)) (some (89, false)) 9 false true), (AOp.mk (some 91) (AK.ld (some 2) (AX.t 15)) (some (89, false)) 10 false true), (AOp.mk (some 92) (AK.eqs [CK.i, CK.i] true (AX.t 90) (AX.t 91)) (some (89, false)) 11 false true), (AOp.mk (some 93) (AK.pick (AX.t 89) (AX.c (PV.val (Value.bool true))) (AX.t 92)) none 12 false true), (AOp.mk (some 94) (AK.mv (AX.t 93)) none 13 false true), (AOp.mk (some 95) (AK.mv (AX.t 14)) (some (94, false)) 14 false true), (AOp.mk (some 96) (AK.mv (AX.t 16)) (some (94, false)) 15 false true), (AOp.mk (some 97) (AK.bin false BinOp.neq (AX.t 95) (AX.t 96)) (some (94, false)) 16 false true), (AOp.mk (some 98) (AK.pick (AX.t 94) (AX.c (PV.val (Value.bool true))) (AX.t 97)) none 17 false true)]) (AC.cond (AX.t 98) (AC.seq (AC.ops [(AOp.mk (some 4) (AK.mv (AX.c (PV.val (Value.bool false)))) none 0 false true)]) AC.ret) AC.skip)) (AC.seq (AC.ops [(AOp.mk (some 100) (AK.ld (some 10) (AX.t 2)) none 0 false true), (AOp.mk (some 101) (AK.mv (AX.t 6)) none 1 false true), (AOp.mk (some 102) (AK.call 29 [(AX.t 100), (AX.t 101)]) none 2 false true), (AOp.mk (some 99) (AK.mv (AX.t 102)) none 3 false true), (AOp.mk (some 103) (AK.ext (AX.t 99) 0) none 4 false true), (AOp.mk (some 104) (AK.ext (AX.t 99) 1) none 5 false true), (AOp.mk (some 17) (AK.new (PV.agg [(PV.val (Value.int IntKind.i64 0)), (PV.val (Value.int IntKind.i64 0))])) none 6 false true), (AOp.mk none (AK.st 2 (AX.t 17) (AX.t 103)) none 7 false true), (AOp.mk (some 10) (AK.mv (AX.t 104)) none 8 false true)]) (AC.seq (AC.ops [(AOp.mk (some 106) (AK.ld (some 10) (AX.t 5)) none 0 false true), (AOp.mk (some 107) (AK.mv (AX.t 6)) none 1 false true), (AOp.mk (some 108) (AK.call 29 [(AX.t 106), (AX.t 107)]) none 2 false true), (AOp.mk (some 105) (AK.mv (AX.t 108)) none 3 false true), (AOp.mk (some 109) (AK.ext (AX.t 105) 0) none 4 false true), (AOp.mk (some 110) (AK.ext (AX.t 105) 1) none 5 false true), (AOp.mk (some 18) (AK.new (PV.agg [(PV.val (Value.int IntKind.i64 0)), (PV.val (Value.int IntKind.i64 0))])) none 6 false true), (AOp.mk none (AK.st 2 (AX.t 18) (AX.t 109)) none 7 false true), (AOp.mk (some 12) (AK.mv (AX.t 110)) none 8 false true)]) (AC.seq (AC.seq (AC.ops [(AOp.mk (some 111) (AK.mv (AX.t 10)) none 0 true false), (AOp.mk (some 112) (AK.mv (AX.t 12)) none 1 true false), (AOp.mk (some 113) (AK.bin false BinOp.neq (AX.t 111) (AX.t 112)) none 2 true false), (AOp.mk (some 114) (AK.mv (AX.t 113)) none 3 true false), (AOp.mk (some 115) (AK.ld (some 2) (AX.t 18)) (some (114, false)) 4 true false), (AOp.mk (some 116) (AK.fadr 1 (AX.t 17)) (some (114, false)) 5 true false), (AOp.mk (some 117) (AK.ld none (AX.t 116)) (some (114, false)) 6 true false), (AOp.mk (some 118) (AK.un UnOp.neg (AX.t 117)) (some (114, false)) 7 true false), (AOp.mk (some 119) (AK.fadr 0 (AX.t 17)) (some (114, false)) 8 true false), (AOp.mk (some 120) (AK.ld none (AX.t 119)) (some (114, false)) 9 true false), (AOp.mk (some 121) (AK.un UnOp.neg (AX.t 120)) (some (114, false)) 10 true false), (AOp.mk (some 122) (AK.call 46 [(AX.t 118), (AX.t 121)]) (some (114, false)) 11 false false), (AOp.mk (some 123) (AK.eqs [CK.i, CK.i] true (AX.t 115) (AX.t 122)) (some (114, false)) 12 true false), (AOp.mk (some 124) (AK.pick (AX.t 114) (AX.c (PV.val (Value.bool true))) (AX.t 123)) none 13 true false)]) (AC.cond (AX.t 124) (AC.seq (AC.ops [(AOp.mk (some 4) (AK.mv (AX.c (PV.val (Value.bool false)))) none 0 false true)]) AC.ret) AC.skip)) (AC.seq (AC.ops [(AOp.mk (some 126) (AK.ld (some 10) (AX.t 2)) none 0 false true), (AOp.mk (some 127) (AK.mv (AX.t 8)) none 1 false true), (AOp.mk (some 128) (AK.call 31 [(AX.t 126), (AX.t 127)]) none 2 false true), (AOp.mk (some 125) (AK.mv (AX.t 128)) none 3 false true), (AOp.mk (some 129) (AK.ext (AX.t 125) 0) none 4 false true), (AOp.mk (some 130) (AK.ext (AX.t 125) 1) none 5 false true), (AOp.mk (some 9) (AK.mv (AX.t 129)) none 6 false true), (AOp.mk (some 10) (AK.mv (AX.t 130)) none 7 false true)]) (AC.seq (AC.ops [(AOp.mk (some 132) (AK.ld (some 10) (AX.t 5)) none 0 false true), (AOp.mk (some 133) (AK.mv (AX.t 8)) none 1 false true), (AOp.mk (some 134) (AK.un UnOp.neg (AX.t 133)) none 2 false true), (AOp.mk (some 135) (AK.call 31 [(AX.t 132), (AX.t 134)]) none 3 false true), (AOp.mk (some 131) (AK.mv (AX.t 135)) none 4 false true), (AOp.mk (some 136) (AK.ext (AX.t 131) 0) none 5 false true), (AOp.mk (some 137) (AK.ext (AX.t 131) 1) none 6 false true), (AOp.mk (some 11) (AK.mv (AX.t 136)) none 7 false true), (AOp.mk (some 12) (AK.mv (AX.t 137)) none 8 false true)]) (AC.seq (AC.ops [(AOp.mk (some 139) (AK.ld (some 10) (AX.t 2)) none 0 false true), (AOp.mk (some 140) (AK.call 33 [(AX.t 139)]) none 1 false true), (AOp.mk (some 138) (AK.mv (AX.t 140)) none 2 false true), (AOp.mk (some 141) (AK.ext (AX.t 138) 0) none 3 false true), (AOp.mk (some 142) (AK.ext (AX.t 138) 1) none 4 false true), (AOp.mk (some 19) (AK.mv (AX.t 141)) none 5 false true), (AOp.mk (some 14) (AK.mv (AX.t 142)) none 6 false true)]) (AC.seq (AC.ops [(AOp.mk (some 144) (AK.ld (some 10) (AX.t 5)) none 0 false true), (AOp.mk (some 145) (AK.call 33 [(AX.t 144)]) none 1 false true), (AOp.mk (some 143) (AK.mv (AX.t 145)) none 2 false true), (AOp.mk (some 146) (AK.ext (AX.t 143) 0) none 3 false true), (AOp.mk (some 147) (AK.ext (AX.t 143) 1) none 4 false true), (AOp.mk (some 20) (AK.mv (AX.t 146)) none 5 false true), (AOp.mk (some 16) (AK.mv (AX.t 147)) none 6 false true)]) (AC.seq (AC.ops [(AOp.mk (some 149) (AK.ld (some 10) (AX.t 2)) none 0 false true), (AOp.mk (some 150) (AK.call 35 [(AX.t 149)]) none 1 false true), (AOp.mk (some 148) (AK.mv (AX.t 150)) none 2 false true), (AOp.mk (some 151) (AK.ext (AX.t 148) 0) none 3 false true), (AOp.mk (some 152) (AK.ext (AX.t 148) 1) none 4 false true), (AOp.mk (some 21) (AK.mv (AX.t 151)) none 5 false true), (AOp.mk (some 22) (AK.mv (AX.t 152)) none 6 false true)]) (AC.seq (AC.ops [(AOp.mk (some 154) (AK.ld (some 10) (AX.t 5)) none 0 false true), (AOp.mk (some 155) (AK.call 35 [(AX.t 154)]) none 1 false true), (AOp.mk (some 153) (AK.mv (AX.t 155)) none 2 false true), (AOp.mk (some 156) (AK.ext (AX.t 153) 0) none 3 false true), (AOp.mk (some 157) (AK.ext (AX.t 153) 1) none 4 false true), (AOp.mk (some 23) (AK.mv (AX.t 156)) none 5 false true), (AOp.mk (some 24) (AK.mv (AX.t 157)) none 6 false true)]) (AC.seq (AC.ops [(AOp.mk (some 158) (AK.mv (AX.t 9)) none 0 false true), (AOp.mk (some 159) (AK.mv (AX.t 11)) none 1 false true), (AOp.mk (some 160) (AK.bin false BinOp.eql (AX.t 158) (AX.t 159)) none 2 false true), (AOp.mk (some 161) (AK.mv (AX.t 160)) none 3 false true), (AOp.mk (some 162) (AK.mv (AX.t 10)) (some (161, true)) 4 false true), (AOp.mk (some 163) (AK.mv (AX.t 12)) (some (161, true)) 5 false true), (AOp.mk (some 164) (AK.bin false BinOp.eql (AX.t 162) (AX.t 163)) (some (161, true)) 6 false true), (AOp.mk (some 165) (AK.pick (AX.t 161) (AX.t 164) (AX.c (PV.val (Value.bool false)))) none 7 false true), (AOp.mk (some 166) (AK.mv (AX.t 165)) none 8 false true), (AOp.mk (some 167) (AK.mv (AX.t 19)) (some (166, true)) 9 false true), (AOp.mk (some 168) (AK.mv (AX.t 20)) (some (166, true)) 10 false true), (AOp.mk (some 169) (AK.bin false BinOp.eql (AX.t 167) (AX.t 168)) (some (166, true)) 11 false true), (AOp.mk (some 170) (AK.pick (AX.t 166) (AX.t 169) (AX.c (PV.val (Value.bool false)))) none 12 false true), (AOp.mk (some 171) (AK.mv (AX.t 170)) none 13 false true), (AOp.mk (some 172) (AK.mv (AX.t 14)) (some (171, true)) 14 false true), (AOp.mk (some 173) (AK.mv (AX.t 16)) (some (171, true)) 15 false true), (AOp.mk (some 174) (AK.bin false BinOp.eql (AX.t 172) (AX.t 173)) (some (171, true)) 16 false true), (AOp.mk (some 175) (AK.pick (AX.t 171) (AX.t 174) (AX.c (PV.val (Value.bool false)))) none 17 false true), (AOp.mk (some 176) (AK.mv (AX.t 175)) none 18 false true), (AOp.mk (some 177) (AK.mv (AX.t 21)) (some (176, true)) 19 false true), (AOp.mk (some 178) (AK.mv (AX.t 23)) (some (176, true)) 20 false true), (AOp.mk (some 179) (AK.call 37 [(AX.t 177), (AX.t 178)]) (some (176, true)) 21 false true), (AOp.mk (some 180) (AK.pick (AX.t 176) (AX.t 179) (AX.c (PV.val (Value.bool false)))) none 22 false true), (AOp.mk (some 181) (AK.mv (AX.t 180)) none 23 false true), (AOp.mk (some 182) (AK.mv (AX.t 22)) (some (181, true)) 24 false true), (AOp.mk (some 183) (AK.mv (AX.t 24)) (some (181, true)) 25 false true), (AOp.mk (some 184) (AK.bin false BinOp.eql (AX.t 182) (AX.t 183)) (some (181, true)) 26 false true), (AOp.mk (some 185) (AK.pick (AX.t 181) (AX.t 184) (AX.c (PV.val (Value.bool false)))) none 27 false true), (AOp.mk (some 186) (AK.mv (AX.t 185)) none 28 false true), (AOp.mk (some 187) (AK.mv (AX.t 22)) (some (186, true)) 29 false true), (AOp.mk (some 188) (AK.bin false BinOp.eql (AX.t 187) (AX.c (PV.val (Value.int IntKind.i64 0)))) (some (186, true)) 30 false true), (AOp.mk (some 189) (AK.pick (AX.t 186) (AX.t 188) (AX.c (PV.val (Value.bool false)))) none 31 false true), (AOp.mk (some 190) (AK.mv (AX.t 189)) none 32 false true), (AOp.mk (some 191) (AK.call 24 []) (some (190, true)) 33 false true), (AOp.mk (some 192) (AK.pick (AX.t 190) (AX.t 191) (AX.c (PV.val (Value.bool false)))) none 34 false true), (AOp.mk (some 4) (AK.mv (AX.t 192)) none 35 false true)]) AC.ret)))))))))))))))))))
theorem ac9_ok : cCode Try.prog (fun _ => false) Try.f9.ntmps (Try.f9.body.getD .skip) = some ac9 := by kernel_rfl
def slP (o : Option Nat) (l : List SPart) : PV :=
  match o with
  | none => .sl .full 0 []
  | some t => .sl (.own t 70 4) 4 (l.map partC)
theorem slP_le (o : Option Nat) {l : List SPart} (h : o = none → l = []) : PVle (slP o l) (.sl .sh 4 (l.map partC)) := by
  cases o with
  | none => rw [h rfl]; exact PVle.nil .full 0 4
  | some t => exact PVle.sh _ _ _
theorem slT_le (o : Option Nat) {l : List STrial} (h : o = none → l = []) : PVle (slT o l) (.sl .sh 3 (l.map trialC)) := by
  cases o with
  | none => rw [h rfl]; exact PVle.nil .full 0 3
  | some t => exact PVle.sh _ _ _
theorem map_take_succ {α β : Type} (f : α → β) (l : List α) (j : Nat) (h : j < l.length) : (l.take (j + 1)).map f = (l.take j).map f ++ [f l[j]] := by
  rw [List.take_succ_eq_append_getElem h, List.map_append]; rfl
theorem turned_sem {b : SBook} (ho : okBook b) : Sem1 45 [.agg (bookC .sh .sh b)] (.agg (bookC .sh .sh (turnB b))) := by
  have hg := ok_rng ho
  have ha := ho.2.1
  unfold okSeat at ha
  have hpl := ho.2.2.1
  have htl := ho.2.2.2.1
  have z1 : IntKind.i64.wrap (0 - b.along) = -b.along := by rw [wrap_id (by omega) (by omega)]; omega
  refine semC_of_exec' mixed Try.func45 (by kernel_rfl) (by kernel_rfl) ac45_ok 1 rfl (by decide) [(.cell 2 25)] (by kernel_rfl) ?_
  intro hr C hC hI
  unfold ac45
  simp only [go_sem, Nat.reduceBEq, Nat.reduceAdd, Nat.reduceLeDiff, Nat.reduceEqDiff, putCells, z1]
  obtain ⟨Z, hZ⟩ : ∃ Z : List AV, Z = [.p (pi 0), .p (pi 0), .p (pi 0), .p (pi 0), .p (.sl .full 0 []), .p (pi 0), .p (pi 0), .p (pi 0), .p (pi 0), .p (.sl .full 0 [])] := ⟨_, rfl⟩
  have hZl : ∀ n, AV.lo.loL n Z = true := fun n => by rw [hZ]; rfl
  refine ⟨{x : Nat × Option Nat // x.1 ≤ b.parts.length ∧ (x.2 = none → (b.parts.take x.1).map turnP = [])}, fun x => ⟨[(4, .p (pi x.1.1)), (3, .loc 2 0), (2, .loc 1 0), (1, .loc 0 0)], [.cells ((bookC .sh .sh b).map .p), .cells Z, .cells [.p (pi b.kind), .p (pi b.back), .p (pi b.front), .p (pi b.radius), .p (slP x.1.2 ((b.parts.take x.1.1).map turnP)), .p (pi (-b.along)), .p (pi b.high), .p (pi b.lean), .p (pi b.limit), .p (.sl .full 0 [])]], x.1.2.toList, some [], 0⟩, fun x => b.parts.length - x.1.1, ⟨(0, none), by simp, fun _ => rfl⟩, by rw [hZ]; simp [Wk, wkT, wkL, look, AV.lo, AV.lo.loL, slP], ?_⟩
  rintro ⟨⟨j, o⟩, hj, hoj⟩
  simp only at hj hoj
  simp only [go_sem, Nat.reduceBEq, List.length_map]
  refine ⟨fun h5 => ?_, fun h5 => ?_⟩
  · have hj2 : j < b.parts.length := by omega
    have hs := map_take_succ turnP b.parts j hj2
    have hp := ho.2.2.2.2.1 _ (List.getElem_mem hj2)
    have e := iadr_map (f := partC) (kd := .sh) (sz := 4) hj2
    obtain ⟨P, hP⟩ : ∃ P, b.parts[j] = P := ⟨_, rfl⟩
    rw [hP] at hs hp e
    unfold okPart at hp
    have z2 : IntKind.i64.wrap (0 - P.along) = -P.along := by rw [wrap_id (by omega) (by omega)]; omega
    obtain ⟨L, hL⟩ : ∃ L, (b.parts.take j).map turnP = L := ⟨_, rfl⟩
    have hLl : L.length ≤ j := by rw [← hL, List.length_map, List.length_take]; omega
    rw [hL] at hs hoj
    simp only [hL]
    cases o with
    | none =>
      rw [hoj rfl] at hs
      simp only [slP]
      simp only [go_sem, Nat.reduceBEq, Nat.reduceAdd, Nat.reduceLeDiff, Nat.reduceEqDiff, e, partC, putCells, z2, wrap_succ (k := j) (by omega)]
      intro tk _
      refine ⟨⟨(j + 1, some tk), by simp only; omega, fun h => by cases h⟩, by simp only; omega, ?_⟩
      simp only [hs]
      simp [Wk, wkT, wkL, look, AV.lo, AV.lo.loL, partC, turnP, hZl]
    | some tk =>
      simp only [slP]
      simp only [go_sem, Nat.reduceBEq, Nat.reduceAdd, Nat.reduceLeDiff, e, partC, putCells, z2, wrap_succ (k := j) (by omega)]
      refine ⟨by rw [List.length_map]; omega, by simp, fun t2 _ => ?_⟩
      refine ⟨⟨(j + 1, some t2), by simp only; omega, fun h => by cases h⟩, by simp only; omega, ?_⟩
      simp only [hs]
      simp [Wk, wkT, wkL, look, AV.lo, AV.lo.loL, partC, turnP, hZl]
  · have hjn : j = b.parts.length := by omega
    subst hjn
    simp only [List.take_length] at hoj ⊢
    refine ⟨{x : Nat × Option Nat // x.1 ≤ b.trials.length ∧ (x.2 = none → (b.trials.take x.1).map turnTr = [])}, fun x => ⟨[(6, .p (pi x.1.1)), (3, .loc 2 0), (2, .loc 1 0), (1, .loc 0 0)], [.cells ((bookC .sh .sh b).map .p), .cells Z, .cells [.p (pi b.kind), .p (pi b.back), .p (pi b.front), .p (pi b.radius), .p (slP o (b.parts.map turnP)), .p (pi (-b.along)), .p (pi b.high), .p (pi b.lean), .p (pi b.limit), .p (slT x.1.2 ((b.trials.take x.1.1).map turnTr))]], x.1.2.toList, some [], 0⟩, fun x => b.trials.length - x.1.1, ⟨(0, none), by simp, fun _ => rfl⟩, by cases o <;> simp [Wk, wkT, wkL, look, AV.lo, AV.lo.loL, slP, slT, hZl], ?_⟩
    rintro ⟨⟨i, q⟩, hi, hqi⟩
    simp only at hi hqi
    simp only [go_sem, Nat.reduceBEq, Nat.reduceAdd, List.length_map]
    refine ⟨fun h5 => ?_, fun h5 => ?_⟩
    · have hi2 : i < b.trials.length := by omega
      have hs := map_take_succ turnTr b.trials i hi2
      have hp := ho.2.2.2.2.2 _ (List.getElem_mem hi2)
      have e := iadr_map (f := trialC) (kd := .sh) (sz := 3) hi2
      obtain ⟨P, hP⟩ : ∃ P, b.trials[i] = P := ⟨_, rfl⟩
      rw [hP] at hs hp e
      unfold okTrial at hp
      have z2 : IntKind.i64.wrap (0 - P.lean) = -P.lean := by rw [wrap_id (by omega) (by omega)]; omega
      obtain ⟨L, hL⟩ : ∃ L, (b.trials.take i).map turnTr = L := ⟨_, rfl⟩
      have hLl : L.length ≤ i := by rw [← hL, List.length_map, List.length_take]; omega
      rw [hL] at hs hqi
      simp only [hL]
      obtain ⟨Y, hY⟩ : ∃ Y, slP o (b.parts.map turnP) = Y := ⟨_, rfl⟩
      have hY1 : cellsA 1 (.p Y) = some [.p Y] := by rw [← hY]; cases o <;> rfl
      simp only [hY]
      cases q with
      | none =>
        rw [hqi rfl] at hs
        simp only [slT]
        simp only [go_sem, Nat.reduceBEq, Nat.reduceAdd, Nat.reduceLeDiff, Nat.reduceEqDiff, e, trialC, putCells, z2, wrap_succ (k := i) (by omega)]
        intro tk _
        refine ⟨⟨(i + 1, some tk), by simp only; omega, fun h => by cases h⟩, by simp only; omega, ?_⟩
        simp only [hs]
        simp [Wk, wkT, wkL, look, AV.lo, AV.lo.loL, trialC, turnTr, hZl]
      | some tk =>
        simp only [slT]
        simp only [go_sem, Nat.reduceBEq, Nat.reduceAdd, Nat.reduceLeDiff, e, trialC, putCells, z2, wrap_succ (k := i) (by omega)]
        refine ⟨by rw [List.length_map]; omega, by simp, fun t2 _ => ?_⟩
        refine ⟨⟨(i + 1, some t2), by simp only; omega, fun h => by cases h⟩, by simp only; omega, ?_⟩
        simp only [hs]
        simp [Wk, wkT, wkL, look, AV.lo, AV.lo.loL, trialC, turnTr, hZl]
    · have hin : i = b.trials.length := by omega
      subst hin
      simp only [List.take_length] at hqi ⊢
      subst hZ
      cases o <;> cases q
      all_goals
        simp only [slP, slT]
        simp only [go_sem, Nat.reduceAdd]
        refine retQ_cell_le (n := some 10) (by kernel_rfl) rfl ?_ rfl
      · exact PVle.agg ⟨PVle.refl _, PVle.refl _, PVle.refl _, PVle.refl _, slP_le none hoj, PVle.refl _, PVle.refl _, PVle.refl _, PVle.refl _, slT_le none hqi, trivial⟩
      · exact PVle.agg ⟨PVle.refl _, PVle.refl _, PVle.refl _, PVle.refl _, slP_le none hoj, PVle.refl _, PVle.refl _, PVle.refl _, PVle.refl _, PVle.sh _ _ _, trivial⟩
      · exact PVle.agg ⟨PVle.refl _, PVle.refl _, PVle.refl _, PVle.refl _, PVle.sh _ _ _, PVle.refl _, PVle.refl _, PVle.refl _, PVle.refl _, slT_le none hqi, trivial⟩
      · exact PVle.agg ⟨PVle.refl _, PVle.refl _, PVle.refl _, PVle.refl _, PVle.sh _ _ _, PVle.refl _, PVle.refl _, PVle.refl _, PVle.refl _, PVle.sh _ _ _, trivial⟩
/- What is told of both. -/
theorem turn_child (b : SBook) (w n : Int) : childI (turnB b) w (-n) = childI b w n := by
  unfold childI
  show (decide (1 ≤ w ∧ w ≤ b.limit) && decide (-b.lean ≤ -n ∧ -n ≤ b.lean)) = _
  congr 1
  exact decide_eq_decide.2 (by omega)
theorem two_tips (b : SBook) (w n : Int) : ∃ a e : Int, Sem1 20 [.agg (bookC .sh .sh b), pi w, pi n] (.tup [pi a, pi e]) ∧ Sem1 20 [.agg (bookC .sh .sh (turnB b)), pi w, pi (-n)] (.tup [pi a, pi e]) := by
  have h1 := Tips_any .sh .sh b w n
  have h2 := Tips_any .sh .sh (turnB b) w (-n)
  have e1 : answerI (turnB b) (loadsI (turnB b)) w (-n) = answerI b (loadsI b) w n := by
    unfold answerI
    rw [turn_loads, turn_count, List.length_map]
  rw [turn_child, turn_err, e1] at h2
  split at h1
  · rename_i h; rw [if_pos h] at h2; exact ⟨_, _, h1, h2⟩
  · rename_i h; rw [if_neg h] at h2; exact ⟨_, _, h1, h2⟩
theorem two_margin (b : SBook) (w n : Int) : ∃ p q e : Int, Sem1 22 [.agg (bookC .sh .sh b), pi w, pi n] (.tup [.agg [pi p, pi q], pi e]) ∧ Sem1 22 [.agg (bookC .sh .sh (turnB b)), pi w, pi (-n)] (.tup [.agg [pi p, pi q], pi e]) := by
  have h1 := Margin_any .sh .sh b w n
  have h2 := Margin_any .sh .sh (turnB b) w (-n)
  rw [turn_child, turn_err, turn_loads, turn_lm] at h2
  split at h1
  · rename_i h; rw [if_pos h] at h2; exact ⟨_, _, _, h1, h2⟩
  · rename_i h; rw [if_neg h] at h2; exact ⟨_, _, _, h1, h2⟩
theorem turn_holds (b : SBook) (ls : List SLoad) (w n : Int) : holdsI (turnB b) (ls.map turnL) w (-n) ↔ holdsI b ls w n := by
  rw [← count_zero, ← count_zero, turn_count]
theorem two_room {b : SBook} (ho : okBook b) {w : Int} (hw : 1 ≤ w ∧ w ≤ b.limit) : ∃ lo hi e : Int, (-12 ≤ lo ∧ lo ≤ 12) ∧ (-12 ≤ hi ∧ hi ≤ 12) ∧ Sem1 29 [.agg (bookC .sh .sh b), pi w] (.tup [.agg [pi lo, pi hi], pi e]) ∧ Sem1 29 [.agg (bookC .sh .sh (turnB b)), pi w] (.tup [.agg [pi (-hi), pi (-lo)], pi e]) := by
  have hg := ok_rng ho
  have hot := (turn_ok b).2 ho
  by_cases hT : truthL b = []
  · exact ⟨0, 0, 22, by omega, by omega, Room_F ho hT hw, Room_F hot (by rw [turn_truthL]; exact hT) hw⟩
  · have hTt : truthL (turnB b) ≠ [] := by rw [turn_truthL]; exact hT
    by_cases hc : holdsI b (loadsI b) w 0
    · have hct : holdsI (turnB b) (loadsI (turnB b)) w 0 := by rw [turn_loads]; exact (turn_holds b (loadsI b) w 0).2 hc
      have h1 := Room_S (k := .sh) (k2 := .sh) ho hT hw hc
      have h2 := Room_S (k := .sh) (k2 := .sh) hot hTt hw hct
      have e1 := turn_far b (loadsI b) w 1 b.lean.toNat 0
      have e2 := turn_far b (loadsI b) w (-1) b.lean.toNat 0
      rw [turn_loads] at h2
      rw [show (turnB b).lean = b.lean from rfl, show farI (turnB b) (List.map turnL (loadsI b)) w (-1) b.lean.toNat 0 = -farI b (loadsI b) w 1 b.lean.toNat 0 from e1, show farI (turnB b) (List.map turnL (loadsI b)) w 1 b.lean.toNat 0 = -farI b (loadsI b) w (-1) b.lean.toNat 0 from e2] at h2
      obtain ⟨k1, a1, a2, -, -⟩ := far_facts b (loadsI b) w (-1) (.inr rfl) b.lean.toNat 0
      obtain ⟨k2, c1, c2, -, -⟩ := far_facts b (loadsI b) w 1 (.inl rfl) b.lean.toNat 0
      exact ⟨_, _, 0, by omega, by omega, h1, h2⟩
    · have hct : ¬ holdsI (turnB b) (loadsI (turnB b)) w 0 := by rw [turn_loads]; exact fun h => hc ((turn_holds b (loadsI b) w 0).1 h)
      exact ⟨0, 0, 4, by omega, by omega, Room_N ho hT hw hc, Room_N hot hTt hw hct⟩
theorem two_lead {b : SBook} {a : Int} : ∃ n e : Int, Sem1 31 [.agg (bookC .sh .sh b), pi a] (.tup [pi n, pi e]) ∧ Sem1 31 [.agg (bookC .sh .sh (turnB b)), pi (-a)] (.tup [pi n, pi e]) := by
  have h1 := Lead_sem .sh .sh b a
  have h2 := Lead_sem .sh .sh (turnB b) (-a)
  rw [show decide (-60 ≤ -a ∧ -a ≤ 60) = decide (-60 ≤ a ∧ a ≤ 60) from decide_eq_decide.2 (by omega), turn_err, turn_loads, turn_lead] at h2
  split at h1
  · rename_i h
    rw [if_pos h] at h2
    split at h1
    · rename_i j hj; rw [hj] at h2; exact ⟨_, _, h1, h2⟩
    · rename_i hj; rw [hj] at h2; exact ⟨_, _, h1, h2⟩
  · rename_i h; rw [if_neg h] at h2; exact ⟨_, _, h1, h2⟩
theorem two_wider {b : SBook} : ∃ n e : Int, Sem1 33 [.agg (bookC .sh .sh b)] (.tup [pi n, pi e]) ∧ Sem1 33 [.agg (bookC .sh .sh (turnB b))] (.tup [pi n, pi e]) := by
  have h1 := Wider_sem .sh .sh b
  have h2 := Wider_sem .sh .sh (turnB b)
  rw [turn_err, show widerI (turnB b) (loadsI (turnB b)) = widerI b (loadsI b) by rw [turn_loads]; exact turn_wider b (loadsI b)] at h2
  split at h1
  · rename_i h
    rw [if_pos h] at h2
    split at h1
    · rename_i j hj; rw [hj] at h2; exact ⟨_, _, h1, h2⟩
    · rename_i hj; rw [hj] at h2; exact ⟨_, _, h1, h2⟩
  · rename_i h; rw [if_neg h] at h2; exact ⟨_, _, h1, h2⟩
theorem turn_wrongI (b : SBook) (ws : List Int) : wrongI (turnB b) ws = wrongI b ws := by
  unfold wrongI
  rw [show (turnB b).trials.length = b.trials.length by simp [turnB]]
  congr 2
  funext i
  congr 1
  show ((b.trials.map turnTr)[i]?).elim true (rightI (turnB b) ws) = _
  rw [List.getElem?_map]
  cases b.trials[i]? with
  | none => rfl
  | some t => exact turn_right b ws t
theorem turn_few (b : SBook) : fewI (turnB b) = fewI b := by
  unfold fewI fewO
  rw [all_nil (plainB (turnB b)) rfl, all_nil (plainB b) rfl, show allW (plainB (turnB b)) = allW (plainB b) from turn_allW b]
  have : fewS (turnB b) = fewS b := by
    funext o ws
    unfold fewS
    rw [turn_wrongI]
  rw [this]
set_option maxRecDepth 100000 in
theorem StandTurned_law (b : SBook) (n0 n1 n2 : Int) : Sem1 9 [.agg (bookC .sh .sh b), .agg [pi n0, pi n1, pi n2]] (pb true) := by
  have e10 : iadrAS 1 3 (.loc 1 0) (.p (pi 0)) = some (.loc 1 0) := rfl
  have e11 : iadrAS 1 3 (.loc 1 0) (.p (pi 1)) = some (.loc 1 1) := rfl
  have e12 : iadrAS 1 3 (.loc 1 0) (.p (pi 2)) = some (.loc 1 2) := rfl
  refine semC_of_exec' mixed Try.func9 (by kernel_rfl) (by kernel_rfl) ac9_ok 2 rfl (by decide) [(.tmp 4)] (by kernel_rfl) ?_
  intro hr C hC hI
  unfold ac9
  simp only [go_sem, Nat.reduceBEq, Nat.reduceAdd]
  refine call_pure2 hC (sound_sem ..) rfl (PVleL_refl _) ?_
  rintro r rfl
  simp only [go_sem, Nat.reduceBEq, Nat.reduceAdd]
  refine ⟨fun _ => ?_, fun ho => ?_⟩
  · refine call_pure2 hC (stood_sem) rfl (PVleL_refl _) ?_
    rintro r rfl
    simp only [go_sem, Nat.reduceBEq]
    exact retQ_one rfl rfl
  have hg := ok_rng ho
  have hot := (turn_ok b).2 ho
  have r1 := rndI_range (n := n0) (m := b.limit) (by omega)
  have r2 := rndI_range (n := n1) (m := 2 * b.lean + 1) (by omega)
  have r3 := rndI_range (n := n2) (m := 121) (by omega)
  obtain ⟨w, hw⟩ : ∃ w, 1 + rndI n0 b.limit = w := ⟨_, rfl⟩
  obtain ⟨v, hv⟩ : ∃ v, rndI n1 (2 * b.lean + 1) - b.lean = v := ⟨_, rfl⟩
  obtain ⟨a, ha⟩ : ∃ v, rndI n2 121 - 60 = v := ⟨_, rfl⟩
  have hwr : 1 ≤ w ∧ w ≤ b.limit := by omega
  have hzv : IntKind.i64.wrap (0 - v) = -v := by rw [wrap_id (by omega) (by omega)]; omega
  have hza : IntKind.i64.wrap (0 - a) = -a := by rw [wrap_id (by omega) (by omega)]; omega
  obtain ⟨ta, te, t1, t2⟩ := two_tips b w v
  obtain ⟨mp, mq, me, m1, m2⟩ := two_margin b w v
  obtain ⟨lo, hi, re, rl, rh, q1, q2⟩ := two_room ho hwr
  obtain ⟨ln, le, l1, l2⟩ := two_lead (b := b) (a := a)
  obtain ⟨wn, we, w1, w2⟩ := two_wider (b := b)
  have hzl : IntKind.i64.wrap (0 - lo) = -lo := by rw [wrap_id (by omega) (by omega)]; omega
  have hzh : IntKind.i64.wrap (0 - hi) = -hi := by rw [wrap_id (by omega) (by omega)]; omega
  have hW2 := Wrong_ok (k := .sh) (k2 := .sh) hot
  rw [turn_few] at hW2
  refine call_pure2 hC (turned_sem ho) rfl (PVleL_refl _) ?_
  rintro r rfl
  simp only [go_sem, Nat.reduceBEq, Nat.reduceAdd, putCells, e10, e11, e12, wrap_id (n := 2 * b.lean) (by omega) (by omega), wrap_id (n := 2 * b.lean + 1) (by omega) (by omega)]
  refine call_pure2 hC (Round_sem n0 b.limit) rfl (PVleL_refl _) ?_
  rintro r rfl
  simp only [go_sem, Nat.reduceBEq, hw, wrap_id (n := w) (by omega) (by omega)]
  refine call_pure2 hC (Round_sem n1 (2 * b.lean + 1)) rfl (PVleL_refl _) ?_
  rintro r rfl
  simp only [go_sem, Nat.reduceBEq, hv, wrap_id (n := v) (by omega) (by omega)]
  refine call_pure2 hC (Round_sem n2 121) rfl (PVleL_refl _) ?_
  rintro r rfl
  simp only [go_sem, Nat.reduceBEq, Nat.reduceAdd, ha, wrap_id (n := a) (by omega) (by omega)]
  refine call_pure2 hC (t1) rfl (PVleL_refl _) ?_
  rintro r rfl
  simp only [go_sem, Nat.reduceBEq, Nat.reduceAdd, hzv]
  refine call_pure2 hC (t2) rfl (PVleL_refl _) ?_
  rintro r rfl
  simp only [go_sem, Nat.reduceBEq, Nat.reduceAdd]
  refine call_pure2 hC (m1) rfl (PVleL_refl _) ?_
  rintro r rfl
  simp only [go_sem, Nat.reduceBEq, Nat.reduceAdd, putCells, hzv]
  refine call_pure2 hC (m2) rfl (PVleL_refl _) ?_
  rintro r rfl
  simp only [go_sem, Nat.reduceBEq, Nat.reduceAdd, putCells, decide_true, decide_false, not_true_eq_false, Bool.true_and, Bool.not_true, not_false_eq_true]
  refine call_pure2 hC (q1) rfl (PVleL_refl _) ?_
  rintro r rfl
  simp only [go_sem, Nat.reduceBEq, Nat.reduceAdd, putCells]
  refine call_pure2 hC (q2) rfl (PVleL_refl _) ?_
  rintro r rfl
  simp only [go_sem, Nat.reduceBEq, Nat.reduceAdd, putCells, decide_false, not_true_eq_false, Bool.false_eq_true, not_false_eq_true, hzl, hzh]
  refine call_pure2 hC (From_sem ..) rfl (PVleL_refl _) ?_
  rintro r rfl
  simp only [go_sem, Nat.reduceBEq, Nat.reduceAdd, decide_true, Bool.true_and, Bool.not_true]
  refine call_pure2 hC (l1) rfl (PVleL_refl _) ?_
  rintro r rfl
  simp only [go_sem, Nat.reduceBEq, Nat.reduceAdd, hza]
  refine call_pure2 hC (l2) rfl (PVleL_refl _) ?_
  rintro r rfl
  simp only [go_sem, Nat.reduceBEq, Nat.reduceAdd]
  refine call_pure2 hC (w1) rfl (PVleL_refl _) ?_
  rintro r rfl
  simp only [go_sem, Nat.reduceBEq, Nat.reduceAdd]
  refine call_pure2 hC (w2) rfl (PVleL_refl _) ?_
  rintro r rfl
  simp only [go_sem, Nat.reduceBEq, Nat.reduceAdd]
  refine call_pure2 hC (Wrong_ok ho) rfl (PVleL_refl _) ?_
  rintro r rfl
  simp only [go_sem, Nat.reduceBEq, Nat.reduceAdd]
  refine call_pure2 hC (hW2) rfl (PVleL_refl _) ?_
  rintro r rfl
  simp only [go_sem, Nat.reduceBEq, decide_true]
  refine call_pure2 hC (Equal_sem ..) rfl (PVleL_refl _) ?_
  rintro r rfl
  simp only [go_sem, Nat.reduceBEq, decide_true]
  refine call_pure2 hC (stood_sem) rfl (PVleL_refl _) ?_
  rintro r rfl
  simp only [go_sem, Nat.reduceBEq]
  exact retQ_one rfl rfl
set_option maxRecDepth 100000 in
theorem StandTurned_row {l0 l1 : List PV} (T0 : Ty Try.prog 10 25 l0) (T1 : Ty Try.prog 10 60 l1) : SemC Try.prog 9 [argPV Try.prog 25 l0, argPV Try.prog 60 l1] (fun r => r = pb true) := by
  obtain ⟨b, rfl⟩ := ty_book T0
  obtain ⟨n0, n1, n2, rfl⟩ := ty_three T1
  rw [argStruct Try.underlying25, argArray Try.underlying60]
  exact StandTurned_law b n0 n1 n2
end Go.Proofs.Ytgniamjempccmaa
