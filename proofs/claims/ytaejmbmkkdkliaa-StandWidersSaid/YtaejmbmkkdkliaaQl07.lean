/- StandWiders returns true: Lead, Wider and Wrong answer as the reference does; for every book and every number; no condition. StandTips, StandSafes, StandWiders. -/
import Derived.Test.YtaejmbmkkdkliaaQl06
import Derived.Test.YtaejmbmkkdkliaaGa23
import Derived.Test.YtaejmbmkkdkliaaGa21
namespace Go.Proofs.Ytaejmbmkkdkliaa
open Go.RowKit
def ac3 : AC := (AC.seq (AC.ops [(AOp.mk (some 2) (AK.box 10 (AX.t 0)) none 0 false true), (AOp.mk (some 3) (AK.box 2 (AX.t 1)) none 1 false true), (AOp.mk (some 4) (AK.mv (AX.c (PV.val (Value.bool false)))) none 2 false true)]) (AC.seq (AC.ops [(AOp.mk (some 14) (AK.ld (some 10) (AX.t 2)) none 0 false true), (AOp.mk (some 15) (AK.call 16 [(AX.t 14)]) none 1 false true), (AOp.mk (some 13) (AK.mv (AX.t 15)) none 2 false true), (AOp.mk (some 16) (AK.ext (AX.t 13) 0) none 3 false true), (AOp.mk (some 17) (AK.ext (AX.t 13) 1) none 4 false true), (AOp.mk (some 5) (AK.mv (AX.t 16)) none 5 false true), (AOp.mk (some 6) (AK.mv (AX.t 17)) none 6 false true)]) (AC.seq (AC.ops [(AOp.mk (some 19) (AK.ld (some 10) (AX.t 2)) none 0 false true), (AOp.mk (some 20) (AK.call 17 [(AX.t 19)]) none 1 false true), (AOp.mk (some 18) (AK.mv (AX.t 20)) none 2 false true), (AOp.mk (some 21) (AK.ext (AX.t 18) 0) none 3 false true), (AOp.mk (some 22) (AK.ext (AX.t 18) 1) none 4 false true), (AOp.mk (some 7) (AK.mv (AX.t 21)) none 5 false true), (AOp.mk (some 8) (AK.mv (AX.t 22)) none 6 false true)]) (AC.seq (AC.seq (AC.ops [(AOp.mk (some 23) (AK.mv (AX.t 5)) none 0 true false), (AOp.mk (some 24) (AK.mv (AX.t 7)) none 1 true false), (AOp.mk (some 25) (AK.bin true BinOp.neq (AX.t 23) (AX.t 24)) none 2 true false), (AOp.mk (some 26) (AK.mv (AX.t 25)) none 3 true false), (AOp.mk (some 27) (AK.mv (AX.t 6)) (some (26, false)) 4 true false), (AOp.mk (some 28) (AK.mv (AX.t 8)) (some (26, false)) 5 true false), (AOp.mk (some 29) (AK.bin false BinOp.neq (AX.t 27) (AX.t 28)) (some (26, false)) 6 true false), (AOp.mk (some 30) (AK.pick (AX.t 26) (AX.c (PV.val (Value.bool true))) (AX.t 29)) none 7 true false), (AOp.mk (some 31) (AK.mv (AX.t 30)) none 8 true false), (AOp.mk (some 32) (AK.ld (some 10) (AX.t 2)) (some (31, false)) 9 true false), (AOp.mk (some 34) (AK.ld (some 10) (AX.t 2)) (some (31, false)) 11 true false), (AOp.mk (some 33) (AK.call 18 [(AX.t 32)]) (some (31, false)) 10 false false), (AOp.mk (some 35) (AK.call 19 [(AX.t 34)]) (some (31, false)) 12 false false), (AOp.mk (some 36) (AK.bin false BinOp.neq (AX.t 33) (AX.t 35)) (some (31, false)) 13 true false), (AOp.mk (some 37) (AK.pick (AX.t 31) (AX.c (PV.val (Value.bool true))) (AX.t 36)) none 14 true false)]) (AC.cond (AX.t 37) (AC.seq (AC.ops [(AOp.mk (some 4) (AK.mv (AX.c (PV.val (Value.bool false)))) none 0 false true)]) AC.ret) AC.skip)) (AC.seq (AC.ops [(AOp.mk (some 39) (AK.ld (some 10) (AX.t 2)) none 0 false true), (AOp.mk (some 40) (AK.iadrA 1 2 (AX.t 3) (AX.c (PV.val (Value.int IntKind.i64 0)))) none 1 false true), (AOp.mk (some 41) (AK.ld none (AX.t 40)) none 2 false true), (AOp.mk (some 42) (AK.iadrA 1 2 (AX.t 3) (AX.c (PV.val (Value.int IntKind.i64 1)))) none 3 false true), (AOp.mk (some 43) (AK.ld none (AX.t 42)) none 4 false true), (AOp.mk (some 44) (AK.call 20 [(AX.t 39), (AX.t 41), (AX.t 43)]) none 5 false true), (AOp.mk (some 38) (AK.mv (AX.t 44)) none 6 false true), (AOp.mk (some 45) (AK.ext (AX.t 38) 0) none 7 false true), (AOp.mk (some 46) (AK.ext (AX.t 38) 1) none 8 false true), (AOp.mk (some 9) (AK.mv (AX.t 45)) none 9 false true), (AOp.mk (some 6) (AK.mv (AX.t 46)) none 10 false true)]) (AC.seq (AC.ops [(AOp.mk (some 48) (AK.ld (some 10) (AX.t 2)) none 0 false true), (AOp.mk (some 49) (AK.iadrA 1 2 (AX.t 3) (AX.c (PV.val (Value.int IntKind.i64 0)))) none 1 false true), (AOp.mk (some 50) (AK.ld none (AX.t 49)) none 2 false true), (AOp.mk (some 51) (AK.iadrA 1 2 (AX.t 3) (AX.c (PV.val (Value.int IntKind.i64 1)))) none 3 false true), (AOp.mk (some 52) (AK.ld none (AX.t 51)) none 4 false true), (AOp.mk (some 53) (AK.call 21 [(AX.t 48), (AX.t 50), (AX.t 52)]) none 5 false true), (AOp.mk (some 47) (AK.mv (AX.t 53)) none 6 false true), (AOp.mk (some 54) (AK.ext (AX.t 47) 0) none 7 false true), (AOp.mk (some 55) (AK.ext (AX.t 47) 1) none 8 false true), (AOp.mk (some 10) (AK.mv (AX.t 54)) none 9 false true), (AOp.mk (some 8) (AK.mv (AX.t 55)) none 10 false true)]) (AC.seq (AC.seq (AC.ops [(AOp.mk (some 56) (AK.mv (AX.t 9)) none 0 false true), (AOp.mk (some 57) (AK.mv (AX.t 10)) none 1 false true), (AOp.mk (some 58) (AK.bin false BinOp.neq (AX.t 56) (AX.t 57)) none 2 false true), (AOp.mk (some 59) (AK.mv (AX.t 58)) none 3 false true), (AOp.mk (some 60) (AK.mv (AX.t 6)) (some (59, false)) 4 false true), (AOp.mk (some 61) (AK.mv (AX.t 8)) (some (59, false)) 5 false true), (AOp.mk (some 62) (AK.bin false BinOp.neq (AX.t 60) (AX.t 61)) (some (59, false)) 6 false true), (AOp.mk (some 63) (AK.pick (AX.t 59) (AX.c (PV.val (Value.bool true))) (AX.t 62)) none 7 false true)]) (AC.cond (AX.t 63) (AC.seq (AC.ops [(AOp.mk (some 4) (AK.mv (AX.c (PV.val (Value.bool false)))) none 0 false true)]) AC.ret) AC.skip)) (AC.seq (AC.ops [(AOp.mk (some 65) (AK.ld (some 10) (AX.t 2)) none 0 false true), (AOp.mk (some 66) (AK.iadrA 1 2 (AX.t 3) (AX.c (PV.val (Value.int IntKind.i64 0)))) none 1 false true), (AOp.mk (some 67) (AK.ld none (AX.t 66)) none 2 false true), (AOp.mk (some 68) (AK.iadrA 1 2 (AX.t 3) (AX.c (PV.val (Value.int IntKind.i64 1)))) none 3 false true), (AOp.mk (some 69) (AK.ld none (AX.t 68)) none 4 false true), (AOp.mk (some 70) (AK.call 22 [(AX.t 65), (AX.t 67), (AX.t 69)]) none 5 false true), (AOp.mk (some 64) (AK.mv (AX.t 70)) none 6 false true), (AOp.mk (some 71) (AK.ext (AX.t 64) 0) none 7 false true), (AOp.mk (some 72) (AK.ext (AX.t 64) 1) none 8 false true), (AOp.mk (some 11) (AK.new (PV.agg [(PV.val (Value.int IntKind.i64 0)), (PV.val (Value.int IntKind.i64 0))])) none 9 false true), (AOp.mk none (AK.st 2 (AX.t 11) (AX.t 71)) none 10 false true), (AOp.mk (some 6) (AK.mv (AX.t 72)) none 11 false true)]) (AC.seq (AC.ops [(AOp.mk (some 74) (AK.ld (some 10) (AX.t 2)) none 0 false true), (AOp.mk (some 75) (AK.iadrA 1 2 (AX.t 3) (AX.c (PV.val (Value.int IntKind.i64 0)))) none 1 false true), (AOp.mk (some 76) (AK.ld none (AX.t 75)) none 2 false true), (AOp.mk (some 77) (AK.iadrA 1 2 (AX.t 3) (AX.c (PV.val (Value.int IntKind.i64 1)))) none 3 false true), (AOp.mk (some 78) (AK.ld none (AX.t 77)) none 4 false true), (AOp.mk (some 79) (AK.call 23 [(AX.t 74), (AX.t 76), (AX.t 78)]) none 5 false true), (AOp.mk (some 73) (AK.mv (AX.t 79)) none 6 false true), (AOp.mk (some 80) (AK.ext (AX.t 73) 0) none 7 false true), (AOp.mk (some 81) (AK.ext (AX.t 73) 1) none 8 false true), (AOp.mk (some 12) (AK.new (PV.agg [(PV.val (Value.int IntKind.i64 0)), (PV.val (Value.int IntKind.i64 0))])) none 9 false true), (AOp.mk none (AK.st 2 (AX.t 12) (AX.t 80)) none 10 false true), (AOp.mk (some 8) (AK.mv (AX.t 81)) none 11 false true)]) (AC.seq (AC.ops [(AOp.mk (some 82) (AK.ld (some 2) (AX.t 11)) none 0 false true), (AOp.mk (some 83) (AK.ld (some 2) (AX.t 12)) none 1 false true), (AOp.mk (some 84) (AK.eqs [CK.i, CK.i] false (AX.t 82) (AX.t 83)) none 2 false true), (AOp.mk (some 85) (AK.mv (AX.t 84)) none 3 false true), (AOp.mk (some 86) (AK.mv (AX.t 6)) (some (85, true)) 4 false true), (AOp.mk (some 87) (AK.mv (AX.t 8)) (some (85, true)) 5 false true), (AOp.mk (some 88) (AK.bin false BinOp.eql (AX.t 86) (AX.t 87)) (some (85, true)) 6 false true), (AOp.mk (some 89) (AK.pick (AX.t 85) (AX.t 88) (AX.c (PV.val (Value.bool false)))) none 7 false true), (AOp.mk (some 90) (AK.mv (AX.t 89)) none 8 false true), (AOp.mk (some 91) (AK.call 24 []) (some (90, true)) 9 false true), (AOp.mk (some 92) (AK.pick (AX.t 90) (AX.t 91) (AX.c (PV.val (Value.bool false)))) none 10 false true), (AOp.mk (some 4) (AK.mv (AX.t 92)) none 11 false true)]) AC.ret))))))))))
theorem ac3_ok : cCode Try.prog (fun _ => false) Try.f3.ntmps (Try.f3.body.getD .skip) = some ac3 := by kernel_rfl
def ac4 : AC := (AC.seq (AC.ops [(AOp.mk (some 2) (AK.box 10 (AX.t 0)) none 0 false true), (AOp.mk (some 4) (AK.mv (AX.c (PV.val (Value.bool false)))) none 1 false true)]) (AC.seq (AC.ops [(AOp.mk (some 14) (AK.ld (some 10) (AX.t 2)) none 0 false true), (AOp.mk (some 15) (AK.mv (AX.t 1)) none 1 false true), (AOp.mk (some 16) (AK.call 25 [(AX.t 14), (AX.t 15)]) none 2 false true), (AOp.mk (some 13) (AK.mv (AX.t 16)) none 3 false true), (AOp.mk (some 17) (AK.ext (AX.t 13) 0) none 4 false true), (AOp.mk (some 18) (AK.ext (AX.t 13) 1) none 5 false true), (AOp.mk (some 5) (AK.mv (AX.t 17)) none 6 false true), (AOp.mk (some 6) (AK.mv (AX.t 18)) none 7 false true)]) (AC.seq (AC.ops [(AOp.mk (some 20) (AK.ld (some 10) (AX.t 2)) none 0 false true), (AOp.mk (some 21) (AK.mv (AX.t 1)) none 1 false true), (AOp.mk (some 22) (AK.call 26 [(AX.t 20), (AX.t 21)]) none 2 false true), (AOp.mk (some 19) (AK.mv (AX.t 22)) none 3 false true), (AOp.mk (some 23) (AK.ext (AX.t 19) 0) none 4 false true), (AOp.mk (some 24) (AK.ext (AX.t 19) 1) none 5 false true), (AOp.mk (some 7) (AK.mv (AX.t 23)) none 6 false true), (AOp.mk (some 8) (AK.mv (AX.t 24)) none 7 false true)]) (AC.seq (AC.seq (AC.ops [(AOp.mk (some 25) (AK.mv (AX.t 5)) none 0 false true), (AOp.mk (some 26) (AK.mv (AX.t 7)) none 1 false true), (AOp.mk (some 27) (AK.bin true BinOp.neq (AX.t 25) (AX.t 26)) none 2 false true), (AOp.mk (some 28) (AK.mv (AX.t 27)) none 3 false true), (AOp.mk (some 29) (AK.mv (AX.t 6)) (some (28, false)) 4 false true), (AOp.mk (some 30) (AK.mv (AX.t 8)) (some (28, false)) 5 false true), (AOp.mk (some 31) (AK.bin false BinOp.neq (AX.t 29) (AX.t 30)) (some (28, false)) 6 false true), (AOp.mk (some 32) (AK.pick (AX.t 28) (AX.c (PV.val (Value.bool true))) (AX.t 31)) none 7 false true)]) (AC.cond (AX.t 32) (AC.seq (AC.ops [(AOp.mk (some 4) (AK.mv (AX.c (PV.val (Value.bool false)))) none 0 false true)]) AC.ret) AC.skip)) (AC.seq (AC.ops [(AOp.mk (some 34) (AK.ld (some 10) (AX.t 2)) none 0 false true), (AOp.mk (some 35) (AK.call 27 [(AX.t 34)]) none 1 false true), (AOp.mk (some 33) (AK.mv (AX.t 35)) none 2 false true), (AOp.mk (some 36) (AK.ext (AX.t 33) 0) none 3 false true), (AOp.mk (some 37) (AK.ext (AX.t 33) 1) none 4 false true), (AOp.mk (some 9) (AK.mv (AX.t 36)) none 5 false true), (AOp.mk (some 6) (AK.mv (AX.t 37)) none 6 false true)]) (AC.seq (AC.ops [(AOp.mk (some 39) (AK.ld (some 10) (AX.t 2)) none 0 false true), (AOp.mk (some 40) (AK.call 28 [(AX.t 39)]) none 1 false true), (AOp.mk (some 38) (AK.mv (AX.t 40)) none 2 false true), (AOp.mk (some 41) (AK.ext (AX.t 38) 0) none 3 false true), (AOp.mk (some 42) (AK.ext (AX.t 38) 1) none 4 false true), (AOp.mk (some 10) (AK.mv (AX.t 41)) none 5 false true), (AOp.mk (some 8) (AK.mv (AX.t 42)) none 6 false true)]) (AC.seq (AC.seq (AC.ops [(AOp.mk (some 43) (AK.mv (AX.t 9)) none 0 false true), (AOp.mk (some 44) (AK.mv (AX.t 10)) none 1 false true), (AOp.mk (some 45) (AK.bin false BinOp.neq (AX.t 43) (AX.t 44)) none 2 false true), (AOp.mk (some 46) (AK.mv (AX.t 45)) none 3 false true), (AOp.mk (some 47) (AK.mv (AX.t 6)) (some (46, false)) 4 false true), (AOp.mk (some 48) (AK.mv (AX.t 8)) (some (46, false)) 5 false true), (AOp.mk (some 49) (AK.bin false BinOp.neq (AX.t 47) (AX.t 48)) (some (46, false)) 6 false true), (AOp.mk (some 50) (AK.pick (AX.t 46) (AX.c (PV.val (Value.bool true))) (AX.t 49)) none 7 false true)]) (AC.cond (AX.t 50) (AC.seq (AC.ops [(AOp.mk (some 4) (AK.mv (AX.c (PV.val (Value.bool false)))) none 0 false true)]) AC.ret) AC.skip)) (AC.seq (AC.ops [(AOp.mk (some 52) (AK.ld (some 10) (AX.t 2)) none 0 false true), (AOp.mk (some 53) (AK.mv (AX.t 1)) none 1 false true), (AOp.mk (some 54) (AK.call 29 [(AX.t 52), (AX.t 53)]) none 2 false true), (AOp.mk (some 51) (AK.mv (AX.t 54)) none 3 false true), (AOp.mk (some 55) (AK.ext (AX.t 51) 0) none 4 false true), (AOp.mk (some 56) (AK.ext (AX.t 51) 1) none 5 false true), (AOp.mk (some 11) (AK.new (PV.agg [(PV.val (Value.int IntKind.i64 0)), (PV.val (Value.int IntKind.i64 0))])) none 6 false true), (AOp.mk none (AK.st 2 (AX.t 11) (AX.t 55)) none 7 false true), (AOp.mk (some 6) (AK.mv (AX.t 56)) none 8 false true)]) (AC.seq (AC.ops [(AOp.mk (some 58) (AK.ld (some 10) (AX.t 2)) none 0 false true), (AOp.mk (some 59) (AK.mv (AX.t 1)) none 1 false true), (AOp.mk (some 60) (AK.call 30 [(AX.t 58), (AX.t 59)]) none 2 false true), (AOp.mk (some 57) (AK.mv (AX.t 60)) none 3 false true), (AOp.mk (some 61) (AK.ext (AX.t 57) 0) none 4 false true), (AOp.mk (some 62) (AK.ext (AX.t 57) 1) none 5 false true), (AOp.mk (some 12) (AK.new (PV.agg [(PV.val (Value.int IntKind.i64 0)), (PV.val (Value.int IntKind.i64 0))])) none 6 false true), (AOp.mk none (AK.st 2 (AX.t 12) (AX.t 61)) none 7 false true), (AOp.mk (some 8) (AK.mv (AX.t 62)) none 8 false true)]) (AC.seq (AC.ops [(AOp.mk (some 63) (AK.ld (some 2) (AX.t 11)) none 0 false true), (AOp.mk (some 64) (AK.ld (some 2) (AX.t 12)) none 1 false true), (AOp.mk (some 65) (AK.eqs [CK.i, CK.i] false (AX.t 63) (AX.t 64)) none 2 false true), (AOp.mk (some 66) (AK.mv (AX.t 65)) none 3 false true), (AOp.mk (some 67) (AK.mv (AX.t 6)) (some (66, true)) 4 false true), (AOp.mk (some 68) (AK.mv (AX.t 8)) (some (66, true)) 5 false true), (AOp.mk (some 69) (AK.bin false BinOp.eql (AX.t 67) (AX.t 68)) (some (66, true)) 6 false true), (AOp.mk (some 70) (AK.pick (AX.t 66) (AX.t 69) (AX.c (PV.val (Value.bool false)))) none 7 false true), (AOp.mk (some 71) (AK.mv (AX.t 70)) none 8 false true), (AOp.mk (some 72) (AK.call 24 []) (some (71, true)) 9 false true), (AOp.mk (some 73) (AK.pick (AX.t 71) (AX.t 72) (AX.c (PV.val (Value.bool false)))) none 10 false true), (AOp.mk (some 4) (AK.mv (AX.t 73)) none 11 false true)]) AC.ret))))))))))
theorem ac4_ok : cCode Try.prog (fun _ => false) Try.f4.ntmps (Try.f4.body.getD .skip) = some ac4 := by kernel_rfl
def ac5 : AC := (AC.seq (AC.ops [(AOp.mk (some 2) (AK.box 10 (AX.t 0)) none 0 false true), (AOp.mk (some 4) (AK.mv (AX.c (PV.val (Value.bool false)))) none 1 false true)]) (AC.seq (AC.ops [(AOp.mk (some 12) (AK.ld (some 10) (AX.t 2)) none 0 false true), (AOp.mk (some 13) (AK.mv (AX.t 1)) none 1 false true), (AOp.mk (some 14) (AK.call 31 [(AX.t 12), (AX.t 13)]) none 2 false true), (AOp.mk (some 11) (AK.mv (AX.t 14)) none 3 false true), (AOp.mk (some 15) (AK.ext (AX.t 11) 0) none 4 false true), (AOp.mk (some 16) (AK.ext (AX.t 11) 1) none 5 false true), (AOp.mk (some 5) (AK.mv (AX.t 15)) none 6 false true), (AOp.mk (some 6) (AK.mv (AX.t 16)) none 7 false true)]) (AC.seq (AC.ops [(AOp.mk (some 18) (AK.ld (some 10) (AX.t 2)) none 0 false true), (AOp.mk (some 19) (AK.mv (AX.t 1)) none 1 false true), (AOp.mk (some 20) (AK.call 32 [(AX.t 18), (AX.t 19)]) none 2 false true), (AOp.mk (some 17) (AK.mv (AX.t 20)) none 3 false true), (AOp.mk (some 21) (AK.ext (AX.t 17) 0) none 4 false true), (AOp.mk (some 22) (AK.ext (AX.t 17) 1) none 5 false true), (AOp.mk (some 7) (AK.mv (AX.t 21)) none 6 false true), (AOp.mk (some 8) (AK.mv (AX.t 22)) none 7 false true)]) (AC.seq (AC.seq (AC.ops [(AOp.mk (some 23) (AK.mv (AX.t 5)) none 0 false true), (AOp.mk (some 24) (AK.mv (AX.t 7)) none 1 false true), (AOp.mk (some 25) (AK.bin false BinOp.neq (AX.t 23) (AX.t 24)) none 2 false true), (AOp.mk (some 26) (AK.mv (AX.t 25)) none 3 false true), (AOp.mk (some 27) (AK.mv (AX.t 6)) (some (26, false)) 4 false true), (AOp.mk (some 28) (AK.mv (AX.t 8)) (some (26, false)) 5 false true), (AOp.mk (some 29) (AK.bin false BinOp.neq (AX.t 27) (AX.t 28)) (some (26, false)) 6 false true), (AOp.mk (some 30) (AK.pick (AX.t 26) (AX.c (PV.val (Value.bool true))) (AX.t 29)) none 7 false true)]) (AC.cond (AX.t 30) (AC.seq (AC.ops [(AOp.mk (some 4) (AK.mv (AX.c (PV.val (Value.bool false)))) none 0 false true)]) AC.ret) AC.skip)) (AC.seq (AC.ops [(AOp.mk (some 32) (AK.ld (some 10) (AX.t 2)) none 0 false true), (AOp.mk (some 33) (AK.call 33 [(AX.t 32)]) none 1 false true), (AOp.mk (some 31) (AK.mv (AX.t 33)) none 2 false true), (AOp.mk (some 34) (AK.ext (AX.t 31) 0) none 3 false true), (AOp.mk (some 35) (AK.ext (AX.t 31) 1) none 4 false true), (AOp.mk (some 5) (AK.mv (AX.t 34)) none 5 false true), (AOp.mk (some 6) (AK.mv (AX.t 35)) none 6 false true)]) (AC.seq (AC.ops [(AOp.mk (some 37) (AK.ld (some 10) (AX.t 2)) none 0 false true), (AOp.mk (some 38) (AK.call 34 [(AX.t 37)]) none 1 false true), (AOp.mk (some 36) (AK.mv (AX.t 38)) none 2 false true), (AOp.mk (some 39) (AK.ext (AX.t 36) 0) none 3 false true), (AOp.mk (some 40) (AK.ext (AX.t 36) 1) none 4 false true), (AOp.mk (some 7) (AK.mv (AX.t 39)) none 5 false true), (AOp.mk (some 8) (AK.mv (AX.t 40)) none 6 false true)]) (AC.seq (AC.seq (AC.ops [(AOp.mk (some 41) (AK.mv (AX.t 5)) none 0 false true), (AOp.mk (some 42) (AK.mv (AX.t 7)) none 1 false true), (AOp.mk (some 43) (AK.bin false BinOp.neq (AX.t 41) (AX.t 42)) none 2 false true), (AOp.mk (some 44) (AK.mv (AX.t 43)) none 3 false true), (AOp.mk (some 45) (AK.mv (AX.t 6)) (some (44, false)) 4 false true), (AOp.mk (some 46) (AK.mv (AX.t 8)) (some (44, false)) 5 false true), (AOp.mk (some 47) (AK.bin false BinOp.neq (AX.t 45) (AX.t 46)) (some (44, false)) 6 false true), (AOp.mk (some 48) (AK.pick (AX.t 44) (AX.c (PV.val (Value.bool true))) (AX.t 47)) none 7 false true)]) (AC.cond (AX.t 48) (AC.seq (AC.ops [(AOp.mk (some 4) (AK.mv (AX.c (PV.val (Value.bool false)))) none 0 false true)]) AC.ret) AC.skip)) (AC.seq (AC.ops [(AOp.mk (some 50) (AK.ld (some 10) (AX.t 2)) none 0 false true), (AOp.mk (some 51) (AK.call 35 [(AX.t 50)]) none 1 false true), (AOp.mk (some 49) (AK.mv (AX.t 51)) none 2 false true), (AOp.mk (some 52) (AK.ext (AX.t 49) 0) none 3 false true), (AOp.mk (some 53) (AK.ext (AX.t 49) 1) none 4 false true), (AOp.mk (some 9) (AK.mv (AX.t 52)) none 5 false true), (AOp.mk (some 6) (AK.mv (AX.t 53)) none 6 false true)]) (AC.seq (AC.ops [(AOp.mk (some 55) (AK.ld (some 10) (AX.t 2)) none 0 false true), (AOp.mk (some 56) (AK.call 36 [(AX.t 55)]) none 1 false true), (AOp.mk (some 54) (AK.mv (AX.t 56)) none 2 false true), (AOp.mk (some 57) (AK.ext (AX.t 54) 0) none 3 false true), (AOp.mk (some 58) (AK.ext (AX.t 54) 1) none 4 false true), (AOp.mk (some 10) (AK.mv (AX.t 57)) none 5 false true), (AOp.mk (some 8) (AK.mv (AX.t 58)) none 6 false true)]) (AC.seq (AC.ops [(AOp.mk (some 59) (AK.mv (AX.t 9)) none 0 false true), (AOp.mk (some 60) (AK.mv (AX.t 10)) none 1 false true), (AOp.mk (some 61) (AK.call 37 [(AX.t 59), (AX.t 60)]) none 2 false true), (AOp.mk (some 62) (AK.mv (AX.t 61)) none 3 false true), (AOp.mk (some 63) (AK.mv (AX.t 6)) (some (62, true)) 4 false true), (AOp.mk (some 64) (AK.mv (AX.t 8)) (some (62, true)) 5 false true), (AOp.mk (some 65) (AK.bin false BinOp.eql (AX.t 63) (AX.t 64)) (some (62, true)) 6 false true), (AOp.mk (some 66) (AK.pick (AX.t 62) (AX.t 65) (AX.c (PV.val (Value.bool false)))) none 7 false true), (AOp.mk (some 67) (AK.mv (AX.t 66)) none 8 false true), (AOp.mk (some 68) (AK.call 24 []) (some (67, true)) 9 false true), (AOp.mk (some 69) (AK.pick (AX.t 67) (AX.t 68) (AX.c (PV.val (Value.bool false)))) none 10 false true), (AOp.mk (some 4) (AK.mv (AX.t 69)) none 11 false true)]) AC.ret))))))))))
theorem ac5_ok : cCode Try.prog (fun _ => false) Try.f5.ntmps (Try.f5.body.getD .skip) = some ac5 := by kernel_rfl
theorem if_two {c : Prop} [Decidable c] {a e : Int} : ∃ x y : Int, (if c then PV.tup [pi a, pi 0] else .tup [pi 0, pi e]) = .tup [pi x, pi y] := by
  split
  · exact ⟨_, _, rfl⟩
  · exact ⟨_, _, rfl⟩
theorem same_right (b : SBook) : ∃ (x : Bool) (e : Int), Sem1 16 [.agg (bookC .sh .sh b)] (.tup [pb x, pi e]) ∧ Sem1 17 [.agg (bookC .sh .sh b)] (.tup [pb x, pi e]) := by
  have h1 := Right_sem .sh .sh b
  have h2 := rRight_sem .sh .sh b
  by_cases ho : okBook b
  · simp only [if_pos ho] at h1 h2; exact ⟨_, _, h1, h2⟩
  · simp only [if_neg ho] at h1 h2; exact ⟨_, _, h1, h2⟩
theorem same_tips (b : SBook) (w n : Int) : ∃ x e : Int, Sem1 20 [.agg (bookC .sh .sh b), pi w, pi n] (.tup [pi x, pi e]) ∧ Sem1 21 [.agg (bookC .sh .sh b), pi w, pi n] (.tup [pi x, pi e]) := by
  obtain ⟨x, e, h⟩ := if_two (c := errI b (childI b w n) = 0) (a := answerI b (loadsI b) w n) (e := errI b (childI b w n))
  exact ⟨x, e, (Tips_any .sh .sh b w n).mono fun _ q => q.trans h, (rTips_sem .sh .sh b w n).mono fun _ q => q.trans h⟩
theorem same_margin (b : SBook) (w n : Int) : ∃ x y e : Int, Sem1 22 [.agg (bookC .sh .sh b), pi w, pi n] (.tup [.agg [pi x, pi y], pi e]) ∧ Sem1 23 [.agg (bookC .sh .sh b), pi w, pi n] (.tup [.agg [pi x, pi y], pi e]) := by
  have h1 := Margin_any .sh .sh b w n
  have h2 := rMargin_sem .sh .sh b w n
  by_cases h : errI b (childI b w n) = 0
  · simp only [if_pos h] at h1 h2; exact ⟨_, _, _, h1, h2⟩
  · simp only [if_neg h] at h1 h2; exact ⟨_, _, _, h1, h2⟩
theorem same_safe (b : SBook) (w : Int) : ∃ (x : Bool) (e : Int), Sem1 25 [.agg (bookC .sh .sh b), pi w] (.tup [pb x, pi e]) ∧ Sem1 26 [.agg (bookC .sh .sh b), pi w] (.tup [pb x, pi e]) := by
  have h1 := Safe_sem .sh .sh b w
  have h2 := rSafe_sem .sh .sh b w
  by_cases h : errI b (decide (1 ≤ w ∧ w ≤ b.limit)) = 0
  · simp only [if_pos h] at h1 h2; exact ⟨_, _, h1, h2⟩
  · simp only [if_neg h] at h1 h2; exact ⟨_, _, h1, h2⟩
theorem same_least (b : SBook) : ∃ x e : Int, Sem1 27 [.agg (bookC .sh .sh b)] (.tup [pi x, pi e]) ∧ Sem1 28 [.agg (bookC .sh .sh b)] (.tup [pi x, pi e]) := by
  have h1 := Least_sem .sh .sh b
  have h2 := rLeast_sem .sh .sh b
  by_cases h : errI b true = 0
  · simp only [if_pos h] at h1 h2
    cases hl : leastI b (loadsI b) <;> rw [hl] at h1 h2 <;> exact ⟨_, _, h1, h2⟩
  · simp only [if_neg h] at h1 h2; exact ⟨_, _, h1, h2⟩
theorem same_room (b : SBook) (w : Int) : ∃ x y e : Int, Sem1 29 [.agg (bookC .sh .sh b), pi w] (.tup [.agg [pi x, pi y], pi e]) ∧ Sem1 30 [.agg (bookC .sh .sh b), pi w] (.tup [.agg [pi x, pi y], pi e]) := by
  have h1 := Room_sem .sh .sh b w
  have h2 := rRoom_sem .sh .sh b w
  by_cases h : errI b (decide (1 ≤ w ∧ w ≤ b.limit)) = 0
  · simp only [if_pos h, roomI] at h1 h2
    by_cases hc : (0 : Int) < countI b (loadsI b) w 0
    · simp only [if_pos hc] at h1 h2; exact ⟨_, _, _, h1, h2⟩
    · simp only [if_neg hc] at h1 h2; exact ⟨_, _, _, h1, h2⟩
  · simp only [if_neg h] at h1 h2; exact ⟨_, _, _, h1, h2⟩
theorem same_lead (b : SBook) (a : Int) : ∃ x e : Int, Sem1 31 [.agg (bookC .sh .sh b), pi a] (.tup [pi x, pi e]) ∧ Sem1 32 [.agg (bookC .sh .sh b), pi a] (.tup [pi x, pi e]) := by
  have h1 := Lead_sem .sh .sh b a
  have h2 := rLead_sem .sh .sh b a
  by_cases h : errI b (decide (-60 ≤ a ∧ a ≤ 60)) = 0
  · simp only [if_pos h] at h1 h2
    cases hl : leadI b (loadsI b) a <;> rw [hl] at h1 h2 <;> exact ⟨_, _, h1, h2⟩
  · simp only [if_neg h] at h1 h2; exact ⟨_, _, h1, h2⟩
theorem same_wider (b : SBook) : ∃ x e : Int, Sem1 33 [.agg (bookC .sh .sh b)] (.tup [pi x, pi e]) ∧ Sem1 34 [.agg (bookC .sh .sh b)] (.tup [pi x, pi e]) := by
  have h1 := Wider_sem .sh .sh b
  have h2 := rWider_sem .sh .sh b
  by_cases h : errI b true = 0
  · simp only [if_pos h] at h1 h2
    cases hl : widerI b (loadsI b) <;> rw [hl] at h1 h2 <;> exact ⟨_, _, h1, h2⟩
  · simp only [if_neg h] at h1 h2; exact ⟨_, _, h1, h2⟩
theorem same_wrong (b : SBook) : ∃ (l : List Int) (e : Int), Sem1 35 [.agg (bookC .sh .sh b)] (.tup [pis l, pi e]) ∧ Sem1 36 [.agg (bookC .sh .sh b)] (.tup [pis l, pi e]) := by
  have h1 := Wrong_sem .sh .sh b
  have h2 := rWrong_sem .sh .sh b
  by_cases ho : okBook b
  · simp only [if_pos ho] at h1 h2; exact ⟨_, _, h1, h2⟩
  · simp only [if_neg ho] at h1 h2; exact ⟨_, _, h1, h2⟩
theorem StandTips_law (b : SBook) (w n : Int) : Sem1 3 [.agg (bookC .sh .sh b), .agg [pi w, pi n]] (pb true) := by
  obtain ⟨x1, e1, a1, c1⟩ := same_right b
  obtain ⟨x2, e2, a2, c2⟩ := same_tips b w n
  obtain ⟨x3, y3, e3, a3, c3⟩ := same_margin b w n
  refine semC_of_exec' mixed Try.func3 (by kernel_rfl) (by kernel_rfl) ac3_ok 2 rfl (by decide) [(.tmp 4)] (by kernel_rfl) ?_
  intro hr C hC hI
  unfold ac3
  simp only [go_sem, Nat.reduceBEq, Nat.reduceAdd]
  refine call_pure2 hC (a1) rfl (PVleL_refl _) ?_
  rintro r rfl
  simp only [go_sem, Nat.reduceBEq, Nat.reduceAdd]
  refine call_pure2 hC (c1) rfl (PVleL_refl _) ?_
  rintro r rfl
  simp only [go_sem, Nat.reduceBEq, Nat.reduceAdd, decide_false, not_true_eq_false, Bool.false_eq_true]
  refine call_pure2 hC (Check_sem ..) rfl (PVleL_refl _) ?_
  rintro r rfl
  simp only [go_sem, Nat.reduceBEq]
  refine call_pure2 hC (rCheck_sem ..) rfl (PVleL_refl _) ?_
  rintro r rfl
  simp only [go_sem, Nat.reduceBEq, Nat.reduceAdd, decide_false, not_true_eq_false]
  refine call_pure2 hC (a2) rfl (PVleL_refl _) ?_
  rintro r rfl
  simp only [go_sem, Nat.reduceBEq, Nat.reduceAdd]
  refine call_pure2 hC (c2) rfl (PVleL_refl _) ?_
  rintro r rfl
  simp only [go_sem, Nat.reduceBEq, Nat.reduceAdd, decide_false, not_true_eq_false]
  refine call_pure2 hC (a3) rfl (PVleL_refl _) ?_
  rintro r rfl
  simp only [go_sem, Nat.reduceBEq, Nat.reduceAdd, putCells]
  refine call_pure2 hC (c3) rfl (PVleL_refl _) ?_
  rintro r rfl
  simp only [go_sem, Nat.reduceBEq, Nat.reduceAdd, beq_self_eq_true, decide_true, Bool.true_and, not_false_eq_true, putCells]
  refine call_pure2 hC (stood_sem) rfl (PVleL_refl _) ?_
  rintro r rfl
  simp only [go_sem, Nat.reduceBEq]
  exact retQ_one rfl rfl
theorem StandSafes_law (b : SBook) (w : Int) : Sem1 4 [.agg (bookC .sh .sh b), pi w] (pb true) := by
  obtain ⟨x1, e1, a1, c1⟩ := same_safe b w
  obtain ⟨x2, e2, a2, c2⟩ := same_least b
  obtain ⟨x3, y3, e3, a3, c3⟩ := same_room b w
  refine semC_of_exec' mixed Try.func4 (by kernel_rfl) (by kernel_rfl) ac4_ok 2 rfl (by decide) [(.tmp 4)] (by kernel_rfl) ?_
  intro hr C hC hI
  unfold ac4
  simp only [go_sem, Nat.reduceBEq, Nat.reduceAdd]
  refine call_pure2 hC (a1) rfl (PVleL_refl _) ?_
  rintro r rfl
  simp only [go_sem, Nat.reduceBEq, Nat.reduceAdd]
  refine call_pure2 hC (c1) rfl (PVleL_refl _) ?_
  rintro r rfl
  simp only [go_sem, Nat.reduceBEq, Nat.reduceAdd, decide_false, not_true_eq_false]
  refine call_pure2 hC (a2) rfl (PVleL_refl _) ?_
  rintro r rfl
  simp only [go_sem, Nat.reduceBEq, Nat.reduceAdd]
  refine call_pure2 hC (c2) rfl (PVleL_refl _) ?_
  rintro r rfl
  simp only [go_sem, Nat.reduceBEq, Nat.reduceAdd, decide_false, not_true_eq_false]
  refine call_pure2 hC (a3) rfl (PVleL_refl _) ?_
  rintro r rfl
  simp only [go_sem, Nat.reduceBEq, Nat.reduceAdd, putCells]
  refine call_pure2 hC (c3) rfl (PVleL_refl _) ?_
  rintro r rfl
  simp only [go_sem, Nat.reduceBEq, Nat.reduceAdd, beq_self_eq_true, decide_true, Bool.true_and, not_false_eq_true, putCells]
  refine call_pure2 hC (stood_sem) rfl (PVleL_refl _) ?_
  rintro r rfl
  simp only [go_sem, Nat.reduceBEq]
  exact retQ_one rfl rfl
theorem StandWiders_law (b : SBook) (a : Int) : Sem1 5 [.agg (bookC .sh .sh b), pi a] (pb true) := by
  obtain ⟨x1, e1, a1, c1⟩ := same_lead b a
  obtain ⟨x2, e2, a2, c2⟩ := same_wider b
  obtain ⟨l3, e3, a3, c3⟩ := same_wrong b
  refine semC_of_exec' mixed Try.func5 (by kernel_rfl) (by kernel_rfl) ac5_ok 2 rfl (by decide) [(.tmp 4)] (by kernel_rfl) ?_
  intro hr C hC hI
  unfold ac5
  simp only [go_sem, Nat.reduceBEq, Nat.reduceAdd]
  refine call_pure2 hC (a1) rfl (PVleL_refl _) ?_
  rintro r rfl
  simp only [go_sem, Nat.reduceBEq, Nat.reduceAdd]
  refine call_pure2 hC (c1) rfl (PVleL_refl _) ?_
  rintro r rfl
  simp only [go_sem, Nat.reduceBEq, Nat.reduceAdd, decide_false, not_true_eq_false]
  refine call_pure2 hC (a2) rfl (PVleL_refl _) ?_
  rintro r rfl
  simp only [go_sem, Nat.reduceBEq, Nat.reduceAdd]
  refine call_pure2 hC (c2) rfl (PVleL_refl _) ?_
  rintro r rfl
  simp only [go_sem, Nat.reduceBEq, Nat.reduceAdd, decide_false, not_true_eq_false]
  refine call_pure2 hC (a3) rfl (PVleL_refl _) ?_
  rintro r rfl
  simp only [go_sem, Nat.reduceBEq, Nat.reduceAdd]
  refine call_pure2 hC (c3) rfl (PVleL_refl _) ?_
  rintro r rfl
  simp only [go_sem, Nat.reduceBEq]
  refine call_pure2 hC (Equal_sem l3 l3) rfl (PVleL_refl _) ?_
  rintro r rfl
  simp only [go_sem, Nat.reduceBEq, beq_self_eq_true, decide_true]
  refine call_pure2 hC (stood_sem) rfl (PVleL_refl _) ?_
  rintro r rfl
  simp only [go_sem, Nat.reduceBEq]
  exact retQ_one rfl rfl
set_option maxRecDepth 100000 in
theorem StandTips_row {l0 l1 : List PV} (T0 : Ty Try.prog 10 25 l0) (T1 : Ty Try.prog 10 26 l1) : SemC Try.prog 3 [argPV Try.prog 25 l0, argPV Try.prog 26 l1] (fun r => r = pb true) := by
  obtain ⟨b, rfl⟩ := ty_book T0
  obtain ⟨a, c, rfl⟩ := ty_two T1
  rw [argStruct Try.underlying25, argArray Try.underlying26]
  exact StandTips_law b a c
set_option maxRecDepth 100000 in
theorem StandSafes_row {l0 l1 : List PV} (T0 : Ty Try.prog 10 25 l0) (T1 : Ty Try.prog 10 3 l1) : SemC Try.prog 4 [argPV Try.prog 25 l0, argPV Try.prog 3 l1] (fun r => r = pb true) := by
  obtain ⟨b, rfl⟩ := ty_book T0
  obtain ⟨n, rfl⟩ := tyInt uInt T1
  rw [argStruct Try.underlying25, argInt uInt]
  exact StandSafes_law b n
set_option maxRecDepth 100000 in
theorem StandWiders_row {l0 l1 : List PV} (T0 : Ty Try.prog 10 25 l0) (T1 : Ty Try.prog 10 3 l1) : SemC Try.prog 5 [argPV Try.prog 25 l0, argPV Try.prog 3 l1] (fun r => r = pb true) := by
  obtain ⟨b, rfl⟩ := ty_book T0
  obtain ⟨n, rfl⟩ := tyInt uInt T1
  rw [argStruct Try.underlying25, argInt uInt]
  exact StandWiders_law b n
end Go.Proofs.Ytaejmbmkkdkliaa
namespace Go.Proofs.Ytaejmbmkkdkliaa
open Go.Proofs.Ytaejmbmkkdkliaa Go.ChangeShapes Go.WideShapes Go.ChangeAt Go.RowKit Go.Deep

set_option maxRecDepth 100000 in
theorem standWiders_lifted (os : Os) (started : os.Started) (H : Type) (enc : TypeId × Value → H) :
    ReturnsInHanded {} Try.checked os 5 .any (Rows.standWidersSpec.pre6 enc Try.prog Try.f5 Rows.standWidersRow.domain false) (Rows.standWidersSpec.post enc Try.prog Try.f5 false true false false) := by
  refine returnsInHanded_of_change_sized (C := Try.checked) ownKnobs started (by kernel_rfl) Try.func5
    (ChangeSpec.witness6 (enc := enc) (C := Try.checked) false ⟨#[], #[.agg #[.int .i64 0, .int .i64 0, .int .i64 0, .int .i64 0, .slice none 0 0, .int .i64 0, .int .i64 0, .int .i64 0, .int .i64 0, .slice none 0 0], .int .i64 0], []⟩ 8 (by kernel_rfl) (by kernel_rfl) (by kernel_rfl) (by kernel_rfl)) ?_
  intro W base args ds gs before hval0 hW hcnd hsz0 _
  have hval : ∀ (j : Nat) t v, Try.f5.params[j]? = some t → args[j]? = some v → Value.okWide Try.prog W .any base t v := hval0
  have hsz : (DataW.weightsEach Try.prog (Try.f5.params.toList ++ Rows.standWidersSpec.plain.varTypes Try.prog) (ds ++ gs)).all (· ≤ reachBytes) = true := hsz0
  have hW' := hW
  obtain ⟨p, q, hA0, hV, rfl, hfz, hnd⟩ := hW
  have hA : DataW.TrodAll enc Try.prog W 0 (fun _ => true) true Try.f5.params.toList args.toList ds p := hA0
  rw [Try.params5] at hA hval hsz
  obtain ⟨v0, vs0, d0, ds0, p0, q0, hargs, rfl, rfl, h0, r0⟩ := trodAll_cons hA
  obtain ⟨v1, vs1, d1, ds1, p1, q1, rfl, rfl, rfl, h1, r1⟩ := trodAll_cons r0
  obtain ⟨rfl, rfl, rfl⟩ := trodAll_nil r1
  obtain rfl : args = #[v0, v1] := by cases args; simp_all
  obtain ⟨rfl, rfl⟩ := trodVars_none hV
  have lt0 : ∀ x ∈ p0, x.block < W.heap.size := by obtain ⟨m, hm⟩ := h0; exact DataW.trod_lt m _ _ _ hm
  have lt1 : ∀ x ∈ p1, x.block < W.heap.size := by obtain ⟨m, hm⟩ := h1; exact DataW.trod_lt m _ _ _ hm
  have z0 : SizedP Try.prog 25 d0 := sizedP_each hsz (j := 0) rfl rfl
  obtain ⟨l0, T0, R0⟩ := rd_arg 10 (by kernel_rfl) (hval 0 25 v0 rfl rfl) h0 z0
  have z1 : SizedP Try.prog 3 d1 := sizedP_each hsz (j := 1) rfl rfl
  obtain ⟨l1, T1, R1⟩ := rd_arg 10 (by kernel_rfl) (hval 1 3 v1 rfl rfl) h1 z1
  clear hA0 hval0 hsz0
  refine (law_calls (StandWiders_row T0 T1) (argsP_cons R0 (argsP_cons R1 argsP_nil))).mono fun e W' ⟨he, bel⟩ => ?_
  subst he
  exact ⟨_, rfl, _, _, _, [], _, [], hW', trodAll_mk1 (shut_bool Try.underlying4 _), (trodAll_cons_mk (Below.trod laidOut (by kernel_rfl) (of_decide_eq_true (by kernel_rfl)) h0 bel lt0) (trodAll_cons_mk (Below.trod laidOut (by kernel_rfl) (of_decide_eq_true (by kernel_rfl)) h1 bel lt1) trodAll_mk0)), rfl, bel.frame _, fun h => by cases h⟩

theorem standWiders_holds : Rows.StandWidersSaid :=
  OpenClaim.holds_of_wide 5 Try.f5 rfl rfl rfl rfl rfl rfl rfl ⟨rfl, rfl, rfl, rfl, rfl⟩ rfl rfl rfl rfl rfl (by kernel_rfl) Try.func5 (by kernel_rfl)
    (of_decide_eq_true (by kernel_rfl)) (by unfold Func.isWrapper; first | (rw [if_pos (by decide +kernel)]; kernel_rfl) | (rw [if_neg (by decide +kernel)]; exact ⟨rfl, rfl⟩))
    (fun os started H enc _ => standWiders_lifted os started H enc)
end Go.Proofs.Ytaejmbmkkdkliaa
