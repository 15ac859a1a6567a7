/- Contracts of mend's statements: the chapter's books and examples. Contracts of mend's statements: the examples; books that are sound. What comes in, of mend's types. Contracts of mend: what is asked of a sound book. -/
import Derived.Test.YtlcpplkbmlmmbaaGreatCaps11
import Derived.Test.YtlcpplkbmlmmbaaGreatGa15
import Derived.Test.YtlcpplkbmlmmbaaGreatGa17
import Derived.Test.YtlcpplkbmlmmbaaGreatCaps06
namespace Go.Proofs.YtlcpplkbmlmmbaaGreat.Mk.Me
open Go.RowKit Ls
def ac108 : AC := (AC.seq (AC.ops [(AOp.mk (some 2) (AK.new (PV.agg [(PV.sl SK.full 0 []), (PV.sl SK.full 0 []), (PV.val (Value.int IntKind.i64 0)), (PV.val (Value.int IntKind.i64 0))])) none 0 false true)]) (AC.seq (AC.ops [(AOp.mk (some 3) (AK.bslice false 3 1 3 [(PV.val (Value.int IntKind.i64 0))] [(0, (1, (AX.c (PV.val (Value.int IntKind.i64 1))))), (1, (1, (AX.c (PV.val (Value.int IntKind.i64 3))))), (2, (1, (AX.c (PV.val (Value.int IntKind.i64 4)))))]) none 0 false true), (AOp.mk (some 4) (AK.bslice false 3 1 3 [(PV.val (Value.int IntKind.i64 0))] [(0, (1, (AX.c (PV.val (Value.int IntKind.i64 2))))), (1, (1, (AX.c (PV.val (Value.int IntKind.i64 2))))), (2, (1, (AX.c (PV.val (Value.int IntKind.i64 4)))))]) none 1 false true), (AOp.mk (some 5) (AK.bslice false 3 1 3 [(PV.val (Value.int IntKind.i64 0))] [(0, (1, (AX.c (PV.val (Value.int IntKind.i64 1))))), (1, (1, (AX.c (PV.val (Value.int IntKind.i64 8))))), (2, (1, (AX.c (PV.val (Value.int IntKind.i64 3)))))]) none 2 false true), (AOp.mk (some 6) (AK.bslice false 27 1 3 [(PV.sl SK.full 0 [])] [(0, (1, (AX.t 3))), (1, (1, (AX.t 4))), (2, (1, (AX.t 5)))]) none 3 false true), (AOp.mk (some 7) (AK.mv (AX.t 0)) none 4 false true), (AOp.mk (some 8) (AK.build [(PV.val (Value.int IntKind.i64 0)), (PV.val (Value.int IntKind.i64 0))] [(0, (1, (AX.c (PV.val (Value.int IntKind.i64 0))))), (1, (1, (AX.c (PV.val (Value.int IntKind.i64 3)))))]) none 5 false true), (AOp.mk (some 9) (AK.build [(PV.val (Value.int IntKind.i64 0)), (PV.val (Value.int IntKind.i64 0))] [(0, (1, (AX.c (PV.val (Value.int IntKind.i64 1))))), (1, (1, (AX.c (PV.val (Value.int IntKind.i64 10)))))]) none 6 false true), (AOp.mk (some 10) (AK.build [(PV.val (Value.int IntKind.i64 0)), (PV.val (Value.int IntKind.i64 0))] [(0, (1, (AX.c (PV.val (Value.int IntKind.i64 2))))), (1, (1, (AX.c (PV.val (Value.int IntKind.i64 4)))))]) none 7 false true), (AOp.mk (some 11) (AK.bslice false 67 2 3 [(PV.val (Value.int IntKind.i64 0)), (PV.val (Value.int IntKind.i64 0))] [(0, (2, (AX.t 8))), (2, (2, (AX.t 9))), (4, (2, (AX.t 10)))]) none 8 false true), (AOp.mk (some 12) (AK.build [(PV.sl SK.full 0 []), (PV.sl SK.full 0 []), (PV.val (Value.int IntKind.i64 0)), (PV.val (Value.int IntKind.i64 0))] [(0, (1, (AX.t 6))), (2, (1, (AX.t 7))), (3, (1, (AX.c (PV.val (Value.int IntKind.i64 1))))), (1, (1, (AX.t 11)))]) none 9 false true), (AOp.mk none (AK.st 4 (AX.t 2) (AX.t 12)) none 10 false true)]) AC.ret))
theorem ac108_ok : cCode Tryz.prog (fun _ => false) Tryz.f108.ntmps (Tryz.f108.body.getD .skip) = some ac108 := by kernel_rfl
def ac109 : AC := (AC.seq (AC.ops [(AOp.mk (some 5) (AK.box 2 (AX.t 1)) none 0 false true), (AOp.mk (some 6) (AK.box 2 (AX.t 2)) none 1 false true), (AOp.mk (some 8) (AK.new (PV.agg [(PV.val (Value.int IntKind.i64 0)), (PV.val (Value.int IntKind.i64 0)), (PV.val (Value.int IntKind.i64 0)), (PV.val (Value.int IntKind.i64 0)), (PV.val (Value.int IntKind.i64 0)), (PV.val (Value.int IntKind.i64 0))])) none 2 false true)]) (AC.seq (AC.ops [(AOp.mk (some 9) (AK.mv (AX.t 0)) none 0 false true), (AOp.mk (some 10) (AK.ld (some 2) (AX.t 5)) none 1 false true), (AOp.mk (some 11) (AK.ld (some 2) (AX.t 6)) none 2 false true), (AOp.mk (some 12) (AK.mv (AX.t 3)) none 3 false true), (AOp.mk (some 13) (AK.build [(PV.val (Value.int IntKind.i64 0)), (PV.val (Value.int IntKind.i64 0)), (PV.val (Value.int IntKind.i64 0)), (PV.val (Value.int IntKind.i64 0)), (PV.val (Value.int IntKind.i64 0)), (PV.val (Value.int IntKind.i64 0))] [(0, (1, (AX.t 9))), (1, (2, (AX.t 10))), (3, (2, (AX.t 11))), (5, (1, (AX.t 12)))]) none 4 false true), (AOp.mk none (AK.st 6 (AX.t 8) (AX.t 13)) none 5 false true)]) AC.ret))
theorem ac109_ok : cCode Tryz.prog (fun _ => false) Tryz.f109.ntmps (Tryz.f109.body.getD .skip) = some ac109 := by kernel_rfl
def ac75 : AC := (AC.seq (AC.ops [(AOp.mk (some 2) (AK.new (PV.agg [(PV.sl SK.full 0 []), (PV.sl SK.full 0 []), (PV.val (Value.int IntKind.i64 0)), (PV.val (Value.int IntKind.i64 0)), (PV.sl SK.full 0 []), (PV.val (Value.int IntKind.i64 0)), (PV.sl SK.full 0 []), (PV.sl SK.full 0 [])])) none 0 false true)]) (AC.seq (AC.ops [(AOp.mk (some 3) (AK.mv (AX.t 0)) none 0 false true), (AOp.mk (some 4) (AK.call 108 [(AX.t 3)]) none 1 false true), (AOp.mk (some 5) (AK.call 36 [(AX.c (PV.val (Value.int IntKind.i64 2))), (AX.c (PV.val (Value.int IntKind.i64 3)))]) none 2 false true), (AOp.mk (some 6) (AK.call 36 [(AX.c (PV.val (Value.int IntKind.i64 5))), (AX.c (PV.val (Value.int IntKind.i64 6)))]) none 3 false true), (AOp.mk (some 7) (AK.call 109 [(AX.c (PV.val (Value.int IntKind.i64 1))), (AX.t 5), (AX.t 6), (AX.c (PV.val (Value.int IntKind.i64 (-1))))]) none 4 false true), (AOp.mk (some 8) (AK.call 34 [(AX.c (PV.val (Value.int IntKind.i64 1)))]) none 5 false true), (AOp.mk (some 9) (AK.call 34 [(AX.c (PV.val (Value.int IntKind.i64 10)))]) none 6 false true), (AOp.mk (some 10) (AK.call 109 [(AX.c (PV.val (Value.int IntKind.i64 2))), (AX.t 8), (AX.t 9), (AX.c (PV.val (Value.int IntKind.i64 15)))]) none 7 false true), (AOp.mk (some 11) (AK.bslice false 51 6 2 [(PV.val (Value.int IntKind.i64 0)), (PV.val (Value.int IntKind.i64 0)), (PV.val (Value.int IntKind.i64 0)), (PV.val (Value.int IntKind.i64 0)), (PV.val (Value.int IntKind.i64 0)), (PV.val (Value.int IntKind.i64 0))] [(0, (6, (AX.t 7))), (6, (6, (AX.t 10)))]) none 8 false true), (AOp.mk (some 12) (AK.bslice false 3 1 3 [(PV.val (Value.int IntKind.i64 0))] [(0, (1, (AX.c (PV.val (Value.int IntKind.i64 3))))), (1, (1, (AX.c (PV.val (Value.int IntKind.i64 0))))), (2, (1, (AX.c (PV.val (Value.int IntKind.i64 7)))))]) none 9 false true), (AOp.mk (some 13) (AK.bslice false 3 1 3 [(PV.val (Value.int IntKind.i64 0))] [(0, (1, (AX.c (PV.val (Value.int IntKind.i64 1))))), (1, (1, (AX.c (PV.val (Value.int IntKind.i64 3))))), (2, (1, (AX.c (PV.val (Value.int IntKind.i64 12)))))]) none 10 false true), (AOp.mk (some 14) (AK.build [(PV.sl SK.full 0 []), (PV.sl SK.full 0 []), (PV.val (Value.int IntKind.i64 0)), (PV.val (Value.int IntKind.i64 0)), (PV.sl SK.full 0 []), (PV.val (Value.int IntKind.i64 0)), (PV.sl SK.full 0 []), (PV.sl SK.full 0 [])] [(0, (4, (AX.t 4))), (4, (1, (AX.t 11))), (5, (1, (AX.c (PV.val (Value.int IntKind.i64 4))))), (6, (1, (AX.t 12))), (7, (1, (AX.t 13)))]) none 11 false true), (AOp.mk none (AK.st 8 (AX.t 2) (AX.t 14)) none 12 false true)]) AC.ret))
theorem ac75_ok : cCode Tryz.prog (fun _ => false) Tryz.f75.ntmps (Tryz.f75.body.getD .skip) = some ac75 := by kernel_rfl
def ac35 : AC := (AC.seq (AC.ops [(AOp.mk (some 0) (AK.new (PV.agg [(PV.sl SK.full 0 []), (PV.sl SK.full 0 []), (PV.val (Value.int IntKind.i64 0)), (PV.val (Value.int IntKind.i64 0)), (PV.sl SK.full 0 []), (PV.val (Value.int IntKind.i64 0)), (PV.sl SK.full 0 []), (PV.sl SK.full 0 [])])) none 0 false true)]) (AC.seq (AC.ops [(AOp.mk (some 1) (AK.call 75 [(AX.c (PV.val (Value.int IntKind.i64 1)))]) none 0 false true), (AOp.mk none (AK.st 8 (AX.t 0) (AX.t 1)) none 1 false true)]) AC.ret))
theorem ac35_ok : cCode Tryz.prog (fun _ => false) Tryz.f35.ntmps (Tryz.f35.body.getD .skip) = some ac35 := by kernel_rfl
def ac38 : AC := (AC.seq (AC.ops [(AOp.mk (some 0) (AK.new (PV.agg [(PV.sl SK.full 0 []), (PV.sl SK.full 0 []), (PV.val (Value.int IntKind.i64 0)), (PV.val (Value.int IntKind.i64 0)), (PV.sl SK.full 0 []), (PV.val (Value.int IntKind.i64 0)), (PV.sl SK.full 0 []), (PV.sl SK.full 0 [])])) none 0 false true)]) (AC.seq (AC.ops [(AOp.mk (some 1) (AK.call 75 [(AX.c (PV.val (Value.int IntKind.i64 0)))]) none 0 false true), (AOp.mk none (AK.st 8 (AX.t 0) (AX.t 1)) none 1 false true)]) AC.ret))
theorem ac38_ok : cCode Tryz.prog (fun _ => false) Tryz.f38.ntmps (Tryz.f38.body.getD .skip) = some ac38 := by kernel_rfl
def ac21 : AC := (AC.seq (AC.ops [(AOp.mk (some 0) (AK.mv (AX.c (PV.val (Value.bool false)))) none 0 false true)]) (AC.seq (AC.ops [(AOp.mk (some 16) (AK.call 35 []) none 0 false true), (AOp.mk (some 17) (AK.call 11 [(AX.t 16), (AX.c (PV.val (Value.int IntKind.i64 0)))]) none 1 false true), (AOp.mk (some 15) (AK.mv (AX.t 17)) none 2 false true), (AOp.mk (some 18) (AK.ext (AX.t 15) 0) none 3 false true), (AOp.mk (some 19) (AK.ext (AX.t 15) 1) none 4 false true), (AOp.mk (some 1) (AK.new (PV.agg [(PV.val (Value.int IntKind.i64 0)), (PV.val (Value.int IntKind.i64 0))])) none 5 false true), (AOp.mk none (AK.st 2 (AX.t 1) (AX.t 18)) none 6 false true), (AOp.mk (some 2) (AK.mv (AX.t 19)) none 7 false true)]) (AC.seq (AC.ops [(AOp.mk (some 21) (AK.call 35 []) none 0 false true), (AOp.mk (some 22) (AK.call 22 [(AX.t 21)]) none 1 false true), (AOp.mk (some 20) (AK.mv (AX.t 22)) none 2 false true), (AOp.mk (some 23) (AK.ext (AX.t 20) 0) none 3 false true), (AOp.mk (some 24) (AK.ext (AX.t 20) 1) none 4 false true), (AOp.mk (some 3) (AK.new (PV.agg [(PV.val (Value.int IntKind.i64 0)), (PV.val (Value.int IntKind.i64 0))])) none 5 false true), (AOp.mk none (AK.st 2 (AX.t 3) (AX.t 23)) none 6 false true), (AOp.mk (some 4) (AK.mv (AX.t 24)) none 7 false true)]) (AC.seq (AC.ops [(AOp.mk (some 26) (AK.call 35 []) none 0 false true), (AOp.mk (some 27) (AK.call 15 [(AX.t 26)]) none 1 false true), (AOp.mk (some 25) (AK.mv (AX.t 27)) none 2 false true), (AOp.mk (some 28) (AK.ext (AX.t 25) 0) none 3 false true), (AOp.mk (some 29) (AK.ext (AX.t 25) 1) none 4 false true), (AOp.mk (some 5) (AK.new (PV.agg [(PV.val (Value.int IntKind.i64 0)), (PV.val (Value.int IntKind.i64 0))])) none 5 false true), (AOp.mk none (AK.st 2 (AX.t 5) (AX.t 28)) none 6 false true), (AOp.mk (some 6) (AK.mv (AX.t 29)) none 7 false true)]) (AC.seq (AC.ops [(AOp.mk (some 31) (AK.call 35 []) none 0 false true), (AOp.mk (some 32) (AK.call 24 [(AX.t 31), (AX.c (PV.val (Value.int IntKind.i64 33)))]) none 1 false true), (AOp.mk (some 30) (AK.mv (AX.t 32)) none 2 false true), (AOp.mk (some 33) (AK.ext (AX.t 30) 0) none 3 false true), (AOp.mk (some 34) (AK.ext (AX.t 30) 1) none 4 false true), (AOp.mk (some 7) (AK.mv (AX.t 33)) none 5 false true), (AOp.mk (some 8) (AK.mv (AX.t 34)) none 6 false true)]) (AC.seq (AC.ops [(AOp.mk (some 36) (AK.call 35 []) none 0 false true), (AOp.mk (some 37) (AK.call 26 [(AX.t 36), (AX.c (PV.val (Value.int IntKind.i64 35)))]) none 1 false true), (AOp.mk (some 35) (AK.mv (AX.t 37)) none 2 false true), (AOp.mk (some 38) (AK.ext (AX.t 35) 0) none 3 false true), (AOp.mk (some 39) (AK.ext (AX.t 35) 1) none 4 false true), (AOp.mk (some 9) (AK.mv (AX.t 38)) none 5 false true), (AOp.mk (some 10) (AK.mv (AX.t 39)) none 6 false true)]) (AC.seq (AC.seq (AC.ops [(AOp.mk (some 40) (AK.mv (AX.t 2)) none 0 true true), (AOp.mk (some 41) (AK.bin false BinOp.neq (AX.t 40) (AX.c (PV.val (Value.int IntKind.i64 0)))) none 1 true true), (AOp.mk (some 42) (AK.mv (AX.t 41)) none 2 true true), (AOp.mk (some 43) (AK.mv (AX.t 4)) (some (42, false)) 3 true true), (AOp.mk (some 44) (AK.bin false BinOp.neq (AX.t 43) (AX.c (PV.val (Value.int IntKind.i64 0)))) (some (42, false)) 4 true true), (AOp.mk (some 45) (AK.pick (AX.t 42) (AX.c (PV.val (Value.bool true))) (AX.t 44)) none 5 true true), (AOp.mk (some 46) (AK.mv (AX.t 45)) none 6 true true), (AOp.mk (some 47) (AK.mv (AX.t 6)) (some (46, false)) 7 true true), (AOp.mk (some 48) (AK.bin false BinOp.neq (AX.t 47) (AX.c (PV.val (Value.int IntKind.i64 0)))) (some (46, false)) 8 true true), (AOp.mk (some 49) (AK.pick (AX.t 46) (AX.c (PV.val (Value.bool true))) (AX.t 48)) none 9 true true), (AOp.mk (some 50) (AK.mv (AX.t 49)) none 10 true true), (AOp.mk (some 51) (AK.mv (AX.t 8)) (some (50, false)) 11 true true), (AOp.mk (some 52) (AK.bin false BinOp.neq (AX.t 51) (AX.c (PV.val (Value.int IntKind.i64 0)))) (some (50, false)) 12 true true), (AOp.mk (some 53) (AK.pick (AX.t 50) (AX.c (PV.val (Value.bool true))) (AX.t 52)) none 13 true true), (AOp.mk (some 54) (AK.mv (AX.t 53)) none 14 true true), (AOp.mk (some 55) (AK.mv (AX.t 10)) (some (54, false)) 15 true true), (AOp.mk (some 56) (AK.bin false BinOp.neq (AX.t 55) (AX.c (PV.val (Value.int IntKind.i64 0)))) (some (54, false)) 16 true true), (AOp.mk (some 57) (AK.pick (AX.t 54) (AX.c (PV.val (Value.bool true))) (AX.t 56)) none 17 true true), (AOp.mk (some 58) (AK.mv (AX.t 57)) none 18 true true), (AOp.mk (some 59) (AK.ld (some 2) (AX.t 1)) (some (58, false)) 19 true false), (AOp.mk (some 60) (AK.call 36 [(AX.c (PV.val (Value.int IntKind.i64 13))), (AX.c (PV.val (Value.int IntKind.i64 25)))]) (some (58, false)) 20 false false), (AOp.mk (some 61) (AK.eqs [CK.i, CK.i] true (AX.t 59) (AX.t 60)) (some (58, false)) 21 true true), (AOp.mk (some 62) (AK.pick (AX.t 58) (AX.c (PV.val (Value.bool true))) (AX.t 61)) none 22 true true), (AOp.mk (some 63) (AK.mv (AX.t 62)) none 23 true true), (AOp.mk (some 64) (AK.ld (some 2) (AX.t 3)) (some (63, false)) 24 true false), (AOp.mk (some 65) (AK.call 36 [(AX.c (PV.val (Value.int IntKind.i64 27))), (AX.c (PV.val (Value.int IntKind.i64 39)))]) (some (63, false)) 25 false false), (AOp.mk (some 66) (AK.eqs [CK.i, CK.i] true (AX.t 64) (AX.t 65)) (some (63, false)) 26 true true), (AOp.mk (some 67) (AK.pick (AX.t 63) (AX.c (PV.val (Value.bool true))) (AX.t 66)) none 27 true true), (AOp.mk (some 68) (AK.mv (AX.t 67)) none 28 true true), (AOp.mk (some 69) (AK.ld (some 2) (AX.t 5)) (some (68, false)) 29 true false), (AOp.mk (some 70) (AK.call 36 [(AX.c (PV.val (Value.int IntKind.i64 0))), (AX.c (PV.val (Value.int IntKind.i64 2)))]) (some (68, false)) 30 false false), (AOp.mk (some 71) (AK.eqs [CK.i, CK.i] true (AX.t 69) (AX.t 70)) (some (68, false)) 31 true true), (AOp.mk (some 72) (AK.pick (AX.t 68) (AX.c (PV.val (Value.bool true))) (AX.t 71)) none 32 true true), (AOp.mk (some 73) (AK.mv (AX.t 72)) none 33 true true), (AOp.mk (some 74) (AK.mv (AX.t 7)) (some (73, false)) 34 true true), (AOp.mk (some 75) (AK.un UnOp.not (AX.t 74)) (some (73, false)) 35 true true), (AOp.mk (some 76) (AK.pick (AX.t 73) (AX.c (PV.val (Value.bool true))) (AX.t 75)) none 36 true true), (AOp.mk (some 77) (AK.mv (AX.t 76)) none 37 true true), (AOp.mk (some 78) (AK.mv (AX.t 9)) (some (77, false)) 38 true false), (AOp.mk (some 79) (AK.bslice false 3 1 2 [(PV.val (Value.int IntKind.i64 0))] [(0, (1, (AX.c (PV.val (Value.int IntKind.i64 0))))), (1, (1, (AX.c (PV.val (Value.int IntKind.i64 2)))))]) (some (77, false)) 39 false true), (AOp.mk (some 80) (AK.call 28 [(AX.t 78), (AX.t 79)]) (some (77, false)) 40 false true), (AOp.mk (some 81) (AK.un UnOp.not (AX.t 80)) (some (77, false)) 41 true true), (AOp.mk (some 82) (AK.pick (AX.t 77) (AX.c (PV.val (Value.bool true))) (AX.t 81)) none 42 true true)]) (AC.cond (AX.t 82) (AC.seq (AC.ops [(AOp.mk (some 0) (AK.mv (AX.c (PV.val (Value.bool false)))) none 0 false true)]) AC.ret) AC.skip)) (AC.seq (AC.ops [(AOp.mk (some 84) (AK.call 35 []) none 0 false true), (AOp.mk (some 85) (AK.call 17 [(AX.t 84)]) none 1 false true), (AOp.mk (some 83) (AK.mv (AX.t 85)) none 2 false true), (AOp.mk (some 86) (AK.ext (AX.t 83) 0) none 3 false true), (AOp.mk (some 87) (AK.ext (AX.t 83) 1) none 4 false true), (AOp.mk (some 11) (AK.mv (AX.t 86)) none 5 false true), (AOp.mk (some 2) (AK.mv (AX.t 87)) none 6 false true)]) (AC.seq (AC.ops [(AOp.mk (some 89) (AK.call 35 []) none 0 false true), (AOp.mk (some 90) (AK.call 19 [(AX.t 89), (AX.c (PV.val (Value.int IntKind.i64 1)))]) none 1 false true), (AOp.mk (some 88) (AK.mv (AX.t 90)) none 2 false true), (AOp.mk (some 91) (AK.ext (AX.t 88) 0) none 3 false true), (AOp.mk (some 92) (AK.ext (AX.t 88) 1) none 4 false true), (AOp.mk (some 12) (AK.mv (AX.t 91)) none 5 false true), (AOp.mk (some 4) (AK.mv (AX.t 92)) none 6 false true)]) (AC.seq (AC.ops [(AOp.mk (some 94) (AK.call 35 []) none 0 false true), (AOp.mk (some 95) (AK.call 29 [(AX.t 94), (AX.c (PV.val (Value.int IntKind.i64 17)))]) none 1 false true), (AOp.mk (some 93) (AK.mv (AX.t 95)) none 2 false true), (AOp.mk (some 96) (AK.ext (AX.t 93) 0) none 3 false true), (AOp.mk (some 97) (AK.ext (AX.t 93) 1) none 4 false true), (AOp.mk (some 13) (AK.mv (AX.t 96)) none 5 false true), (AOp.mk (some 6) (AK.mv (AX.t 97)) none 6 false true)]) (AC.seq (AC.ops [(AOp.mk (some 99) (AK.call 38 []) none 0 false true), (AOp.mk (some 100) (AK.call 22 [(AX.t 99)]) none 1 false true), (AOp.mk (some 98) (AK.mv (AX.t 100)) none 2 false true), (AOp.mk (some 101) (AK.ext (AX.t 98) 0) none 3 false true), (AOp.mk (some 102) (AK.ext (AX.t 98) 1) none 4 false true), (AOp.mk (some 14) (AK.new (PV.agg [(PV.val (Value.int IntKind.i64 0)), (PV.val (Value.int IntKind.i64 0))])) none 5 false true), (AOp.mk none (AK.st 2 (AX.t 14) (AX.t 101)) none 6 false true), (AOp.mk (some 8) (AK.mv (AX.t 102)) none 7 false true)]) (AC.seq (AC.ops [(AOp.mk (some 103) (AK.mv (AX.t 2)) none 0 true true), (AOp.mk (some 104) (AK.bin false BinOp.eql (AX.t 103) (AX.c (PV.val (Value.int IntKind.i64 0)))) none 1 true true), (AOp.mk (some 105) (AK.mv (AX.t 104)) none 2 true true), (AOp.mk (some 106) (AK.mv (AX.t 4)) (some (105, true)) 3 true true), (AOp.mk (some 107) (AK.bin false BinOp.eql (AX.t 106) (AX.c (PV.val (Value.int IntKind.i64 0)))) (some (105, true)) 4 true true), (AOp.mk (some 108) (AK.pick (AX.t 105) (AX.t 107) (AX.c (PV.val (Value.bool false)))) none 5 true true), (AOp.mk (some 109) (AK.mv (AX.t 108)) none 6 true true), (AOp.mk (some 110) (AK.mv (AX.t 6)) (some (109, true)) 7 true true), (AOp.mk (some 111) (AK.bin false BinOp.eql (AX.t 110) (AX.c (PV.val (Value.int IntKind.i64 0)))) (some (109, true)) 8 true true), (AOp.mk (some 112) (AK.pick (AX.t 109) (AX.t 111) (AX.c (PV.val (Value.bool false)))) none 9 true true), (AOp.mk (some 113) (AK.mv (AX.t 112)) none 10 true true), (AOp.mk (some 114) (AK.mv (AX.t 8)) (some (113, true)) 11 true true), (AOp.mk (some 115) (AK.bin false BinOp.eql (AX.t 114) (AX.c (PV.val (Value.int IntKind.i64 0)))) (some (113, true)) 12 true true), (AOp.mk (some 116) (AK.pick (AX.t 113) (AX.t 115) (AX.c (PV.val (Value.bool false)))) none 13 true true), (AOp.mk (some 117) (AK.mv (AX.t 116)) none 14 true true), (AOp.mk (some 118) (AK.mv (AX.t 11)) (some (117, true)) 15 true true), (AOp.mk (some 119) (AK.bin false BinOp.eql (AX.t 118) (AX.c (PV.val (Value.int IntKind.i64 1)))) (some (117, true)) 16 true true), (AOp.mk (some 120) (AK.pick (AX.t 117) (AX.t 119) (AX.c (PV.val (Value.bool false)))) none 17 true true), (AOp.mk (some 121) (AK.mv (AX.t 120)) none 18 true true), (AOp.mk (some 122) (AK.mv (AX.t 12)) (some (121, true)) 19 true true), (AOp.mk (some 123) (AK.bin false BinOp.eql (AX.t 122) (AX.c (PV.val (Value.int IntKind.i64 2)))) (some (121, true)) 20 true true), (AOp.mk (some 124) (AK.pick (AX.t 121) (AX.t 123) (AX.c (PV.val (Value.bool false)))) none 21 true true), (AOp.mk (some 125) (AK.mv (AX.t 124)) none 22 true true), (AOp.mk (some 126) (AK.mv (AX.t 13)) (some (125, true)) 23 true false), (AOp.mk (some 127) (AK.bslice false 3 1 3 [(PV.val (Value.int IntKind.i64 0))] [(0, (1, (AX.c (PV.val (Value.int IntKind.i64 2))))), (1, (1, (AX.c (PV.val (Value.int IntKind.i64 1))))), (2, (1, (AX.c (PV.val (Value.int IntKind.i64 1)))))]) (some (125, true)) 24 false true), (AOp.mk (some 128) (AK.call 28 [(AX.t 126), (AX.t 127)]) (some (125, true)) 25 false true), (AOp.mk (some 129) (AK.pick (AX.t 125) (AX.t 128) (AX.c (PV.val (Value.bool false)))) none 26 true true), (AOp.mk (some 130) (AK.mv (AX.t 129)) none 27 true true), (AOp.mk (some 131) (AK.ld (some 2) (AX.t 14)) (some (130, true)) 28 true false), (AOp.mk (some 132) (AK.call 36 [(AX.c (PV.val (Value.int IntKind.i64 27))), (AX.c (PV.val (Value.int IntKind.i64 36)))]) (some (130, true)) 29 false false), (AOp.mk (some 133) (AK.eqs [CK.i, CK.i] false (AX.t 131) (AX.t 132)) (some (130, true)) 30 true true), (AOp.mk (some 134) (AK.pick (AX.t 130) (AX.t 133) (AX.c (PV.val (Value.bool false)))) none 31 true true), (AOp.mk (some 0) (AK.mv (AX.t 134)) none 32 true true)]) AC.ret))))))))))))
theorem ac21_ok : cCode Tryz.prog (fun _ => false) Tryz.f21.ntmps (Tryz.f21.body.getD .skip) = some ac21 := by kernel_rfl
theorem PVle.rowsK {k : SK} {sz : Nat} {l r : List (List PV)} (h : PVleR l r) : PVle (.sl k sz l) (.sl k sz r) := fun g v hv => by
  obtain ⟨h1, h2⟩ := h.spec
  cases hv with
  | sl _ _ _ ad n c f hl hn hc hm hk hz hat hh =>
    refine .sl k sz r ad n c f (by omega) hn hc hm hk (fun i e he => ?_) hat (fun i j e x he hx => ?_)
    · have hi : i < l.length := by rw [h1]; exact (List.getElem?_eq_some_iff.1 he).1
      rw [← (h2 i _ e (List.getElem?_eq_getElem hi) he).spec.1]
      exact hz i _ (List.getElem?_eq_getElem hi)
    · have hi : i < l.length := by rw [h1]; exact (List.getElem?_eq_some_iff.1 he).1
      obtain ⟨h3, h4⟩ := (h2 i _ e (List.getElem?_eq_getElem hi) he).spec
      have hj : j < l[i].length := by rw [h3]; exact (List.getElem?_eq_some_iff.1 hx).1
      exact h4 j _ x (List.getElem?_eq_getElem hj) hx g _ (hh i j _ _ (List.getElem?_eq_getElem hi) (List.getElem?_eq_getElem hj))
abbrev fuK : KS := ⟨.full, .full, .full, .full, .full⟩
def horseB (r : Int) : MBook := ⟨[[1, 3, 4], [2, 2, 4], [1, 8, 3]], [(0, 3), (1, 10), (2, 4)], r, 1⟩
def bookE (r : Int) : EBook := ⟨horseB r, [⟨1, 2, 3, 5, 6, -1⟩, ⟨2, 1, 1, 10, 10, 15⟩], 4, [3, 0, 7], [1, 3, 12]⟩
theorem horse_sem (r : Int) : Sem1 108 [pi r] (.agg (bookC .full .full (horseB r))) := by
  refine semC_of_exec' mixed Tryz.func108 (by kernel_rfl) (by kernel_rfl) ac108_ok 1 rfl (by decide) [(.cell 2 25)] (by kernel_rfl) ?_
  intro hr C hC hI
  unfold ac108
  simp only [go_sem, Nat.reduceBEq, Nat.reduceAdd, Nat.reduceLeDiff, putCells]
  refine retQ_cell_le (n := some 4) (by kernel_rfl) rfl ?_ rfl
  exact PVle.agg (show PVleL [_, _, _, _] [_, _, _, _] from ⟨PVle.rowsK (show PVleR [_, _, _] [_, _, _] from ⟨⟨PVle.sh _ _ _, trivial⟩, ⟨PVle.sh _ _ _, trivial⟩, ⟨PVle.sh _ _ _, trivial⟩, trivial⟩), PVle.refl _, PVle.refl _, PVle.refl _, trivial⟩)
theorem ljob_sem (k a b c d m : Int) : Sem1 109 [pi k, .agg [pi a, pi b], .agg [pi c, pi d], pi m] (.agg [pi k, pi a, pi b, pi c, pi d, pi m]) := by
  refine semC_of_exec' mixed Tryz.func109 (by kernel_rfl) (by kernel_rfl) ac109_ok 4 rfl (by decide) [(.cell 8 51)] (by kernel_rfl) ?_
  intro hr C hC hI
  unfold ac109
  simp only [go_sem, Nat.reduceBEq, Nat.reduceAdd, Nat.reduceLeDiff, putCells]
  exact retQ_cell (n := some 6) (by kernel_rfl) rfl rfl
theorem book_sem (r : Int) : Sem1 75 [pi r] (.agg (ebC fuK (bookE r))) := by
  refine semC_of_exec' mixed Tryz.func75 (by kernel_rfl) (by kernel_rfl) ac75_ok 1 rfl (by decide) [(.cell 2 29)] (by kernel_rfl) ?_
  intro hr C hC hI
  unfold ac75
  simp only [go_sem, Nat.reduceBEq]
  refine call_pure2 hC (horse_sem r) rfl (PVleL_refl _) ?_
  rintro r rfl
  simp only [go_sem]
  refine call_pure2 hC (From_sem ..) rfl (PVleL_refl _) ?_
  rintro r rfl
  simp only [go_sem]
  refine call_pure2 hC (From_sem ..) rfl (PVleL_refl _) ?_
  rintro r rfl
  simp only [go_sem, Nat.reduceBEq]
  refine call_pure2 hC (ljob_sem ..) rfl (PVleL_refl _) ?_
  rintro r rfl
  simp only [go_sem]
  refine call_pure2 hC (One_sem ..) rfl (PVleL_refl _) ?_
  rintro r rfl
  simp only [go_sem]
  refine call_pure2 hC (One_sem ..) rfl (PVleL_refl _) ?_
  rintro r rfl
  simp only [go_sem, Nat.reduceBEq]
  refine call_pure2 hC (ljob_sem ..) rfl (PVleL_refl _) ?_
  rintro r rfl
  simp only [go_sem, Nat.reduceBEq, Nat.reduceAdd, Nat.reduceLeDiff, putCells]
  exact retQ_cell (n := some 8) (by kernel_rfl) rfl rfl
theorem own_sem : Sem1 35 [] (.agg (ebC fuK (bookE 1))) := by
  refine semC_of_exec' mixed Tryz.func35 (by kernel_rfl) (by kernel_rfl) ac35_ok 0 rfl (by decide) [(.cell 0 29)] (by kernel_rfl) ?_
  intro hr C hC hI
  unfold ac35
  simp only [go_sem]
  refine call_pure2 hC (book_sem 1) rfl (PVleL_refl _) ?_
  rintro r rfl
  simp only [go_sem, Nat.reduceBEq, Nat.reduceAdd, putCells]
  exact retQ_cell (n := some 8) (by kernel_rfl) rfl rfl
theorem strict_sem : Sem1 38 [] (.agg (ebC fuK (bookE 0))) := by
  refine semC_of_exec' mixed Tryz.func38 (by kernel_rfl) (by kernel_rfl) ac38_ok 0 rfl (by decide) [(.cell 0 29)] (by kernel_rfl) ?_
  intro hr C hC hI
  unfold ac38
  simp only [go_sem]
  refine call_pure2 hC (book_sem 0) rfl (PVleL_refl _) ?_
  rintro r rfl
  simp only [go_sem, Nat.reduceBEq, Nat.reduceAdd, putCells]
  exact retQ_cell (n := some 8) (by kernel_rfl) rfl rfl
set_option maxRecDepth 100000
abbrev oB : PV := .agg (ebC fuK (bookE 1))
theorem ev_job : Sem1 11 [oB, pi 0] (.tup [.agg [pi 13, pi 25], pi 0]) := (Job_sem fuK (bookE 1) 0).mono fun _ h => h.trans (by kernel_rfl)
theorem ev_bill : Sem1 22 [oB] (.tup [.agg [pi 27, pi 39], pi 0]) := (Bill_sem fuK (bookE 1)).mono fun _ h => h.trans (by kernel_rfl)
theorem ev_loss : Sem1 15 [oB] (.tup [.agg [pi 0, pi 2], pi 0]) := (Loss_sem fuK (bookE 1)).mono fun _ h => h.trans (by kernel_rfl)
theorem ev_can : Sem1 24 [oB, pi 33] (.tup [pb true, pi 0]) := (Can_sem fuK (bookE 1) 33).mono fun _ h => h.trans (by kernel_rfl)
theorem ev_whose : Sem1 26 [oB, pi 35] (.tup [pis [0, 2], pi 0]) := (Whose_sem fuK (bookE 1) 35).mono fun _ h => h.trans (by kernel_rfl)
theorem ev_dear : Sem1 17 [oB] (.tup [pi 1, pi 0]) := (Dear_sem fuK (bookE 1)).mono fun _ h => h.trans (by kernel_rfl)
theorem ev_raise : Sem1 19 [oB, pi 1] (.tup [pi 2, pi 0]) := (Raise_sem fuK (bookE 1) 1).mono fun _ h => h.trans (by kernel_rfl)
theorem ev_pay : Sem1 29 [oB, pi 17] (.tup [pis [2, 1, 1], pi 0]) := (Pay_sem fuK (bookE 1) 17).mono fun _ h => h.trans (by kernel_rfl)
theorem ev_bill0 : Sem1 22 [.agg (ebC fuK (bookE 0))] (.tup [.agg [pi 27, pi 36], pi 0]) := (Bill_sem fuK (bookE 0)).mono fun _ h => h.trans (by kernel_rfl)
end Go.Proofs.YtlcpplkbmlmmbaaGreat.Mk.Me
namespace Go.Proofs.YtlcpplkbmlmmbaaGreat.Mk.Me
open Go.RowKit Ls
def ac31 : AC := (AC.seq (AC.ops [(AOp.mk (some 1) (AK.box 8 (AX.t 0)) none 0 false true), (AOp.mk (some 2) (AK.mv (AX.c (PV.val (Value.bool false)))) none 1 false true)]) (AC.seq (AC.ops [(AOp.mk (some 8) (AK.ld (some 8) (AX.t 1)) none 0 false true), (AOp.mk (some 9) (AK.call 13 [(AX.t 8)]) none 1 false true), (AOp.mk (some 10) (AK.bin false BinOp.eql (AX.t 9) (AX.c (PV.val (Value.int IntKind.i64 0)))) none 2 false true), (AOp.mk (some 11) (AK.mv (AX.t 10)) none 3 false true), (AOp.mk (some 12) (AK.fadr 0 (AX.t 1)) (some (11, true)) 4 false true), (AOp.mk (some 13) (AK.ld (some 4) (AX.t 12)) (some (11, true)) 5 false true), (AOp.mk (some 14) (AK.call 73 [(AX.t 13)]) (some (11, true)) 6 false true), (AOp.mk (some 15) (AK.bin false BinOp.eql (AX.t 14) (AX.c (PV.val (Value.int IntKind.i64 0)))) (some (11, true)) 7 false true), (AOp.mk (some 16) (AK.pick (AX.t 11) (AX.t 15) (AX.c (PV.val (Value.bool false)))) none 8 false true), (AOp.mk (some 17) (AK.mv (AX.t 16)) none 9 false true), (AOp.mk (some 18) (AK.fadr 0 (AX.t 1)) (some (17, true)) 10 false true), (AOp.mk (some 19) (AK.fadr 0 (AX.t 18)) (some (17, true)) 11 false true), (AOp.mk (some 20) (AK.ld none (AX.t 19)) (some (17, true)) 12 false true), (AOp.mk (some 21) (AK.len (AX.t 20)) (some (17, true)) 13 false true), (AOp.mk (some 22) (AK.call 60 [(AX.t 21), (AX.c (PV.val (Value.int IntKind.i64 1))), (AX.c (PV.val (Value.int IntKind.i64 5)))]) (some (17, true)) 14 false true), (AOp.mk (some 23) (AK.pick (AX.t 17) (AX.t 22) (AX.c (PV.val (Value.bool false)))) none 15 false true), (AOp.mk (some 24) (AK.mv (AX.t 23)) none 16 false true), (AOp.mk (some 25) (AK.fadr 0 (AX.t 1)) (some (24, true)) 17 false true), (AOp.mk (some 26) (AK.fadr 0 (AX.t 25)) (some (24, true)) 18 false true), (AOp.mk (some 27) (AK.ld none (AX.t 26)) (some (24, true)) 19 false true), (AOp.mk (some 28) (AK.iadrS 1 (AX.t 27) (AX.c (PV.val (Value.int IntKind.i64 0)))) (some (24, true)) 20 false true), (AOp.mk (some 29) (AK.ld none (AX.t 28)) (some (24, true)) 21 false true), (AOp.mk (some 30) (AK.len (AX.t 29)) (some (24, true)) 22 false true), (AOp.mk (some 31) (AK.call 60 [(AX.t 30), (AX.c (PV.val (Value.int IntKind.i64 1))), (AX.c (PV.val (Value.int IntKind.i64 6)))]) (some (24, true)) 23 false true), (AOp.mk (some 32) (AK.pick (AX.t 24) (AX.t 31) (AX.c (PV.val (Value.bool false)))) none 24 false true), (AOp.mk (some 33) (AK.mv (AX.t 32)) none 25 false true), (AOp.mk (some 34) (AK.fadr 0 (AX.t 1)) (some (33, true)) 26 false true), (AOp.mk (some 35) (AK.fadr 1 (AX.t 34)) (some (33, true)) 27 false true), (AOp.mk (some 36) (AK.ld none (AX.t 35)) (some (33, true)) 28 false true), (AOp.mk (some 37) (AK.len (AX.t 36)) (some (33, true)) 29 false true), (AOp.mk (some 38) (AK.bin false BinOp.leq (AX.t 37) (AX.c (PV.val (Value.int IntKind.i64 8)))) (some (33, true)) 30 false true), (AOp.mk (some 39) (AK.pick (AX.t 33) (AX.t 38) (AX.c (PV.val (Value.bool false)))) none 31 false true), (AOp.mk (some 40) (AK.mv (AX.t 39)) none 32 false true), (AOp.mk (some 41) (AK.fadr 4 (AX.t 1)) (some (40, true)) 33 false true), (AOp.mk (some 42) (AK.ld none (AX.t 41)) (some (40, true)) 34 false true), (AOp.mk (some 43) (AK.len (AX.t 42)) (some (40, true)) 35 false true), (AOp.mk (some 44) (AK.call 60 [(AX.t 43), (AX.c (PV.val (Value.int IntKind.i64 1))), (AX.c (PV.val (Value.int IntKind.i64 4)))]) (some (40, true)) 36 false true), (AOp.mk (some 45) (AK.pick (AX.t 40) (AX.t 44) (AX.c (PV.val (Value.bool false)))) none 37 false true), (AOp.mk (some 46) (AK.mv (AX.t 45)) none 38 false true), (AOp.mk (some 47) (AK.fadr 5 (AX.t 1)) (some (46, true)) 39 false true), (AOp.mk (some 48) (AK.ld none (AX.t 47)) (some (46, true)) 40 false true), (AOp.mk (some 49) (AK.call 60 [(AX.t 48), (AX.c (PV.val (Value.int IntKind.i64 0))), (AX.c (PV.val (Value.int IntKind.i64 20)))]) (some (46, true)) 41 false true), (AOp.mk (some 50) (AK.pick (AX.t 46) (AX.t 49) (AX.c (PV.val (Value.bool false)))) none 42 false true), (AOp.mk (some 51) (AK.mv (AX.t 50)) none 43 false true), (AOp.mk (some 52) (AK.fadr 6 (AX.t 1)) (some (51, true)) 44 false true), (AOp.mk (some 53) (AK.ld none (AX.t 52)) (some (51, true)) 45 false true), (AOp.mk (some 54) (AK.len (AX.t 53)) (some (51, true)) 46 false true), (AOp.mk (some 55) (AK.fadr 0 (AX.t 1)) (some (51, true)) 47 false true), (AOp.mk (some 56) (AK.fadr 0 (AX.t 55)) (some (51, true)) 48 false true), (AOp.mk (some 57) (AK.ld none (AX.t 56)) (some (51, true)) 49 false true), (AOp.mk (some 58) (AK.len (AX.t 57)) (some (51, true)) 50 false true), (AOp.mk (some 59) (AK.bin false BinOp.eql (AX.t 54) (AX.t 58)) (some (51, true)) 51 false true), (AOp.mk (some 60) (AK.pick (AX.t 51) (AX.t 59) (AX.c (PV.val (Value.bool false)))) none 52 false true), (AOp.mk (some 61) (AK.mv (AX.t 60)) none 53 false true), (AOp.mk (some 62) (AK.fadr 7 (AX.t 1)) (some (61, true)) 54 false true), (AOp.mk (some 63) (AK.ld none (AX.t 62)) (some (61, true)) 55 false true), (AOp.mk (some 64) (AK.len (AX.t 63)) (some (61, true)) 56 false true), (AOp.mk (some 65) (AK.call 60 [(AX.t 64), (AX.c (PV.val (Value.int IntKind.i64 1))), (AX.c (PV.val (Value.int IntKind.i64 4)))]) (some (61, true)) 57 false true), (AOp.mk (some 66) (AK.pick (AX.t 61) (AX.t 65) (AX.c (PV.val (Value.bool false)))) none 58 false true), (AOp.mk (some 3) (AK.mv (AX.t 66)) none 59 false true)]) (AC.seq (AC.seq (AC.ops [(AOp.mk (some 4) (AK.mv (AX.c (PV.val (Value.int IntKind.i64 0)))) none 0 false true)]) (AC.block 0 (AC.loop (AC.seq (AC.seq (AC.ops [(AOp.mk (some 67) (AK.mv (AX.t 3)) none 0 false true), (AOp.mk (some 68) (AK.mv (AX.t 67)) none 1 false true), (AOp.mk (some 69) (AK.mv (AX.t 4)) (some (68, true)) 2 false true), (AOp.mk (some 70) (AK.fadr 4 (AX.t 1)) (some (68, true)) 3 false true), (AOp.mk (some 71) (AK.ld none (AX.t 70)) (some (68, true)) 4 false true), (AOp.mk (some 72) (AK.len (AX.t 71)) (some (68, true)) 5 false true), (AOp.mk (some 73) (AK.bin false BinOp.lss (AX.t 69) (AX.t 72)) (some (68, true)) 6 false true), (AOp.mk (some 74) (AK.pick (AX.t 68) (AX.t 73) (AX.c (PV.val (Value.bool false)))) none 7 false true)]) (AC.cond (AX.t 74) AC.skip (AC.exit 0))) (AC.seq (AC.block 1 (AC.seq (AC.ops [(AOp.mk (some 77) (AK.fadr 4 (AX.t 1)) none 0 false true), (AOp.mk (some 78) (AK.ld none (AX.t 77)) none 1 false true), (AOp.mk (some 79) (AK.mv (AX.t 4)) none 2 false true), (AOp.mk (some 80) (AK.iadrS 6 (AX.t 78) (AX.t 79)) none 3 false true), (AOp.mk (some 81) (AK.ld (some 6) (AX.t 80)) none 4 false true), (AOp.mk (some 5) (AK.new (PV.agg [(PV.val (Value.int IntKind.i64 0)), (PV.val (Value.int IntKind.i64 0)), (PV.val (Value.int IntKind.i64 0)), (PV.val (Value.int IntKind.i64 0)), (PV.val (Value.int IntKind.i64 0)), (PV.val (Value.int IntKind.i64 0))])) none 5 false true), (AOp.mk none (AK.st 6 (AX.t 5) (AX.t 81)) none 6 false true)]) (AC.ops [(AOp.mk (some 82) (AK.fadr 0 (AX.t 5)) none 0 true false), (AOp.mk (some 83) (AK.ld none (AX.t 82)) none 1 true false), (AOp.mk (some 84) (AK.fadr 0 (AX.t 1)) none 2 true false), (AOp.mk (some 85) (AK.fadr 0 (AX.t 84)) none 3 true false), (AOp.mk (some 86) (AK.ld none (AX.t 85)) none 4 true false), (AOp.mk (some 87) (AK.iadrS 1 (AX.t 86) (AX.c (PV.val (Value.int IntKind.i64 0)))) none 5 true false), (AOp.mk (some 88) (AK.ld none (AX.t 87)) none 6 true false), (AOp.mk (some 89) (AK.len (AX.t 88)) none 7 true false), (AOp.mk (some 90) (AK.bin false BinOp.sub (AX.t 89) (AX.c (PV.val (Value.int IntKind.i64 1)))) none 8 true false), (AOp.mk (some 91) (AK.call 60 [(AX.t 83), (AX.c (PV.val (Value.int IntKind.i64 0))), (AX.t 90)]) none 9 false true), (AOp.mk (some 92) (AK.mv (AX.t 91)) none 10 true true), (AOp.mk (some 93) (AK.fadr 1 (AX.t 5)) (some (92, true)) 11 true true), (AOp.mk (some 94) (AK.ld (some 2) (AX.t 93)) (some (92, true)) 12 true true), (AOp.mk (some 95) (AK.call 74 [(AX.t 94), (AX.c (PV.val (Value.int IntKind.i64 0))), (AX.c (PV.val (Value.int IntKind.i64 20)))]) (some (92, true)) 13 false true), (AOp.mk (some 96) (AK.pick (AX.t 92) (AX.t 95) (AX.c (PV.val (Value.bool false)))) none 14 true true), (AOp.mk (some 97) (AK.mv (AX.t 96)) none 15 true true), (AOp.mk (some 98) (AK.fadr 3 (AX.t 5)) (some (97, true)) 16 true true), (AOp.mk (some 99) (AK.ld (some 2) (AX.t 98)) (some (97, true)) 17 true true), (AOp.mk (some 100) (AK.call 74 [(AX.t 99), (AX.c (PV.val (Value.int IntKind.i64 0))), (AX.c (PV.val (Value.int IntKind.i64 99)))]) (some (97, true)) 18 false true), (AOp.mk (some 101) (AK.pick (AX.t 97) (AX.t 100) (AX.c (PV.val (Value.bool false)))) none 19 true true), (AOp.mk (some 102) (AK.mv (AX.t 101)) none 20 true true), (AOp.mk (some 103) (AK.fadr 5 (AX.t 5)) (some (102, true)) 21 true true), (AOp.mk (some 104) (AK.ld none (AX.t 103)) (some (102, true)) 22 true true), (AOp.mk (some 105) (AK.call 60 [(AX.t 104), (AX.c (PV.val (Value.int IntKind.i64 (-1)))), (AX.c (PV.val (Value.int IntKind.i64 999)))]) (some (102, true)) 23 false true), (AOp.mk (some 106) (AK.pick (AX.t 102) (AX.t 105) (AX.c (PV.val (Value.bool false)))) none 24 true true), (AOp.mk (some 3) (AK.mv (AX.t 106)) none 25 true true)]))) (AC.ops [(AOp.mk (some 75) (AK.mv (AX.t 4)) none 0 false true), (AOp.mk (some 76) (AK.bin false BinOp.add (AX.t 75) (AX.c (PV.val (Value.int IntKind.i64 1)))) none 1 false true), (AOp.mk (some 4) (AK.mv (AX.t 76)) none 2 false true)])))))) (AC.seq (AC.seq (AC.ops [(AOp.mk (some 6) (AK.mv (AX.c (PV.val (Value.int IntKind.i64 0)))) none 0 false true)]) (AC.block 2 (AC.loop (AC.seq (AC.seq (AC.ops [(AOp.mk (some 107) (AK.mv (AX.t 3)) none 0 false true), (AOp.mk (some 108) (AK.mv (AX.t 107)) none 1 false true), (AOp.mk (some 109) (AK.mv (AX.t 6)) (some (108, true)) 2 false true), (AOp.mk (some 110) (AK.fadr 6 (AX.t 1)) (some (108, true)) 3 false true), (AOp.mk (some 111) (AK.ld none (AX.t 110)) (some (108, true)) 4 false true), (AOp.mk (some 112) (AK.len (AX.t 111)) (some (108, true)) 5 false true), (AOp.mk (some 113) (AK.bin false BinOp.lss (AX.t 109) (AX.t 112)) (some (108, true)) 6 false true), (AOp.mk (some 114) (AK.pick (AX.t 108) (AX.t 113) (AX.c (PV.val (Value.bool false)))) none 7 false true)]) (AC.cond (AX.t 114) AC.skip (AC.exit 2))) (AC.seq (AC.block 3 (AC.ops [(AOp.mk (some 117) (AK.fadr 6 (AX.t 1)) none 0 false true), (AOp.mk (some 118) (AK.ld none (AX.t 117)) none 1 false true), (AOp.mk (some 119) (AK.mv (AX.t 6)) none 2 false true), (AOp.mk (some 120) (AK.iadrS 1 (AX.t 118) (AX.t 119)) none 3 false true), (AOp.mk (some 121) (AK.ld none (AX.t 120)) none 4 false true), (AOp.mk (some 122) (AK.call 60 [(AX.t 121), (AX.c (PV.val (Value.int IntKind.i64 0))), (AX.c (PV.val (Value.int IntKind.i64 50)))]) none 5 false true), (AOp.mk (some 3) (AK.mv (AX.t 122)) none 6 false true)])) (AC.ops [(AOp.mk (some 115) (AK.mv (AX.t 6)) none 0 false true), (AOp.mk (some 116) (AK.bin false BinOp.add (AX.t 115) (AX.c (PV.val (Value.int IntKind.i64 1)))) none 1 false true), (AOp.mk (some 6) (AK.mv (AX.t 116)) none 2 false true)])))))) (AC.seq (AC.seq (AC.ops [(AOp.mk (some 7) (AK.mv (AX.c (PV.val (Value.int IntKind.i64 0)))) none 0 false true)]) (AC.block 4 (AC.loop (AC.seq (AC.seq (AC.ops [(AOp.mk (some 123) (AK.mv (AX.t 3)) none 0 false true), (AOp.mk (some 124) (AK.mv (AX.t 123)) none 1 false true), (AOp.mk (some 125) (AK.mv (AX.t 7)) (some (124, true)) 2 false true), (AOp.mk (some 126) (AK.fadr 7 (AX.t 1)) (some (124, true)) 3 false true), (AOp.mk (some 127) (AK.ld none (AX.t 126)) (some (124, true)) 4 false true), (AOp.mk (some 128) (AK.len (AX.t 127)) (some (124, true)) 5 false true), (AOp.mk (some 129) (AK.bin false BinOp.lss (AX.t 125) (AX.t 128)) (some (124, true)) 6 false true), (AOp.mk (some 130) (AK.pick (AX.t 124) (AX.t 129) (AX.c (PV.val (Value.bool false)))) none 7 false true)]) (AC.cond (AX.t 130) AC.skip (AC.exit 4))) (AC.seq (AC.block 5 (AC.ops [(AOp.mk (some 133) (AK.fadr 7 (AX.t 1)) none 0 false true), (AOp.mk (some 134) (AK.ld none (AX.t 133)) none 1 false true), (AOp.mk (some 135) (AK.mv (AX.t 7)) none 2 false true), (AOp.mk (some 136) (AK.iadrS 1 (AX.t 134) (AX.t 135)) none 3 false true), (AOp.mk (some 137) (AK.ld none (AX.t 136)) none 4 false true), (AOp.mk (some 138) (AK.call 60 [(AX.t 137), (AX.c (PV.val (Value.int IntKind.i64 1))), (AX.c (PV.val (Value.int IntKind.i64 240)))]) none 5 false true), (AOp.mk (some 139) (AK.mv (AX.t 138)) none 6 false true), (AOp.mk (some 140) (AK.mv (AX.t 7)) (some (139, true)) 7 false true), (AOp.mk (some 141) (AK.bin false BinOp.gtr (AX.t 140) (AX.c (PV.val (Value.int IntKind.i64 0)))) (some (139, true)) 8 false true), (AOp.mk (some 142) (AK.mv (AX.t 141)) (some (139, true)) 9 false true), (AOp.mk (some 143) (AK.fadr 7 (AX.t 1)) (some (142, false)) 10 false true), (AOp.mk (some 144) (AK.ld none (AX.t 143)) (some (142, false)) 11 false true), (AOp.mk (some 145) (AK.mv (AX.t 7)) (some (142, false)) 12 false true), (AOp.mk (some 146) (AK.iadrS 1 (AX.t 144) (AX.t 145)) (some (142, false)) 13 false true), (AOp.mk (some 147) (AK.ld none (AX.t 146)) (some (142, false)) 14 false true), (AOp.mk (some 148) (AK.bin false BinOp.eql (AX.t 147) (AX.c (PV.val (Value.int IntKind.i64 1)))) (some (142, false)) 15 false true), (AOp.mk (some 149) (AK.pick (AX.t 142) (AX.c (PV.val (Value.bool true))) (AX.t 148)) (some (139, true)) 16 false true), (AOp.mk (some 150) (AK.pick (AX.t 139) (AX.t 149) (AX.c (PV.val (Value.bool false)))) none 17 false true), (AOp.mk (some 3) (AK.mv (AX.t 150)) none 18 false true)])) (AC.ops [(AOp.mk (some 131) (AK.mv (AX.t 7)) none 0 false true), (AOp.mk (some 132) (AK.bin false BinOp.add (AX.t 131) (AX.c (PV.val (Value.int IntKind.i64 1)))) none 1 false true), (AOp.mk (some 7) (AK.mv (AX.t 132)) none 2 false true)])))))) (AC.seq (AC.ops [(AOp.mk (some 151) (AK.mv (AX.t 3)) none 0 false true), (AOp.mk (some 2) (AK.mv (AX.t 151)) none 1 false true)]) AC.ret))))))
theorem ac31_ok : cCode Tryz.prog (fun _ => false) Tryz.f31.ntmps (Tryz.f31.body.getD .skip) = some ac31 := by kernel_rfl
def chB (b : MBook) (bits : List Int) (k many : Nat) : Bool := decide ((many : Int) < b.repairs) && !(fixN b).testBit k && decide ((takeL bits k).tmod 3 = 0)
def hM (b : MBook) (bits : List Int) : Nat → Nat
  | 0 => 0
  | j + 1 => if chB b bits j (hM b bits j) then hM b bits j + 1 else hM b bits j
def chK (b : MBook) (bits : List Int) (k : Nat) : Bool := chB b bits k (hM b bits k)
def setN (b : MBook) (bits : List Int) : Nat → Nat
  | 0 => 0
  | j + 1 => if chK b bits j then setN b bits j ||| 2 ^ j else setN b bits j
theorem okC.first {b : MBook} (h : okC b) : ∃ h0 : 0 < b.makers.length, b.makers[0].length = nK b := ⟨by have := h.1; omega, (h.row (by have := h.1; omega)).1⟩
set_option maxRecDepth 20000 in
theorem exs_sem : Sem1 21 [] (pb true) := by
  have x1 := ev_job
  have x2 := ev_bill
  have x3 := ev_loss
  have x4 := ev_can
  have x5 := ev_whose
  have x6 := ev_dear
  have x7 := ev_raise
  have x8 := ev_pay
  have x9 := ev_bill0
  have y0 : Sem1 35 [] oB := own_sem
  have y1 := strict_sem
  obtain ⟨B, hB⟩ : ∃ B, oB = B := ⟨_, rfl⟩
  obtain ⟨S, hS⟩ : ∃ S, PV.agg (ebC fuK (bookE 0)) = S := ⟨_, rfl⟩
  rw [hB] at x1 x2 x3 x4 x5 x6 x7 x8 y0
  rw [hS] at x9 y1
  clear hB hS
  refine semC_of_exec' mixed Tryz.func21 (by kernel_rfl) (by kernel_rfl) ac21_ok 0 rfl (by decide) [(.tmp 0)] (by kernel_rfl) ?_
  intro hr C hC hI
  unfold ac21
  simp only [go_sem]
  refine call_pure2 hC (y0) rfl (PVleL_refl _) ?_
  rintro r rfl
  simp only [go_sem, Nat.reduceBEq]
  refine call_pure2 hC (x1) rfl (PVleL_refl _) ?_
  rintro r rfl
  simp only [go_sem, Nat.reduceBEq, Nat.reduceAdd, putCells]
  refine call_pure2 hC (y0) rfl (PVleL_refl _) ?_
  rintro r rfl
  simp only [go_sem, Nat.reduceBEq]
  refine call_pure2 hC (x2) rfl (PVleL_refl _) ?_
  rintro r rfl
  simp only [go_sem, Nat.reduceBEq, Nat.reduceAdd, putCells]
  refine call_pure2 hC (y0) rfl (PVleL_refl _) ?_
  rintro r rfl
  simp only [go_sem, Nat.reduceBEq]
  refine call_pure2 hC (x3) rfl (PVleL_refl _) ?_
  rintro r rfl
  simp only [go_sem, Nat.reduceBEq, Nat.reduceAdd, putCells]
  refine call_pure2 hC (y0) rfl (PVleL_refl _) ?_
  rintro r rfl
  simp only [go_sem, Nat.reduceBEq]
  refine call_pure2 hC (x4) rfl (PVleL_refl _) ?_
  rintro r rfl
  simp only [go_sem, Nat.reduceBEq]
  refine call_pure2 hC (y0) rfl (PVleL_refl _) ?_
  rintro r rfl
  simp only [go_sem, Nat.reduceBEq]
  refine call_pure2 hC (x5) rfl (PVleL_refl _) ?_
  rintro r rfl
  simp only [go_sem, Nat.reduceBEq, Nat.reduceAdd, decide_false, not_true_eq_false, Bool.false_eq_true]
  refine call_pure2 hC (From_sem 13 25) rfl (PVleL_refl _) ?_
  rintro r rfl
  simp only [go_sem, Nat.reduceBEq, Nat.reduceAdd, decide_true, Bool.true_and, Bool.not_true, Bool.false_eq_true]
  refine call_pure2 hC (From_sem 27 39) rfl (PVleL_refl _) ?_
  rintro r rfl
  simp only [go_sem, Nat.reduceBEq, Nat.reduceAdd, decide_true, Bool.true_and, Bool.not_true, Bool.false_eq_true]
  refine call_pure2 hC (From_sem 0 2) rfl (PVleL_refl _) ?_
  rintro r rfl
  simp only [go_sem, Nat.reduceBEq, Nat.reduceAdd, Nat.reduceLeDiff, putCells, decide_true, Bool.true_and, Bool.not_true]
  refine call_pure2 hC (Equal_sem [0, 2] [0, 2]) rfl ⟨PVle.refl _, PVle.sh _ _ _, trivial⟩ ?_
  rintro r rfl
  simp only [go_sem, Nat.reduceBEq, decide_true]
  refine call_pure2 hC (y0) rfl (PVleL_refl _) ?_
  rintro r rfl
  simp only [go_sem, Nat.reduceBEq]
  refine call_pure2 hC (x6) rfl (PVleL_refl _) ?_
  rintro r rfl
  simp only [go_sem, Nat.reduceBEq]
  refine call_pure2 hC (y0) rfl (PVleL_refl _) ?_
  rintro r rfl
  simp only [go_sem, Nat.reduceBEq]
  refine call_pure2 hC (x7) rfl (PVleL_refl _) ?_
  rintro r rfl
  simp only [go_sem, Nat.reduceBEq]
  refine call_pure2 hC (y0) rfl (PVleL_refl _) ?_
  rintro r rfl
  simp only [go_sem, Nat.reduceBEq]
  refine call_pure2 hC (x8) rfl (PVleL_refl _) ?_
  rintro r rfl
  simp only [go_sem, Nat.reduceBEq]
  refine call_pure2 hC (y1) rfl (PVleL_refl _) ?_
  rintro r rfl
  simp only [go_sem, Nat.reduceBEq]
  refine call_pure2 hC (x9) rfl (PVleL_refl _) ?_
  rintro r rfl
  simp only [go_sem, Nat.reduceBEq, Nat.reduceAdd, Nat.reduceLeDiff, putCells, decide_true, not_false_eq_true]
  refine call_pure2 hC (Equal_sem [2, 1, 1] [2, 1, 1]) rfl ⟨PVle.refl _, PVle.sh _ _ _, trivial⟩ ?_
  rintro r rfl
  simp only [go_sem, Nat.reduceBEq, Nat.reduceAdd, decide_true, Bool.false_eq_true]
  refine call_pure2 hC (From_sem 27 36) rfl (PVleL_refl _) ?_
  rintro r rfl
  simp only [go_sem, Nat.reduceBEq, decide_true, Bool.true_and]
  exact retQ_one rfl rfl
theorem sound_sem (κ : KS) (b : EBook) : Sem1 31 [.agg (ebC κ b)] (pb (decide (okE b))) := by
  by_cases ho : okE b
  rotate_left
  · rw [decide_eq_false ho]
    refine semC_of_exec' mixed Tryz.func31 (by kernel_rfl) (by kernel_rfl) ac31_ok 1 rfl (by decide) [(.tmp 2)] (by kernel_rfl) ?_
    intro hr C hC hI
    unfold ac31
    simp only [go_sem, Nat.reduceBEq, Nat.reduceAdd]
    refine call_pure2 hC (Check_sem κ b) rfl (PVleL_refl _) ?_
    rintro r rfl
    simp only [go_sem, Nat.reduceBEq, if_neg ho, decide_false, Int.reduceEq, Int.reduceNeg]
    refine loop_k 0 (fun _ => True) [1] (fun i => [(3, .p (pb false)), (4, .p (pi 0))]) trivial rfl ⟨rfl, by simp, by simp⟩ (by simp [wkT, look, AV.lo]) ?_
    rintro i -
    simp only [go_sem, Nat.reduceBEq, Int.reduceNeg]
    refine loop_k 0 (fun _ => True) [1] (fun i => [(3, .p (pb false)), (6, .p (pi 0))]) trivial rfl ⟨rfl, by simp, by simp⟩ (by simp [wkT, look, AV.lo]) ?_
    rintro i -
    simp only [go_sem, Nat.reduceBEq]
    refine loop_k 0 (fun _ => True) [1] (fun i => [(3, .p (pb false)), (7, .p (pi 0))]) trivial rfl ⟨rfl, by simp, by simp⟩ (by simp [wkT, look, AV.lo]) ?_
    rintro i -
    simp only [go_sem, Nat.reduceBEq]
    exact retQ_one rfl rfl
  rw [decide_eq_true ho]
  obtain ⟨hm, hj, hx, hjs, hxs, hr, hcs⟩ := id ho
  obtain ⟨hz, hfl⟩ := okC.first hm.1
  have hcn := coins_ok hcs
  have hcl := hcn.le
  have h1 := hm.1.1
  have h2 := hm.1.2.1
  have h8 := hm.2
  have e0 : iadrS' 1 (.p (.sl κ.a 1 (rowsC b.mb.makers))) (.p (.val (.int .i64 0))) = some (.p (.ptr [pis b.mb.makers[0]] 0)) := iadr_map (f := fun h => [pis h]) (kd := κ.a) (sz := 1) (k := 0) hz
  have hxe : (b.extra.length : Int) = b.mb.makers.length := by omega
  refine semC_of_exec' mixed Tryz.func31 (by kernel_rfl) (by kernel_rfl) ac31_ok 1 rfl (by decide) [(.tmp 2)] (by kernel_rfl) ?_
  intro hr C hC hI
  unfold ac31
  simp only [go_sem, Nat.reduceBEq, Nat.reduceAdd]
  refine call_pure2 hC (Check_sem κ b) rfl (PVleL_refl _) ?_
  rintro r rfl
  simp only [go_sem, Nat.reduceBEq, Nat.reduceAdd, Nat.reduceLeDiff, if_pos ho, decide_true, Int.reduceNeg]
  refine call_pure2 hC (Mk.Check_sem κ.a κ.b b.mb) rfl (PVleL_refl _) ?_
  rintro r rfl
  simp only [go_sem, Nat.reduceBEq, if_pos hm, List.length_map, decide_true, Int.reduceNeg]
  refine call_pure2 hC (In_sem ..) rfl (PVleL_refl _) ?_
  rintro r rfl
  simp only [go_sem, Nat.reduceBEq, decide_eq_true (show (1 : Int) ≤ b.mb.makers.length ∧ (b.mb.makers.length : Int) ≤ 5 by omega), List.length_map, e0, hfl, Int.reduceNeg]
  refine call_pure2 hC (In_sem ..) rfl (PVleL_refl _) ?_
  rintro r rfl
  simp only [go_sem, Nat.reduceBEq, decide_eq_true (show (1 : Int) ≤ (nK b.mb : Int) ∧ (nK b.mb : Int) ≤ 6 by omega), decide_eq_true (show (b.mb.seen.length : Int) ≤ 8 by omega), List.length_map, Int.reduceNeg]
  refine call_pure2 hC (In_sem ..) rfl (PVleL_refl _) ?_
  rintro r rfl
  simp only [go_sem, Nat.reduceBEq, decide_eq_true (show (1 : Int) ≤ b.jobs.length ∧ (b.jobs.length : Int) ≤ 4 by omega), Int.reduceNeg]
  refine call_pure2 hC (In_sem ..) rfl (PVleL_refl _) ?_
  rintro r rfl
  simp only [go_sem, Nat.reduceBEq, decide_eq_true (show (0 : Int) ≤ b.rate ∧ b.rate ≤ 20 by omega), List.length_map, eq_true hxe, decide_true, Int.reduceNeg]
  refine call_pure2 hC (In_sem ..) rfl (PVleL_refl _) ?_
  rintro r rfl
  simp only [go_sem, Nat.reduceBEq, decide_eq_true (show (1 : Int) ≤ b.coins.length ∧ (b.coins.length : Int) ≤ 4 by have := hcn.ne; have := hcn.le; omega), Int.reduceNeg]
  refine loop_k b.jobs.length (fun _ => True) [1] (fun i => [(3, .p (pb true)), (4, .p (pi i))]) trivial rfl ⟨rfl, by simp, by simp⟩ (by simp [wkT, look, AV.lo]) ?_
  rintro i ⟨hi, -⟩
  simp only [go_sem, Nat.reduceBEq, List.length_map, Int.reduceNeg]
  refine ⟨fun c5 => ?_, fun c5 => ?_⟩
  · have hi2 : i < b.jobs.length := by omega
    obtain ⟨⟨q1, q2⟩, q3, q4, q5⟩ := hjs _ (List.getElem_mem hi2)
    have ei := iadr_map (f := jobC) (kd := κ.c) (sz := 6) hi2
    simp only [go_sem, Nat.reduceBEq, Nat.reduceAdd, ei, e0, hfl, putCells, List.length_map, wrap_id (n := (nK b.mb : Int) - 1) (by omega) (by omega)]
    refine call_pure2 hC (In_sem ..) rfl (PVleL_refl _) ?_
    rintro r rfl
    simp only [go_sem, Nat.reduceBEq, Nat.reduceAdd, Nat.reduceLeDiff, decide_eq_true (show 0 ≤ b.jobs[i].kind ∧ b.jobs[i].kind ≤ (nK b.mb : Int) - 1 by omega), Int.reduceNeg]
    refine call_pure2 hC (Ordered_sem b.jobs[i].hl b.jobs[i].hh 0 20) rfl (PVleL_refl _) ?_
    rintro _ rfl
    simp only [go_sem, Nat.reduceBEq, Nat.reduceAdd, Nat.reduceLeDiff, decide_eq_true (show 0 ≤ b.jobs[i].hl ∧ b.jobs[i].hl ≤ b.jobs[i].hh ∧ b.jobs[i].hh ≤ 20 by omega), Int.reduceNeg]
    refine call_pure2 hC (Ordered_sem b.jobs[i].pl b.jobs[i].ph 0 99) rfl (PVleL_refl _) ?_
    rintro _ rfl
    simp only [go_sem, Nat.reduceBEq, decide_eq_true (show 0 ≤ b.jobs[i].pl ∧ b.jobs[i].pl ≤ b.jobs[i].ph ∧ b.jobs[i].ph ≤ 99 by omega), Int.reduceNeg]
    refine call_pure2 hC (In_sem ..) rfl (PVleL_refl _) ?_
    rintro r rfl
    simp only [go_sem, Nat.reduceBEq, decide_eq_true (show -1 ≤ b.jobs[i].cap ∧ b.jobs[i].cap ≤ 999 by omega), wrap_succ (k := i) (by omega), Int.reduceNeg]
    refine ⟨⟨i + 1, hi2, trivial⟩, by simp only; omega, ?_⟩
    simp [Wk, wkT, wkL, look, AV.lo, AV.lo.loL, ABlk.toZ]
  have hin : i = b.jobs.length := by omega
  subst hin
  refine loop_k b.extra.length (fun _ => True) [1] (fun i => [(3, .p (pb true)), (6, .p (pi i))]) trivial rfl ⟨rfl, by simp, by simp⟩ (by simp [wkT, look, AV.lo]) ?_
  rintro i ⟨hi, -⟩
  simp only [go_sem, Nat.reduceBEq, List.length_map]
  refine ⟨fun c5 => ?_, fun c5 => ?_⟩
  · have hi2 : i < b.extra.length := by omega
    have ei := iadr_map (f := fun x : Int => [pi x]) (kd := κ.d) (sz := 1) hi2
    simp only [go_sem, Nat.reduceBEq, ei]
    refine call_pure2 hC (In_sem ..) rfl (PVleL_refl _) ?_
    rintro r rfl
    simp only [go_sem, Nat.reduceBEq, decide_eq_true (hxs _ (List.getElem_mem hi2)), wrap_succ (k := i) (by omega)]
    refine ⟨⟨i + 1, hi2, trivial⟩, by simp only; omega, ?_⟩
    simp [Wk, wkT, wkL, look, AV.lo, AV.lo.loL, ABlk.toZ]
  have hin : i = b.extra.length := by omega
  subst hin
  refine loop_k b.coins.length (fun _ => True) [1] (fun i => [(3, .p (pb true)), (7, .p (pi i))]) trivial rfl ⟨rfl, by simp, by simp⟩ (by simp [wkT, look, AV.lo]) ?_
  rintro i ⟨hi, -⟩
  simp only [go_sem, Nat.reduceBEq, List.length_map]
  refine ⟨fun c5 => ?_, fun c5 => ?_⟩
  · have hi2 : i < b.coins.length := by omega
    have ei := iadr_map (f := fun x : Int => [pi x]) (kd := κ.e) (sz := 1) hi2
    have hcg : b.coins[i] = b.coins.getD i 0 := by rw [List.getD_eq_getElem?_getD, List.getElem?_eq_getElem hi2]; rfl
    have hc1 := hcn.pos i hi2
    have hc2 := hcn.top i hi2
    rw [hcg] at ei
    simp only [go_sem, Nat.reduceBEq, ei]
    refine call_pure2 hC (In_sem ..) rfl (PVleL_refl _) ?_
    rintro r rfl
    simp only [go_sem, Nat.reduceBEq, decide_eq_true (show 1 ≤ b.coins.getD i 0 ∧ b.coins.getD i 0 ≤ 240 from ⟨hc1, hc2⟩)]
    by_cases hi0 : i = 0
    · subst hi0
      have hone := hcn.one
      rw [hone] at ei
      simp only [Int.natCast_zero] at ei
      simp only [go_sem, Nat.reduceBEq, Int.natCast_zero, ei, hone, Int.zero_add, wrap_id (n := (1 : Int)) (by decide) (by decide), decide_true, decide_false, not_false_eq_true, false_implies, true_implies, Int.reduceLT]
      refine ⟨⟨0 + 1, hi2, trivial⟩, by simp only; omega, ?_⟩
      simp [Wk, wkT, wkL, look, AV.lo, AV.lo.loL, ABlk.toZ]
    · have hip : (0 : Int) < (i : Int) := by omega
      simp only [go_sem, eq_true hip, wrap_succ (k := i) (by omega), decide_true, not_true_eq_false, false_implies, true_implies]
      refine ⟨⟨i + 1, hi2, trivial⟩, by simp only; omega, ?_⟩
      simp [Wk, wkT, wkL, look, AV.lo, AV.lo.loL, ABlk.toZ]
  have hin : i = b.coins.length := by omega
  subst hin
  exact retQ_one rfl rfl
end Go.Proofs.YtlcpplkbmlmmbaaGreat.Mk.Me
namespace Go.Proofs.YtlcpplkbmlmmbaaGreat.Mk.Me
open Go.RowKit
set_option maxRecDepth 100000 in
theorem ty_span {f : Nat} {l : List PV} (h : Ty Tryz.prog (f + 2) 31 l) : ∃ a b : Int, l = [pi a, pi b] := by
  obtain ⟨a0, r0, rfl, h0, a1, r1, rfl, h1, rfl⟩ := tyStruct Tryz.underlying31 h
  obtain ⟨n0, rfl⟩ := tyInt uInt h0
  obtain ⟨n1, rfl⟩ := tyInt uInt h1
  exact ⟨n0, n1, rfl⟩
set_option maxRecDepth 100000 in
theorem ty_job {f : Nat} {l : List PV} (h : Ty Tryz.prog (f + 4) 51 l) : ∃ j : Job, l = jobC j := by
  obtain ⟨a0, r0, rfl, h0, a1, r1, rfl, h1, a2, r2, rfl, h2, a3, r3, rfl, h3, rfl⟩ := tyStruct Tryz.underlying51 h
  obtain ⟨n0, rfl⟩ := tyInt uInt h0
  obtain ⟨x, y, rfl⟩ := ty_span h1
  obtain ⟨z, w, rfl⟩ := ty_span h2
  obtain ⟨n3, rfl⟩ := tyInt uInt h3
  exact ⟨⟨n0, x, y, z, w, n3⟩, rfl⟩
set_option maxRecDepth 100000 in
theorem ty_mk {f : Nat} {l : List PV} (h : Ty Tryz.prog (f + 5) 25 l) : ∃ b, l = bookC .sh .sh b := by
  obtain ⟨a0, r0, rfl, h0, a1, r1, rfl, h1, a2, r2, rfl, h2, a3, r3, rfl, h3, rfl⟩ := tyStruct Tryz.underlying25 h
  obtain ⟨es, rfl, -, g1⟩ := tySlice Tryz.underlying22 h0
  obtain ⟨hs, rfl⟩ := list_map_ex (f := fun h : List Int => [pis h]) fun y hy => ty_ints (g1 y hy).2
  obtain ⟨es2, rfl, -, g2⟩ := tySlice Tryz.underlying23 h1
  obtain ⟨ms, rfl⟩ := list_map_ex (f := fun m : Int × Int => [pi m.1, pi m.2]) fun y hy => ty_mark (g2 y hy).2
  obtain ⟨n2, rfl⟩ := tyInt uInt h2
  obtain ⟨n3, rfl⟩ := tyInt uInt h3
  exact ⟨⟨hs, ms, n2, n3⟩, rfl⟩
abbrev shK : KS := ⟨.sh, .sh, .sh, .sh, .sh⟩
set_option maxRecDepth 100000 in
theorem ty_ebook {l : List PV} (h : Ty Tryz.prog 10 29 l) : ∃ b, l = ebC shK b := by
  obtain ⟨a0, r0, rfl, h0, a1, r1, rfl, h1, a2, r2, rfl, h2, a3, r3, rfl, h3, a4, r4, rfl, h4, rfl⟩ := tyStruct Tryz.underlying29 h
  obtain ⟨m, rfl⟩ := ty_mk h0
  obtain ⟨es, rfl, -, g1⟩ := tySlice Tryz.underlying26 h1
  obtain ⟨js, rfl⟩ := list_map_ex (f := jobC) fun y hy => ty_job (g1 y hy).2
  obtain ⟨n2, rfl⟩ := tyInt uInt h2
  obtain ⟨xs, rfl⟩ := ty_ints h3
  obtain ⟨cs, rfl⟩ := ty_ints h4
  exact ⟨⟨m, js, n2, xs, cs⟩, rfl⟩
end Go.Proofs.YtlcpplkbmlmmbaaGreat.Mk.Me
namespace Go.Proofs.YtlcpplkbmlmmbaaGreat.Mk.Me
open Go.RowKit Ls
theorem okN_of {b : EBook} {k : Nat} (h : k < b.jobs.length) : okN b (k : Int) = true := decide_eq_true (by omega)
theorem rnd_job {b : EBook} (h : okE b) (n : Int) : ∃ k : Nat, rndI n (b.jobs.length : Int) = k ∧ k < b.jobs.length := by
  have h1 := h.2.1.1
  have h2 := rndI_range (n := n) (m := (b.jobs.length : Int)) (by omega)
  exact ⟨(rndI n (b.jobs.length : Int)).toNat, by omega, by omega⟩
theorem errF_no {b : EBook} (ho : okE b) (hw : whoL b.mb = []) : errF b true = 82 := by
  unfold errF
  rw [if_pos ho, if_pos rfl, if_pos hw]
section
variable (κ : KS) {b : EBook}
theorem Job_ok (h : errF b true = 0) {k : Nat} (hk : k < b.jobs.length) : Sem1 11 [.agg (ebC κ b), pi k] (.tup [spanP b 0 [jobN b k], pi 0]) := by
  have := Job_sem κ b (k : Int)
  rwa [okN_of hk, if_pos h, Int.toNat_natCast] at this
theorem Bill_ok (h : errF b true = 0) : Sem1 22 [.agg (ebC κ b)] (.tup [spanP b 1 b.jobs, pi 0]) := by
  have := Bill_sem κ b
  rwa [if_pos h] at this
theorem Bill_no (h : errF b true = 82) : Sem1 22 [.agg (ebC κ b)] (.tup [.agg [pi 0, pi 0], pi 82]) := by
  have := Bill_sem κ b
  rwa [h, if_neg (by decide)] at this
theorem Loss_ok (h : errF b true = 0) : Sem1 15 [.agg (ebC κ b)] (.tup [spanP b 2 b.jobs, pi 0]) := by
  have := Loss_sem κ b
  rwa [if_pos h] at this
theorem Loss_no (h : errF b true = 82) : Sem1 15 [.agg (ebC κ b)] (.tup [.agg [pi 0, pi 0], pi 82]) := by
  have := Loss_sem κ b
  rwa [h, if_neg (by decide)] at this
end
theorem one_sum (lo : Bool) (b : EBook) (w : Nat) (j : Job) (t : Nat × Nat) : jobsI lo b w [j] t = eachI lo b w t j := by
  unfold jobsI
  rw [List.map_cons, List.map_nil, sum_cons]
  simp [sumI]
theorem sum_zero {α : Type} {f : α → Int} : ∀ {l : List α}, (∀ y ∈ l, f y = 0) → sumI (l.map f) = 0
  | [], _ => rfl
  | y :: l, h => by rw [List.map_cons, sum_cons, h y (List.mem_cons_self ..), sum_zero fun z hz => h z (List.mem_cons_of_mem _ hz)]; rfl
theorem loss_all {b : EBook} (ho : okE b) (hne : known b ≠ []) (h : ∀ k, k < b.jobs.length → lossI b (jobN b k) = 0) : outI true b 2 b.jobs = 0 ∧ outI false b 2 b.jobs = 0 := by
  have key : ∀ t ∈ known b, jobsI false b 2 b.jobs t = 0 := fun t ht => sum_zero fun j hj => by
    obtain ⟨k, hk, e⟩ := List.mem_iff_getElem.1 hj
    have h1 := h k hk
    rw [← jobN_get hk, e] at h1
    have h2 := (high_facts hne 2 [j]).2 t ht
    rw [one_sum] at h2
    have h3 := (each_bound ho (ho.2.2.2.1 j hj) false 2 t).1
    unfold lossI at h1
    omega
  obtain ⟨⟨t, ht, h1⟩, -⟩ := high_facts hne 2 b.jobs
  have h2 := key t ht
  have h3 := ends_le ho.rate0 hne (js := b.jobs) (fun j hj => ho.span hj) 2
  have h4 := (out_bound ho hne ho.2.2.2.1 true 2).1
  omega
end Go.Proofs.YtlcpplkbmlmmbaaGreat.Mk.Me
