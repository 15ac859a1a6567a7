/- Contracts of maker's statements: the chapter's books and examples, books that are sound. Contracts of maker's statements: what was seen, what is told of a valid book. Mathematics of maker: what is told of two makers, and lists of values. Mathematics of maker: a mark that stands for all of its kind. Slices that are built, and appended to, within a tree. Law: MakerLook. -/
import Derived.Test.YtlbolnlcncjijaaKno06
import Derived.Test.YtlbolnlcncjijaaGa16
import Derived.Test.YtlbolnlcncjijaaKno04
import Derived.Test.YtlbolnlcncjijaaKno05
import Derived.Test.YtlbolnlcncjijaaGa17
namespace Go.Proofs.Ytlbolnlcncjijaa.Mk
open Go.RowKit Ls
def ac24 : AC := (AC.seq (AC.ops [(AOp.mk (some 4) (AK.new (PV.agg [(PV.val (Value.int IntKind.i64 0)), (PV.val (Value.int IntKind.i64 0))])) none 0 false true)]) (AC.seq (AC.ops [(AOp.mk (some 5) (AK.mv (AX.t 0)) none 0 false true), (AOp.mk (some 6) (AK.mv (AX.t 1)) none 1 false true), (AOp.mk (some 7) (AK.build [(PV.val (Value.int IntKind.i64 0)), (PV.val (Value.int IntKind.i64 0))] [(0, (1, (AX.t 5))), (1, (1, (AX.t 6)))]) none 2 false true), (AOp.mk none (AK.st 2 (AX.t 4) (AX.t 7)) none 3 false true)]) AC.ret))
theorem ac24_ok : cCode Try.prog (fun _ => false) Try.f24.ntmps (Try.f24.body.getD .skip) = some ac24 := by kernel_rfl
def ac15 : AC := (AC.seq (AC.ops [(AOp.mk (some 2) (AK.new (PV.agg [(PV.sl SK.full 0 []), (PV.sl SK.full 0 []), (PV.val (Value.int IntKind.i64 0)), (PV.val (Value.int IntKind.i64 0))])) none 0 false true)]) (AC.seq (AC.ops [(AOp.mk (some 3) (AK.bslice false 3 1 3 [(PV.val (Value.int IntKind.i64 0))] [(0, (1, (AX.c (PV.val (Value.int IntKind.i64 1))))), (1, (1, (AX.c (PV.val (Value.int IntKind.i64 3))))), (2, (1, (AX.c (PV.val (Value.int IntKind.i64 4)))))]) none 0 false true), (AOp.mk (some 4) (AK.bslice false 3 1 3 [(PV.val (Value.int IntKind.i64 0))] [(0, (1, (AX.c (PV.val (Value.int IntKind.i64 2))))), (1, (1, (AX.c (PV.val (Value.int IntKind.i64 2))))), (2, (1, (AX.c (PV.val (Value.int IntKind.i64 4)))))]) none 1 false true), (AOp.mk (some 5) (AK.bslice false 3 1 3 [(PV.val (Value.int IntKind.i64 0))] [(0, (1, (AX.c (PV.val (Value.int IntKind.i64 1))))), (1, (1, (AX.c (PV.val (Value.int IntKind.i64 8))))), (2, (1, (AX.c (PV.val (Value.int IntKind.i64 3)))))]) none 2 false true), (AOp.mk (some 6) (AK.bslice false 31 1 3 [(PV.sl SK.full 0 [])] [(0, (1, (AX.t 3))), (1, (1, (AX.t 4))), (2, (1, (AX.t 5)))]) none 3 false true), (AOp.mk (some 7) (AK.call 24 [(AX.c (PV.val (Value.int IntKind.i64 0))), (AX.c (PV.val (Value.int IntKind.i64 3)))]) none 4 false true), (AOp.mk (some 8) (AK.call 24 [(AX.c (PV.val (Value.int IntKind.i64 1))), (AX.c (PV.val (Value.int IntKind.i64 10)))]) none 5 false true), (AOp.mk (some 9) (AK.call 24 [(AX.c (PV.val (Value.int IntKind.i64 2))), (AX.c (PV.val (Value.int IntKind.i64 4)))]) none 6 false true), (AOp.mk (some 10) (AK.bslice false 27 2 3 [(PV.val (Value.int IntKind.i64 0)), (PV.val (Value.int IntKind.i64 0))] [(0, (2, (AX.t 7))), (2, (2, (AX.t 8))), (4, (2, (AX.t 9)))]) none 7 false true), (AOp.mk (some 11) (AK.mv (AX.t 0)) none 8 false true), (AOp.mk (some 12) (AK.build [(PV.sl SK.full 0 []), (PV.sl SK.full 0 []), (PV.val (Value.int IntKind.i64 0)), (PV.val (Value.int IntKind.i64 0))] [(0, (1, (AX.t 6))), (1, (1, (AX.t 10))), (2, (1, (AX.t 11))), (3, (1, (AX.c (PV.val (Value.int IntKind.i64 1)))))]) none 9 false true), (AOp.mk none (AK.st 4 (AX.t 2) (AX.t 12)) none 10 false true)]) AC.ret))
theorem ac15_ok : cCode Try.prog (fun _ => false) Try.f15.ntmps (Try.f15.body.getD .skip) = some ac15 := by kernel_rfl
def ac14 : AC := (AC.seq (AC.ops [(AOp.mk (some 0) (AK.new (PV.agg [(PV.sl SK.full 0 []), (PV.sl SK.full 0 []), (PV.val (Value.int IntKind.i64 0)), (PV.val (Value.int IntKind.i64 0))])) none 0 false true)]) (AC.seq (AC.ops [(AOp.mk (some 1) (AK.call 15 [(AX.c (PV.val (Value.int IntKind.i64 1)))]) none 0 false true), (AOp.mk none (AK.st 4 (AX.t 0) (AX.t 1)) none 1 false true)]) AC.ret))
theorem ac14_ok : cCode Try.prog (fun _ => false) Try.f14.ntmps (Try.f14.body.getD .skip) = some ac14 := by kernel_rfl
def ac23 : AC := (AC.seq (AC.ops [(AOp.mk (some 0) (AK.new (PV.agg [(PV.sl SK.full 0 []), (PV.sl SK.full 0 []), (PV.val (Value.int IntKind.i64 0)), (PV.val (Value.int IntKind.i64 0))])) none 0 false true)]) (AC.seq (AC.ops [(AOp.mk (some 1) (AK.call 15 [(AX.c (PV.val (Value.int IntKind.i64 0)))]) none 0 false true), (AOp.mk none (AK.st 4 (AX.t 0) (AX.t 1)) none 1 false true)]) AC.ret))
theorem ac23_ok : cCode Try.prog (fun _ => false) Try.f23.ntmps (Try.f23.body.getD .skip) = some ac23 := by kernel_rfl
def ac22 : AC := (AC.seq (AC.ops [(AOp.mk (some 0) (AK.new (PV.agg [(PV.sl SK.full 0 []), (PV.sl SK.full 0 []), (PV.val (Value.int IntKind.i64 0)), (PV.val (Value.int IntKind.i64 0))])) none 0 false true)]) (AC.seq (AC.ops [(AOp.mk (some 2) (AK.call 14 []) none 0 false true), (AOp.mk (some 1) (AK.new (PV.agg [(PV.sl SK.full 0 []), (PV.sl SK.full 0 []), (PV.val (Value.int IntKind.i64 0)), (PV.val (Value.int IntKind.i64 0))])) none 1 false true), (AOp.mk none (AK.st 4 (AX.t 1) (AX.t 2)) none 2 false true)]) (AC.seq (AC.ops [(AOp.mk (some 3) (AK.fadr 1 (AX.t 1)) none 0 true false), (AOp.mk (some 4) (AK.ld none (AX.t 3)) none 1 true false), (AOp.mk (some 5) (AK.call 24 [(AX.c (PV.val (Value.int IntKind.i64 0))), (AX.c (PV.val (Value.int IntKind.i64 8)))]) none 2 false false), (AOp.mk (some 6) (AK.bslice false 27 2 1 [(PV.val (Value.int IntKind.i64 0)), (PV.val (Value.int IntKind.i64 0))] [(0, (2, (AX.t 5)))]) none 3 false false), (AOp.mk (some 7) (AK.app false 27 2 16 [(PV.val (Value.int IntKind.i64 0)), (PV.val (Value.int IntKind.i64 0))] (AX.t 4) (AX.t 6)) none 4 false true), (AOp.mk (some 8) (AK.fadr 1 (AX.t 1)) none 5 true true), (AOp.mk none (AK.st 1 (AX.t 8) (AX.t 7)) none 6 false true)]) (AC.seq (AC.ops [(AOp.mk (some 9) (AK.ld (some 4) (AX.t 1)) none 0 false true), (AOp.mk none (AK.st 4 (AX.t 0) (AX.t 9)) none 1 false true)]) AC.ret))))
theorem ac22_ok : cCode Try.prog (fun _ => false) Try.f22.ntmps (Try.f22.body.getD .skip) = some ac22 := by kernel_rfl
def ac6 : AC := (AC.seq (AC.ops [(AOp.mk (some 1) (AK.box 4 (AX.t 0)) none 0 false true), (AOp.mk (some 2) (AK.mv (AX.c (PV.val (Value.bool false)))) none 1 false true)]) (AC.seq (AC.ops [(AOp.mk (some 7) (AK.ld (some 4) (AX.t 1)) none 0 false true), (AOp.mk (some 8) (AK.call 12 [(AX.t 7)]) none 1 false true), (AOp.mk (some 9) (AK.bin false BinOp.eql (AX.t 8) (AX.c (PV.val (Value.int IntKind.i64 0)))) none 2 false true), (AOp.mk (some 10) (AK.mv (AX.t 9)) none 3 false true), (AOp.mk (some 11) (AK.fadr 0 (AX.t 1)) (some (10, true)) 4 false true), (AOp.mk (some 12) (AK.ld none (AX.t 11)) (some (10, true)) 5 false true), (AOp.mk (some 13) (AK.len (AX.t 12)) (some (10, true)) 6 false true), (AOp.mk (some 14) (AK.call 33 [(AX.t 13), (AX.c (PV.val (Value.int IntKind.i64 1))), (AX.c (PV.val (Value.int IntKind.i64 5)))]) (some (10, true)) 7 false true), (AOp.mk (some 15) (AK.pick (AX.t 10) (AX.t 14) (AX.c (PV.val (Value.bool false)))) none 8 false true), (AOp.mk (some 16) (AK.mv (AX.t 15)) none 9 false true), (AOp.mk (some 17) (AK.fadr 1 (AX.t 1)) (some (16, true)) 10 false true), (AOp.mk (some 18) (AK.ld none (AX.t 17)) (some (16, true)) 11 false true), (AOp.mk (some 19) (AK.len (AX.t 18)) (some (16, true)) 12 false true), (AOp.mk (some 20) (AK.bin false BinOp.leq (AX.t 19) (AX.c (PV.val (Value.int IntKind.i64 8)))) (some (16, true)) 13 false true), (AOp.mk (some 21) (AK.pick (AX.t 16) (AX.t 20) (AX.c (PV.val (Value.bool false)))) none 14 false true), (AOp.mk (some 3) (AK.mv (AX.t 21)) none 15 false true)]) (AC.seq (AC.ops [(AOp.mk (some 22) (AK.mv (AX.t 3)) none 0 true true), (AOp.mk (some 23) (AK.mv (AX.t 22)) none 1 true true), (AOp.mk (some 24) (AK.fadr 0 (AX.t 1)) (some (23, true)) 2 true true), (AOp.mk (some 25) (AK.ld none (AX.t 24)) (some (23, true)) 3 true true), (AOp.mk (some 26) (AK.iadrS 1 (AX.t 25) (AX.c (PV.val (Value.int IntKind.i64 0)))) (some (23, true)) 4 true true), (AOp.mk (some 27) (AK.ld none (AX.t 26)) (some (23, true)) 5 true true), (AOp.mk (some 28) (AK.len (AX.t 27)) (some (23, true)) 6 true true), (AOp.mk (some 29) (AK.call 33 [(AX.t 28), (AX.c (PV.val (Value.int IntKind.i64 1))), (AX.c (PV.val (Value.int IntKind.i64 6)))]) (some (23, true)) 7 false true), (AOp.mk (some 30) (AK.pick (AX.t 23) (AX.t 29) (AX.c (PV.val (Value.bool false)))) none 8 true true), (AOp.mk (some 31) (AK.mv (AX.t 30)) none 9 true true), (AOp.mk (some 32) (AK.fadr 2 (AX.t 1)) (some (31, true)) 10 true false), (AOp.mk (some 33) (AK.ld none (AX.t 32)) (some (31, true)) 11 true false), (AOp.mk (some 34) (AK.fadr 0 (AX.t 1)) (some (31, true)) 12 true false), (AOp.mk (some 35) (AK.ld none (AX.t 34)) (some (31, true)) 13 true false), (AOp.mk (some 36) (AK.iadrS 1 (AX.t 35) (AX.c (PV.val (Value.int IntKind.i64 0)))) (some (31, true)) 14 true false), (AOp.mk (some 37) (AK.ld none (AX.t 36)) (some (31, true)) 15 true false), (AOp.mk (some 38) (AK.len (AX.t 37)) (some (31, true)) 16 true false), (AOp.mk (some 39) (AK.call 33 [(AX.t 33), (AX.c (PV.val (Value.int IntKind.i64 0))), (AX.t 38)]) (some (31, true)) 17 false true), (AOp.mk (some 40) (AK.pick (AX.t 31) (AX.t 39) (AX.c (PV.val (Value.bool false)))) none 18 true true), (AOp.mk (some 41) (AK.mv (AX.t 40)) none 19 true true), (AOp.mk (some 42) (AK.fadr 3 (AX.t 1)) (some (41, true)) 20 true false), (AOp.mk (some 43) (AK.ld none (AX.t 42)) (some (41, true)) 21 true false), (AOp.mk (some 44) (AK.fadr 0 (AX.t 1)) (some (41, true)) 22 true false), (AOp.mk (some 45) (AK.ld none (AX.t 44)) (some (41, true)) 23 true false), (AOp.mk (some 46) (AK.iadrS 1 (AX.t 45) (AX.c (PV.val (Value.int IntKind.i64 0)))) (some (41, true)) 24 true false), (AOp.mk (some 47) (AK.ld none (AX.t 46)) (some (41, true)) 25 true false), (AOp.mk (some 48) (AK.len (AX.t 47)) (some (41, true)) 26 true false), (AOp.mk (some 49) (AK.bin false BinOp.shl (AX.c (PV.val (Value.int IntKind.i64 1))) (AX.t 48)) (some (41, true)) 27 true false), (AOp.mk (some 50) (AK.bin false BinOp.sub (AX.t 49) (AX.c (PV.val (Value.int IntKind.i64 1)))) (some (41, true)) 28 true false), (AOp.mk (some 51) (AK.call 33 [(AX.t 43), (AX.c (PV.val (Value.int IntKind.i64 0))), (AX.t 50)]) (some (41, true)) 29 false true), (AOp.mk (some 52) (AK.pick (AX.t 41) (AX.t 51) (AX.c (PV.val (Value.bool false)))) none 30 true true), (AOp.mk (some 3) (AK.mv (AX.t 52)) none 31 true true)]) (AC.seq (AC.seq (AC.ops [(AOp.mk (some 4) (AK.mv (AX.c (PV.val (Value.int IntKind.i64 0)))) none 0 false true)]) (AC.block 0 (AC.loop (AC.seq (AC.seq (AC.ops [(AOp.mk (some 53) (AK.mv (AX.t 3)) none 0 false true), (AOp.mk (some 54) (AK.mv (AX.t 53)) none 1 false true), (AOp.mk (some 55) (AK.mv (AX.t 4)) (some (54, true)) 2 false true), (AOp.mk (some 56) (AK.fadr 0 (AX.t 1)) (some (54, true)) 3 false true), (AOp.mk (some 57) (AK.ld none (AX.t 56)) (some (54, true)) 4 false true), (AOp.mk (some 58) (AK.len (AX.t 57)) (some (54, true)) 5 false true), (AOp.mk (some 59) (AK.bin false BinOp.lss (AX.t 55) (AX.t 58)) (some (54, true)) 6 false true), (AOp.mk (some 60) (AK.pick (AX.t 54) (AX.t 59) (AX.c (PV.val (Value.bool false)))) none 7 false true)]) (AC.cond (AX.t 60) AC.skip (AC.exit 0))) (AC.seq (AC.block 1 (AC.seq (AC.ops [(AOp.mk (some 63) (AK.fadr 0 (AX.t 1)) none 0 true false), (AOp.mk (some 64) (AK.ld none (AX.t 63)) none 1 true false), (AOp.mk (some 65) (AK.mv (AX.t 4)) none 2 true false), (AOp.mk (some 66) (AK.iadrS 1 (AX.t 64) (AX.t 65)) none 3 true false), (AOp.mk (some 67) (AK.ld none (AX.t 66)) none 4 true false), (AOp.mk (some 68) (AK.len (AX.t 67)) none 5 true false), (AOp.mk (some 69) (AK.fadr 0 (AX.t 1)) none 6 true false), (AOp.mk (some 70) (AK.ld none (AX.t 69)) none 7 true false), (AOp.mk (some 71) (AK.iadrS 1 (AX.t 70) (AX.c (PV.val (Value.int IntKind.i64 0)))) none 8 true false), (AOp.mk (some 72) (AK.ld none (AX.t 71)) none 9 true false), (AOp.mk (some 73) (AK.len (AX.t 72)) none 10 true false), (AOp.mk (some 74) (AK.bin false BinOp.eql (AX.t 68) (AX.t 73)) none 11 true true), (AOp.mk (some 3) (AK.mv (AX.t 74)) none 12 true true)]) (AC.seq (AC.ops [(AOp.mk (some 5) (AK.mv (AX.c (PV.val (Value.int IntKind.i64 0)))) none 0 false true)]) (AC.block 2 (AC.loop (AC.seq (AC.seq (AC.ops [(AOp.mk (some 75) (AK.mv (AX.t 3)) none 0 false true), (AOp.mk (some 76) (AK.mv (AX.t 75)) none 1 false true), (AOp.mk (some 77) (AK.mv (AX.t 5)) (some (76, true)) 2 false true), (AOp.mk (some 78) (AK.fadr 0 (AX.t 1)) (some (76, true)) 3 false true), (AOp.mk (some 79) (AK.ld none (AX.t 78)) (some (76, true)) 4 false true), (AOp.mk (some 80) (AK.mv (AX.t 4)) (some (76, true)) 5 false true), (AOp.mk (some 81) (AK.iadrS 1 (AX.t 79) (AX.t 80)) (some (76, true)) 6 false true), (AOp.mk (some 82) (AK.ld none (AX.t 81)) (some (76, true)) 7 false true), (AOp.mk (some 83) (AK.len (AX.t 82)) (some (76, true)) 8 false true), (AOp.mk (some 84) (AK.bin false BinOp.lss (AX.t 77) (AX.t 83)) (some (76, true)) 9 false true), (AOp.mk (some 85) (AK.pick (AX.t 76) (AX.t 84) (AX.c (PV.val (Value.bool false)))) none 10 false true)]) (AC.cond (AX.t 85) AC.skip (AC.exit 2))) (AC.seq (AC.block 3 (AC.ops [(AOp.mk (some 88) (AK.fadr 0 (AX.t 1)) none 0 false true), (AOp.mk (some 89) (AK.ld none (AX.t 88)) none 1 false true), (AOp.mk (some 90) (AK.mv (AX.t 4)) none 2 false true), (AOp.mk (some 91) (AK.iadrS 1 (AX.t 89) (AX.t 90)) none 3 false true), (AOp.mk (some 92) (AK.ld none (AX.t 91)) none 4 false true), (AOp.mk (some 93) (AK.mv (AX.t 5)) none 5 false true), (AOp.mk (some 94) (AK.iadrS 1 (AX.t 92) (AX.t 93)) none 6 false true), (AOp.mk (some 95) (AK.ld none (AX.t 94)) none 7 false true), (AOp.mk (some 96) (AK.call 33 [(AX.t 95), (AX.c (PV.val (Value.int IntKind.i64 1))), (AX.c (PV.val (Value.int IntKind.i64 31)))]) none 8 false true), (AOp.mk (some 3) (AK.mv (AX.t 96)) none 9 false true)])) (AC.ops [(AOp.mk (some 86) (AK.mv (AX.t 5)) none 0 false true), (AOp.mk (some 87) (AK.bin false BinOp.add (AX.t 86) (AX.c (PV.val (Value.int IntKind.i64 1)))) none 1 false true), (AOp.mk (some 5) (AK.mv (AX.t 87)) none 2 false true)])))))))) (AC.ops [(AOp.mk (some 61) (AK.mv (AX.t 4)) none 0 false true), (AOp.mk (some 62) (AK.bin false BinOp.add (AX.t 61) (AX.c (PV.val (Value.int IntKind.i64 1)))) none 1 false true), (AOp.mk (some 4) (AK.mv (AX.t 62)) none 2 false true)])))))) (AC.seq (AC.seq (AC.ops [(AOp.mk (some 6) (AK.mv (AX.c (PV.val (Value.int IntKind.i64 0)))) none 0 false true)]) (AC.block 4 (AC.loop (AC.seq (AC.seq (AC.ops [(AOp.mk (some 97) (AK.mv (AX.t 3)) none 0 false true), (AOp.mk (some 98) (AK.mv (AX.t 97)) none 1 false true), (AOp.mk (some 99) (AK.mv (AX.t 6)) (some (98, true)) 2 false true), (AOp.mk (some 100) (AK.fadr 1 (AX.t 1)) (some (98, true)) 3 false true), (AOp.mk (some 101) (AK.ld none (AX.t 100)) (some (98, true)) 4 false true), (AOp.mk (some 102) (AK.len (AX.t 101)) (some (98, true)) 5 false true), (AOp.mk (some 103) (AK.bin false BinOp.lss (AX.t 99) (AX.t 102)) (some (98, true)) 6 false true), (AOp.mk (some 104) (AK.pick (AX.t 98) (AX.t 103) (AX.c (PV.val (Value.bool false)))) none 7 false true)]) (AC.cond (AX.t 104) AC.skip (AC.exit 4))) (AC.seq (AC.block 5 (AC.ops [(AOp.mk (some 107) (AK.fadr 1 (AX.t 1)) none 0 true false), (AOp.mk (some 108) (AK.ld none (AX.t 107)) none 1 true false), (AOp.mk (some 109) (AK.mv (AX.t 6)) none 2 true false), (AOp.mk (some 110) (AK.iadrS 2 (AX.t 108) (AX.t 109)) none 3 true false), (AOp.mk (some 111) (AK.fadr 0 (AX.t 110)) none 4 true false), (AOp.mk (some 112) (AK.ld none (AX.t 111)) none 5 true false), (AOp.mk (some 113) (AK.fadr 0 (AX.t 1)) none 6 true false), (AOp.mk (some 114) (AK.ld none (AX.t 113)) none 7 true false), (AOp.mk (some 115) (AK.iadrS 1 (AX.t 114) (AX.c (PV.val (Value.int IntKind.i64 0)))) none 8 true false), (AOp.mk (some 116) (AK.ld none (AX.t 115)) none 9 true false), (AOp.mk (some 117) (AK.len (AX.t 116)) none 10 true false), (AOp.mk (some 118) (AK.bin false BinOp.sub (AX.t 117) (AX.c (PV.val (Value.int IntKind.i64 1)))) none 11 true false), (AOp.mk (some 119) (AK.call 33 [(AX.t 112), (AX.c (PV.val (Value.int IntKind.i64 0))), (AX.t 118)]) none 12 false true), (AOp.mk (some 120) (AK.mv (AX.t 119)) none 13 true true), (AOp.mk (some 121) (AK.fadr 1 (AX.t 1)) (some (120, true)) 14 true true), (AOp.mk (some 122) (AK.ld none (AX.t 121)) (some (120, true)) 15 true true), (AOp.mk (some 123) (AK.mv (AX.t 6)) (some (120, true)) 16 true false), (AOp.mk (some 124) (AK.iadrS 2 (AX.t 122) (AX.t 123)) (some (120, true)) 17 true true), (AOp.mk (some 125) (AK.fadr 1 (AX.t 124)) (some (120, true)) 18 true true), (AOp.mk (some 126) (AK.ld none (AX.t 125)) (some (120, true)) 19 true true), (AOp.mk (some 127) (AK.call 33 [(AX.t 126), (AX.c (PV.val (Value.int IntKind.i64 1))), (AX.c (PV.val (Value.int IntKind.i64 31)))]) (some (120, true)) 20 false true), (AOp.mk (some 128) (AK.pick (AX.t 120) (AX.t 127) (AX.c (PV.val (Value.bool false)))) none 21 true true), (AOp.mk (some 3) (AK.mv (AX.t 128)) none 22 true true)])) (AC.ops [(AOp.mk (some 105) (AK.mv (AX.t 6)) none 0 false true), (AOp.mk (some 106) (AK.bin false BinOp.add (AX.t 105) (AX.c (PV.val (Value.int IntKind.i64 1)))) none 1 false true), (AOp.mk (some 6) (AK.mv (AX.t 106)) none 2 false true)])))))) (AC.seq (AC.ops [(AOp.mk (some 129) (AK.mv (AX.t 3)) none 0 false true), (AOp.mk (some 2) (AK.mv (AX.t 129)) none 1 false true)]) AC.ret))))))
def ac7 : AC := (AC.seq (AC.ops [(AOp.mk (some 0) (AK.mv (AX.c (PV.val (Value.bool false)))) none 0 false true)]) (AC.seq (AC.ops [(AOp.mk (some 16) (AK.call 14 []) none 0 false true), (AOp.mk (some 17) (AK.call 10 [(AX.t 16)]) none 1 false true), (AOp.mk (some 15) (AK.mv (AX.t 17)) none 2 false true), (AOp.mk (some 18) (AK.ext (AX.t 15) 0) none 3 false true), (AOp.mk (some 19) (AK.ext (AX.t 15) 1) none 4 false true), (AOp.mk (some 1) (AK.mv (AX.t 18)) none 5 false true), (AOp.mk (some 2) (AK.mv (AX.t 19)) none 6 false true)]) (AC.seq (AC.ops [(AOp.mk (some 21) (AK.call 14 []) none 0 false true), (AOp.mk (some 22) (AK.call 17 [(AX.t 21), (AX.c (PV.val (Value.int IntKind.i64 2)))]) none 1 false true), (AOp.mk (some 20) (AK.mv (AX.t 22)) none 2 false true), (AOp.mk (some 23) (AK.ext (AX.t 20) 0) none 3 false true), (AOp.mk (some 24) (AK.ext (AX.t 20) 1) none 4 false true), (AOp.mk (some 3) (AK.mv (AX.t 23)) none 5 false true), (AOp.mk (some 4) (AK.mv (AX.t 24)) none 6 false true)]) (AC.seq (AC.ops [(AOp.mk (some 26) (AK.call 14 []) none 0 false true), (AOp.mk (some 27) (AK.call 18 [(AX.t 26), (AX.c (PV.val (Value.int IntKind.i64 0))), (AX.c (PV.val (Value.int IntKind.i64 1)))]) none 1 false true), (AOp.mk (some 25) (AK.mv (AX.t 27)) none 2 false true), (AOp.mk (some 28) (AK.ext (AX.t 25) 0) none 3 false true), (AOp.mk (some 29) (AK.ext (AX.t 25) 1) none 4 false true), (AOp.mk (some 5) (AK.mv (AX.t 28)) none 5 false true), (AOp.mk (some 6) (AK.mv (AX.t 29)) none 6 false true)]) (AC.seq (AC.ops [(AOp.mk (some 31) (AK.call 14 []) none 0 false true), (AOp.mk (some 32) (AK.call 11 [(AX.t 31), (AX.c (PV.val (Value.int IntKind.i64 1)))]) none 1 false true), (AOp.mk (some 30) (AK.mv (AX.t 32)) none 2 false true), (AOp.mk (some 33) (AK.ext (AX.t 30) 0) none 3 false true), (AOp.mk (some 34) (AK.ext (AX.t 30) 1) none 4 false true), (AOp.mk (some 7) (AK.mv (AX.t 33)) none 5 false true), (AOp.mk (some 8) (AK.mv (AX.t 34)) none 6 false true)]) (AC.seq (AC.ops [(AOp.mk (some 36) (AK.call 14 []) none 0 false true), (AOp.mk (some 37) (AK.call 19 [(AX.t 36), (AX.c (PV.val (Value.int IntKind.i64 0))), (AX.c (PV.val (Value.int IntKind.i64 1)))]) none 1 false true), (AOp.mk (some 35) (AK.mv (AX.t 37)) none 2 false true), (AOp.mk (some 38) (AK.ext (AX.t 35) 0) none 3 false true), (AOp.mk (some 39) (AK.ext (AX.t 35) 1) none 4 false true), (AOp.mk (some 9) (AK.mv (AX.t 38)) none 5 false true), (AOp.mk (some 10) (AK.mv (AX.t 39)) none 6 false true)]) (AC.seq (AC.seq (AC.ops [(AOp.mk (some 40) (AK.mv (AX.t 2)) none 0 false true), (AOp.mk (some 41) (AK.bin false BinOp.neq (AX.t 40) (AX.c (PV.val (Value.int IntKind.i64 0)))) none 1 false true), (AOp.mk (some 42) (AK.mv (AX.t 41)) none 2 false true), (AOp.mk (some 43) (AK.mv (AX.t 4)) (some (42, false)) 3 false true), (AOp.mk (some 44) (AK.bin false BinOp.neq (AX.t 43) (AX.c (PV.val (Value.int IntKind.i64 0)))) (some (42, false)) 4 false true), (AOp.mk (some 45) (AK.pick (AX.t 42) (AX.c (PV.val (Value.bool true))) (AX.t 44)) none 5 false true), (AOp.mk (some 46) (AK.mv (AX.t 45)) none 6 false true), (AOp.mk (some 47) (AK.mv (AX.t 6)) (some (46, false)) 7 false true), (AOp.mk (some 48) (AK.bin false BinOp.neq (AX.t 47) (AX.c (PV.val (Value.int IntKind.i64 0)))) (some (46, false)) 8 false true), (AOp.mk (some 49) (AK.pick (AX.t 46) (AX.c (PV.val (Value.bool true))) (AX.t 48)) none 9 false true), (AOp.mk (some 50) (AK.mv (AX.t 49)) none 10 false true), (AOp.mk (some 51) (AK.mv (AX.t 8)) (some (50, false)) 11 false true), (AOp.mk (some 52) (AK.bin false BinOp.neq (AX.t 51) (AX.c (PV.val (Value.int IntKind.i64 0)))) (some (50, false)) 12 false true), (AOp.mk (some 53) (AK.pick (AX.t 50) (AX.c (PV.val (Value.bool true))) (AX.t 52)) none 13 false true), (AOp.mk (some 54) (AK.mv (AX.t 53)) none 14 false true), (AOp.mk (some 55) (AK.mv (AX.t 10)) (some (54, false)) 15 false true), (AOp.mk (some 56) (AK.bin false BinOp.neq (AX.t 55) (AX.c (PV.val (Value.int IntKind.i64 0)))) (some (54, false)) 16 false true), (AOp.mk (some 57) (AK.pick (AX.t 54) (AX.c (PV.val (Value.bool true))) (AX.t 56)) none 17 false true), (AOp.mk (some 58) (AK.mv (AX.t 57)) none 18 false true), (AOp.mk (some 59) (AK.mv (AX.t 1)) (some (58, false)) 19 false true), (AOp.mk (some 60) (AK.bslice false 3 1 3 [(PV.val (Value.int IntKind.i64 0))] [(0, (1, (AX.c (PV.val (Value.int IntKind.i64 0))))), (1, (1, (AX.c (PV.val (Value.int IntKind.i64 1))))), (2, (1, (AX.c (PV.val (Value.int IntKind.i64 2)))))]) (some (58, false)) 20 false true), (AOp.mk (some 61) (AK.call 25 [(AX.t 59), (AX.t 60)]) (some (58, false)) 21 false true), (AOp.mk (some 62) (AK.un UnOp.not (AX.t 61)) (some (58, false)) 22 false true), (AOp.mk (some 63) (AK.pick (AX.t 58) (AX.c (PV.val (Value.bool true))) (AX.t 62)) none 23 false true), (AOp.mk (some 64) (AK.mv (AX.t 63)) none 24 false true), (AOp.mk (some 65) (AK.mv (AX.t 3)) (some (64, false)) 25 false true), (AOp.mk (some 66) (AK.bin false BinOp.neq (AX.t 65) (AX.c (PV.val (Value.int IntKind.i64 1)))) (some (64, false)) 26 false true), (AOp.mk (some 67) (AK.pick (AX.t 64) (AX.c (PV.val (Value.bool true))) (AX.t 66)) none 27 false true), (AOp.mk (some 68) (AK.mv (AX.t 67)) none 28 false true), (AOp.mk (some 69) (AK.mv (AX.t 5)) (some (68, false)) 29 false true), (AOp.mk (some 70) (AK.bin false BinOp.neq (AX.t 69) (AX.c (PV.val (Value.int IntKind.i64 1)))) (some (68, false)) 30 false true), (AOp.mk (some 71) (AK.pick (AX.t 68) (AX.c (PV.val (Value.bool true))) (AX.t 70)) none 31 false true), (AOp.mk (some 72) (AK.mv (AX.t 71)) none 32 false true), (AOp.mk (some 73) (AK.mv (AX.t 7)) (some (72, false)) 33 false true), (AOp.mk (some 74) (AK.bslice false 3 1 2 [(PV.val (Value.int IntKind.i64 0))] [(0, (1, (AX.c (PV.val (Value.int IntKind.i64 1))))), (1, (1, (AX.c (PV.val (Value.int IntKind.i64 3)))))]) (some (72, false)) 34 false true), (AOp.mk (some 75) (AK.call 25 [(AX.t 73), (AX.t 74)]) (some (72, false)) 35 false true), (AOp.mk (some 76) (AK.un UnOp.not (AX.t 75)) (some (72, false)) 36 false true), (AOp.mk (some 77) (AK.pick (AX.t 72) (AX.c (PV.val (Value.bool true))) (AX.t 76)) none 37 false true), (AOp.mk (some 78) (AK.mv (AX.t 77)) none 38 false true), (AOp.mk (some 79) (AK.mv (AX.t 9)) (some (78, false)) 39 false true), (AOp.mk (some 80) (AK.un UnOp.not (AX.t 79)) (some (78, false)) 40 false true), (AOp.mk (some 81) (AK.pick (AX.t 78) (AX.c (PV.val (Value.bool true))) (AX.t 80)) none 41 false true)]) (AC.cond (AX.t 81) (AC.seq (AC.ops [(AOp.mk (some 0) (AK.mv (AX.c (PV.val (Value.bool false)))) none 0 false true)]) AC.ret) AC.skip)) (AC.seq (AC.ops [(AOp.mk (some 83) (AK.call 23 []) none 0 false true), (AOp.mk (some 84) (AK.call 20 [(AX.t 83)]) none 1 false true), (AOp.mk (some 82) (AK.mv (AX.t 84)) none 2 false true), (AOp.mk (some 85) (AK.ext (AX.t 82) 0) none 3 false true), (AOp.mk (some 86) (AK.ext (AX.t 82) 1) none 4 false true), (AOp.mk (some 11) (AK.mv (AX.t 85)) none 5 false true), (AOp.mk (some 2) (AK.mv (AX.t 86)) none 6 false true)]) (AC.seq (AC.ops [(AOp.mk (some 88) (AK.call 22 []) none 0 false true), (AOp.mk (some 89) (AK.call 21 [(AX.t 88)]) none 1 false true), (AOp.mk (some 87) (AK.mv (AX.t 89)) none 2 false true), (AOp.mk (some 90) (AK.ext (AX.t 87) 0) none 3 false true), (AOp.mk (some 91) (AK.ext (AX.t 87) 1) none 4 false true), (AOp.mk (some 12) (AK.mv (AX.t 90)) none 5 false true), (AOp.mk (some 4) (AK.mv (AX.t 91)) none 6 false true)]) (AC.seq (AC.ops [(AOp.mk (some 93) (AK.call 14 []) none 0 false true), (AOp.mk (some 94) (AK.call 16 [(AX.t 93)]) none 1 false true), (AOp.mk (some 92) (AK.mv (AX.t 94)) none 2 false true), (AOp.mk (some 95) (AK.ext (AX.t 92) 0) none 3 false true), (AOp.mk (some 96) (AK.ext (AX.t 92) 1) none 4 false true), (AOp.mk (some 13) (AK.mv (AX.t 95)) none 5 false true), (AOp.mk (some 6) (AK.mv (AX.t 96)) none 6 false true)]) (AC.seq (AC.ops [(AOp.mk (some 98) (AK.call 23 []) none 0 false true), (AOp.mk (some 99) (AK.call 10 [(AX.t 98)]) none 1 false true), (AOp.mk (some 97) (AK.mv (AX.t 99)) none 2 false true), (AOp.mk (some 100) (AK.ext (AX.t 97) 0) none 3 false true), (AOp.mk (some 101) (AK.ext (AX.t 97) 1) none 4 false true), (AOp.mk (some 14) (AK.mv (AX.t 100)) none 5 false true), (AOp.mk (some 8) (AK.mv (AX.t 101)) none 6 false true)]) (AC.seq (AC.ops [(AOp.mk (some 102) (AK.mv (AX.t 2)) none 0 false true), (AOp.mk (some 103) (AK.bin false BinOp.eql (AX.t 102) (AX.c (PV.val (Value.int IntKind.i64 0)))) none 1 false true), (AOp.mk (some 104) (AK.mv (AX.t 103)) none 2 false true), (AOp.mk (some 105) (AK.mv (AX.t 4)) (some (104, true)) 3 false true), (AOp.mk (some 106) (AK.bin false BinOp.eql (AX.t 105) (AX.c (PV.val (Value.int IntKind.i64 0)))) (some (104, true)) 4 false true), (AOp.mk (some 107) (AK.pick (AX.t 104) (AX.t 106) (AX.c (PV.val (Value.bool false)))) none 5 false true), (AOp.mk (some 108) (AK.mv (AX.t 107)) none 6 false true), (AOp.mk (some 109) (AK.mv (AX.t 6)) (some (108, true)) 7 false true), (AOp.mk (some 110) (AK.bin false BinOp.eql (AX.t 109) (AX.c (PV.val (Value.int IntKind.i64 0)))) (some (108, true)) 8 false true), (AOp.mk (some 111) (AK.pick (AX.t 108) (AX.t 110) (AX.c (PV.val (Value.bool false)))) none 9 false true), (AOp.mk (some 112) (AK.mv (AX.t 111)) none 10 false true), (AOp.mk (some 113) (AK.mv (AX.t 8)) (some (112, true)) 11 false true), (AOp.mk (some 114) (AK.bin false BinOp.eql (AX.t 113) (AX.c (PV.val (Value.int IntKind.i64 0)))) (some (112, true)) 12 false true), (AOp.mk (some 115) (AK.pick (AX.t 112) (AX.t 114) (AX.c (PV.val (Value.bool false)))) none 13 false true), (AOp.mk (some 116) (AK.mv (AX.t 115)) none 14 false true), (AOp.mk (some 117) (AK.mv (AX.t 11)) (some (116, true)) 15 false true), (AOp.mk (some 118) (AK.bin false BinOp.eql (AX.t 117) (AX.c (PV.val (Value.int IntKind.i64 0)))) (some (116, true)) 16 false true), (AOp.mk (some 119) (AK.pick (AX.t 116) (AX.t 118) (AX.c (PV.val (Value.bool false)))) none 17 false true), (AOp.mk (some 120) (AK.mv (AX.t 119)) none 18 false true), (AOp.mk (some 121) (AK.mv (AX.t 12)) (some (120, true)) 19 false true), (AOp.mk (some 122) (AK.bslice false 3 1 1 [(PV.val (Value.int IntKind.i64 0))] [(0, (1, (AX.c (PV.val (Value.int IntKind.i64 3)))))]) (some (120, true)) 20 false true), (AOp.mk (some 123) (AK.call 25 [(AX.t 121), (AX.t 122)]) (some (120, true)) 21 false true), (AOp.mk (some 124) (AK.pick (AX.t 120) (AX.t 123) (AX.c (PV.val (Value.bool false)))) none 22 false true), (AOp.mk (some 125) (AK.mv (AX.t 124)) none 23 false true), (AOp.mk (some 126) (AK.mv (AX.t 13)) (some (125, true)) 24 false true), (AOp.mk (some 127) (AK.pick (AX.t 125) (AX.t 126) (AX.c (PV.val (Value.bool false)))) none 25 false true), (AOp.mk (some 128) (AK.mv (AX.t 127)) none 26 false true), (AOp.mk (some 129) (AK.mv (AX.t 14)) (some (128, true)) 27 false true), (AOp.mk (some 130) (AK.bslice false 3 1 2 [(PV.val (Value.int IntKind.i64 0))] [(0, (1, (AX.c (PV.val (Value.int IntKind.i64 0))))), (1, (1, (AX.c (PV.val (Value.int IntKind.i64 1)))))]) (some (128, true)) 28 false true), (AOp.mk (some 131) (AK.call 25 [(AX.t 129), (AX.t 130)]) (some (128, true)) 29 false true), (AOp.mk (some 132) (AK.pick (AX.t 128) (AX.t 131) (AX.c (PV.val (Value.bool false)))) none 30 false true), (AOp.mk (some 0) (AK.mv (AX.t 132)) none 31 false true)]) AC.ret))))))))))))
theorem ac7_ok : cCode Try.prog (fun _ => false) Try.f7.ntmps (Try.f7.body.getD .skip) = some ac7 := by kernel_rfl
theorem PVle.rowsK {k : SK} {sz : Nat} {l r : List (List PV)} (h : PVleR l r) : PVle (.sl k sz l) (.sl k sz r) := fun g v hv => by
  obtain ⟨h1, h2⟩ := h.spec
  cases hv with
  | sl _ _ _ ad n c f hl hn hc hm hk hz hat hh =>
    refine .sl k sz r ad n c f (by omega) hn hc hm hk (fun i e he => ?_) hat (fun i j e x he hx => ?_)
    · have hi : i < l.length := by rw [h1]; exact (List.getElem?_eq_some_iff.1 he).1
      rw [← (h2 i _ e (List.getElem?_eq_getElem hi) he).spec.1]
      exact hz i _ (List.getElem?_eq_getElem hi)
    · have hi : i < l.length := by rw [h1]; exact (List.getElem?_eq_some_iff.1 he).1
      obtain ⟨h3, h4⟩ := (h2 i _ e (List.getElem?_eq_getElem hi) he).spec
      have hj : j < l[i].length := by rw [h3]; exact (List.getElem?_eq_some_iff.1 hx).1
      exact h4 j _ x (List.getElem?_eq_getElem hj) hx g _ (hh i j _ _ (List.getElem?_eq_getElem hi) (List.getElem?_eq_getElem hj))
def bookB (r : Int) : MBook := ⟨[[1, 3, 4], [2, 2, 4], [1, 8, 3]], [(0, 3), (1, 10), (2, 4)], r, 1⟩
def oddB : MBook := ⟨[[1, 3, 4], [2, 2, 4], [1, 8, 3]], [(0, 3), (1, 10), (2, 4), (0, 8)], 1, 1⟩
theorem saw_sem (q v : Int) : Sem1 24 [pi q, pi v] (.agg [pi q, pi v]) := by
  refine semC_of_exec' mixed Try.func24 (by kernel_rfl) (by kernel_rfl) ac24_ok 2 rfl (by decide) [(.cell 4 27)] (by kernel_rfl) ?_
  intro hr C hC hI
  unfold ac24
  simp only [go_sem, Nat.reduceBEq, Nat.reduceAdd, Nat.reduceLeDiff, putCells]
  exact retQ_cell (n := some 2) (by kernel_rfl) rfl rfl
theorem book_sem (r : Int) : Sem1 15 [pi r] (.agg (bookC .full .full (bookB r))) := by
  refine semC_of_exec' mixed Try.func15 (by kernel_rfl) (by kernel_rfl) ac15_ok 1 rfl (by decide) [(.cell 2 25)] (by kernel_rfl) ?_
  intro hr C hC hI
  unfold ac15
  simp only [go_sem, Nat.reduceBEq, Nat.reduceAdd, Nat.reduceLeDiff]
  refine call_pure2 hC (saw_sem ..) rfl (PVleL_refl _) ?_
  rintro r rfl
  simp only [go_sem]
  refine call_pure2 hC (saw_sem ..) rfl (PVleL_refl _) ?_
  rintro r rfl
  simp only [go_sem]
  refine call_pure2 hC (saw_sem ..) rfl (PVleL_refl _) ?_
  rintro r rfl
  simp only [go_sem, Nat.reduceBEq, Nat.reduceAdd, Nat.reduceLeDiff, putCells]
  refine retQ_cell_le (n := some 4) (by kernel_rfl) rfl ?_ rfl
  exact PVle.agg (show PVleL [_, _, _, _] [_, _, _, _] from ⟨PVle.rowsK (show PVleR [_, _, _] [_, _, _] from ⟨⟨PVle.sh _ _ _, trivial⟩, ⟨PVle.sh _ _ _, trivial⟩, ⟨PVle.sh _ _ _, trivial⟩, trivial⟩), PVle.refl _, PVle.refl _, PVle.refl _, trivial⟩)
theorem own_sem : Sem1 14 [] (.agg (bookC .full .full (bookB 1))) := by
  refine semC_of_exec' mixed Try.func14 (by kernel_rfl) (by kernel_rfl) ac14_ok 0 rfl (by decide) [(.cell 0 25)] (by kernel_rfl) ?_
  intro hr C hC hI
  unfold ac14
  simp only [go_sem]
  refine call_pure2 hC (book_sem 1) rfl (PVleL_refl _) ?_
  rintro r rfl
  simp only [go_sem, Nat.reduceBEq, Nat.reduceAdd, putCells]
  exact retQ_cell (n := some 4) (by kernel_rfl) rfl rfl
theorem strict_sem : Sem1 23 [] (.agg (bookC .full .full (bookB 0))) := by
  refine semC_of_exec' mixed Try.func23 (by kernel_rfl) (by kernel_rfl) ac23_ok 0 rfl (by decide) [(.cell 0 25)] (by kernel_rfl) ?_
  intro hr C hC hI
  unfold ac23
  simp only [go_sem]
  refine call_pure2 hC (book_sem 0) rfl (PVleL_refl _) ?_
  rintro r rfl
  simp only [go_sem, Nat.reduceBEq, Nat.reduceAdd, putCells]
  exact retQ_cell (n := some 4) (by kernel_rfl) rfl rfl
theorem odd_sem : Sem1 22 [] (.agg (bookC .full .sh oddB)) := by
  refine semC_of_exec' mixed Try.func22 (by kernel_rfl) (by kernel_rfl) ac22_ok 0 rfl (by decide) [(.cell 0 25)] (by kernel_rfl) ?_
  intro hr C hC hI
  unfold ac22
  simp only [go_sem]
  refine call_pure2 hC (own_sem) rfl (PVleL_refl _) ?_
  rintro r rfl
  simp only [go_sem, Nat.reduceBEq, Nat.reduceAdd, bookB, putCells]
  refine call_pure2 hC (saw_sem 0 8) rfl (PVleL_refl _) ?_
  rintro r rfl
  simp only [go_sem, Nat.reduceBEq, Nat.reduceAdd, Nat.reduceLeDiff, putCells]
  intro t _
  refine retQ_cell_le (n := some 4) (by kernel_rfl) rfl ?_ rfl
  exact PVle.agg (show PVleL [_, _, _, _] [_, _, _, _] from ⟨PVle.refl _, PVle.sh _ _ _, PVle.refl _, PVle.refl _, trivial⟩)
set_option maxRecDepth 100000
theorem ev_who : Sem1 10 [.agg (bookC .full .full (bookB 1))] (.tup [pis [0, 1, 2], pi 0]) := (Who_sem .full .full (bookB 1)).mono fun _ h => h.trans (by kernel_rfl)
theorem ev_needs : Sem1 17 [.agg (bookC .full .full (bookB 1)), pi 2] (.tup [pi 1, pi 0]) := (Needs_sem .full .full (bookB 1) 2).mono fun _ h => h.trans (by kernel_rfl)
theorem ev_changed : Sem1 18 [.agg (bookC .full .full (bookB 1)), pi 0, pi 1] (.tup [pi 1, pi 0]) := (Changed_sem .full .full (bookB 1) 0 1).mono fun _ h => h.trans (by kernel_rfl)
theorem ev_values : Sem1 11 [.agg (bookC .full .full (bookB 1)), pi 1] (.tup [pis [1, 3], pi 0]) := (Values_sem .full .full (bookB 1) 1).mono fun _ h => h.trans (by kernel_rfl)
theorem ev_told : Sem1 19 [.agg (bookC .full .full (bookB 1)), pi 0, pi 1] (.tup [pb true, pi 0]) := (Told_sem .full .full (bookB 1) 0 1).mono fun _ h => h.trans (by kernel_rfl)
theorem ev_look : Sem1 20 [.agg (bookC .full .full (bookB 0))] (.tup [pi 0, pi 0]) := (Look_sem .full .full (bookB 0)).mono fun _ h => h.trans (by kernel_rfl)
theorem ev_wrong : Sem1 21 [.agg (bookC .full .sh oddB)] (.tup [pis [3], pi 0]) := (Wrong_sem .full .sh oddB).mono fun _ h => h.trans (by kernel_rfl)
theorem ev_right : Sem1 16 [.agg (bookC .full .full (bookB 1))] (.tup [pb true, pi 0]) := (Right_sem .full .full (bookB 1)).mono fun _ h => h.trans (by kernel_rfl)
theorem ev_who0 : Sem1 10 [.agg (bookC .full .full (bookB 0))] (.tup [pis [0, 1], pi 0]) := (Who_sem .full .full (bookB 0)).mono fun _ h => h.trans (by kernel_rfl)
theorem Equal_lit (k : SK) (l m : List Int) : PVleL [pis l, .sl k 1 (m.map fun x => [pi x])] [pis l, pis m] := ⟨PVle.refl _, PVle.sh _ _ _, trivial⟩
theorem marked_sem : Sem1 7 [] (pb true) := by
  refine semC_of_exec' mixed Try.func7 (by kernel_rfl) (by kernel_rfl) ac7_ok 0 rfl (by decide) [(.tmp 0)] (by kernel_rfl) ?_
  intro hr C hC hI
  unfold ac7
  simp only [go_sem]
  refine call_pure2 hC (own_sem) rfl (PVleL_refl _) ?_
  rintro r rfl
  simp only [go_sem, Nat.reduceBEq]
  refine call_pure2 hC (ev_who) rfl (PVleL_refl _) ?_
  rintro r rfl
  simp only [go_sem, Nat.reduceBEq]
  refine call_pure2 hC (own_sem) rfl (PVleL_refl _) ?_
  rintro r rfl
  simp only [go_sem, Nat.reduceBEq]
  refine call_pure2 hC (ev_needs) rfl (PVleL_refl _) ?_
  rintro r rfl
  simp only [go_sem, Nat.reduceBEq]
  refine call_pure2 hC (own_sem) rfl (PVleL_refl _) ?_
  rintro r rfl
  simp only [go_sem, Nat.reduceBEq]
  refine call_pure2 hC (ev_changed) rfl (PVleL_refl _) ?_
  rintro r rfl
  simp only [go_sem, Nat.reduceBEq]
  refine call_pure2 hC (own_sem) rfl (PVleL_refl _) ?_
  rintro r rfl
  simp only [go_sem, Nat.reduceBEq]
  refine call_pure2 hC (ev_values) rfl (PVleL_refl _) ?_
  rintro r rfl
  simp only [go_sem, Nat.reduceBEq]
  refine call_pure2 hC (own_sem) rfl (PVleL_refl _) ?_
  rintro r rfl
  simp only [go_sem, Nat.reduceBEq]
  refine call_pure2 hC (ev_told) rfl (PVleL_refl _) ?_
  rintro r rfl
  simp only [go_sem, Nat.reduceBEq, Nat.reduceAdd, Nat.reduceLeDiff, decide_false, not_true_eq_false]
  refine call_pure2 hC (Equal_sem [0, 1, 2] [0, 1, 2]) rfl (Equal_lit .full _ [0, 1, 2]) ?_
  rintro r rfl
  simp only [go_sem, Nat.reduceBEq, Nat.reduceAdd, Nat.reduceLeDiff, decide_true, decide_false, not_true_eq_false]
  refine call_pure2 hC (Equal_sem [1, 3] [1, 3]) rfl (Equal_lit .full _ [1, 3]) ?_
  rintro r rfl
  simp only [go_sem, Nat.reduceBEq, decide_true]
  refine call_pure2 hC (strict_sem) rfl (PVleL_refl _) ?_
  rintro r rfl
  simp only [go_sem, Nat.reduceBEq]
  refine call_pure2 hC (ev_look) rfl (PVleL_refl _) ?_
  rintro r rfl
  simp only [go_sem, Nat.reduceBEq]
  refine call_pure2 hC (odd_sem) rfl (PVleL_refl _) ?_
  rintro r rfl
  simp only [go_sem, Nat.reduceBEq]
  refine call_pure2 hC (ev_wrong) rfl (PVleL_refl _) ?_
  rintro r rfl
  simp only [go_sem, Nat.reduceBEq]
  refine call_pure2 hC (own_sem) rfl (PVleL_refl _) ?_
  rintro r rfl
  simp only [go_sem, Nat.reduceBEq]
  refine call_pure2 hC (ev_right) rfl (PVleL_refl _) ?_
  rintro r rfl
  simp only [go_sem, Nat.reduceBEq]
  refine call_pure2 hC (strict_sem) rfl (PVleL_refl _) ?_
  rintro r rfl
  simp only [go_sem, Nat.reduceBEq]
  refine call_pure2 hC (ev_who0) rfl (PVleL_refl _) ?_
  rintro r rfl
  simp only [go_sem, Nat.reduceBEq, decide_true]
  refine call_pure2 hC (Equal_sem [3] [3]) rfl (Equal_lit .full _ [3]) ?_
  rintro r rfl
  simp only [go_sem, Nat.reduceBEq, Nat.reduceAdd, Nat.reduceLeDiff, decide_true]
  refine call_pure2 hC (Equal_sem [0, 1] [0, 1]) rfl (Equal_lit .full _ [0, 1]) ?_
  rintro r rfl
  simp only [go_sem, Nat.reduceBEq, decide_true]
  exact retQ_one rfl rfl
end Go.Proofs.Ytlbolnlcncjijaa.Mk
namespace Go.Proofs.Ytlbolnlcncjijaa.Mk
open Go.RowKit Ls
def leftL (b : MBook) (j : Nat) : List Int := natL ((List.range j).map (seenN b))
section
variable (k k2 : SK) {b : MBook} (ho : okBook b)
include ho
end
end Go.Proofs.Ytlbolnlcncjijaa.Mk
namespace Go.Proofs.Ytlbolnlcncjijaa.Mk
open Go.RowKit Ls
def exL (l : List Int) (j : Nat) : List (Int × Int) := (List.range j).map fun (k : Nat) => ((k : Int), 2 ^ exV l k)
def pickI (b : MBook) (o u k : Nat) : Int := (listI (pickN b o u k : Nat) 5).getD 0 0
def pickL (b : MBook) (o u j : Nat) : List Int := (List.range j).map (pickI b o u)
def anyL (bits : List Int) (j : Nat) : List Int := (List.range j).map fun (k : Nat) => rndI (takeL bits k) 5
end Go.Proofs.Ytlbolnlcncjijaa.Mk
namespace Go.Proofs.Ytlbolnlcncjijaa.Mk
open Go.RowKit Ls
def moreB (b : MBook) (m : Int × Int) : MBook := { b with seen := b.seen ++ [m] }
def otherL (l : List (Int × Int)) (q : Nat) : List (Int × Int) := l.filter fun m => decide (¬ m.1 = (q : Int))
def otherB (b : MBook) (q : Nat) : MBook := { b with seen := otherL b.seen q }
def onlyB (b : MBook) (q v : Nat) : MBook := moreB (otherB b q) ((q : Int), ((2 ^ v : Nat) : Int))
def worstF (b : MBook) (q j : Nat) : Nat := ((valuesL b q).take j).foldl (fun m v => max m (whoL (knowB b q v)).length) 0
def fullB (b : MBook) (q : Nat) : Bool := decide (valuesL b q ≠ [] ∧ (otherL b.seen q).length = 8)
end Go.Proofs.Ytlbolnlcncjijaa.Mk
namespace Go.Proofs.Ytlbolnlcncjijaa
open Go.RowKit
section
variable {C : Con} {rd : List Nat} {d : Option Nat} {i : Nat} {tk lst : Bool} {s : AS} {K : List Nat → AS → Prop}
def bslG2 (v : Option (List PV)) (sz n : Nat) (d : Option Nat) (s : AS) (K : AS → Prop) : Prop :=
  match v with
  | some l => K (s.put d (.p (.sl .full sz (rows sz n l))))
  | none => False
def bslG (v : Option (List AV)) (sz n : Nat) (d : Option Nat) (s : AS) (K : AS → Prop) : Prop :=
  match v with
  | some cs => bslG2 (pures cs) sz n d s K
  | none => False
def appG (v u : AV) (e : TypeId) (sz : Nat) (d : Option Nat) (s : AS) (K : AS → Prop) : Prop :=
  match v, u with
  | .p (.sl k sz1 es), .p (.sl _ sz2 news) => (sz1 = sz ∨ es = []) ∧ (sz2 = sz ∨ news = []) ∧ es.length + news.length ≤ 1000000 ∧ canApp s.live e sz k ∧ ∀ t, t ∉ s.live → K (({ s with live := t :: liveApp s.live k } : AS).put d (.p (.sl (.own t e sz) sz (es ++ news))))
  | _, _ => False
end
end Go.Proofs.Ytlbolnlcncjijaa
namespace Go.Proofs.Ytlbolnlcncjijaa.Mk
open Go.RowKit Ls
def ac9 : AC := (AC.seq (AC.ops [(AOp.mk (some 2) (AK.box 4 (AX.t 0)) none 0 false true), (AOp.mk (some 3) (AK.box 2 (AX.t 1)) none 1 false true), (AOp.mk (some 4) (AK.new (PV.agg [(PV.sl SK.full 0 []), (PV.sl SK.full 0 []), (PV.val (Value.int IntKind.i64 0)), (PV.val (Value.int IntKind.i64 0))])) none 2 false true)]) (AC.seq (AC.ops [(AOp.mk (some 6) (AK.ld (some 4) (AX.t 2)) none 0 false true), (AOp.mk (some 5) (AK.new (PV.agg [(PV.sl SK.full 0 []), (PV.sl SK.full 0 []), (PV.val (Value.int IntKind.i64 0)), (PV.val (Value.int IntKind.i64 0))])) none 1 false true), (AOp.mk none (AK.st 4 (AX.t 5) (AX.t 6)) none 2 false true)]) (AC.seq (AC.tree (AT.op (AOp.mk (some 8) (AK.fadr 1 (AX.t 2)) none 1 true false) (AT.op (AOp.mk (some 9) (AK.ld none (AX.t 8)) none 2 true false) (AT.op (AOp.mk (some 11) (AK.ld (some 2) (AX.t 3)) none 4 true false) (AT.fk (AOp.mk (some 7) (AK.bslice false 27 2 0 [(PV.val (Value.int IntKind.i64 0)), (PV.val (Value.int IntKind.i64 0))] []) none 0 false false) (AOp.mk (some 12) (AK.bslice false 27 2 1 [(PV.val (Value.int IntKind.i64 0)), (PV.val (Value.int IntKind.i64 0))] [(0, (2, (AX.t 11)))]) none 5 false false) (AT.fk (AOp.mk (some 10) (AK.app false 27 2 16 [(PV.val (Value.int IntKind.i64 0)), (PV.val (Value.int IntKind.i64 0))] (AX.t 7) (AX.t 9)) none 3 false false) (AOp.mk (some 12) (AK.bslice false 27 2 1 [(PV.val (Value.int IntKind.i64 0)), (PV.val (Value.int IntKind.i64 0))] [(0, (2, (AX.t 11)))]) none 5 false false) (AT.op (AOp.mk (some 12) (AK.bslice false 27 2 1 [(PV.val (Value.int IntKind.i64 0)), (PV.val (Value.int IntKind.i64 0))] [(0, (2, (AX.t 11)))]) none 5 false false) (AT.op (AOp.mk (some 13) (AK.app false 27 2 16 [(PV.val (Value.int IntKind.i64 0)), (PV.val (Value.int IntKind.i64 0))] (AX.t 10) (AX.t 12)) none 6 false true) (AT.op (AOp.mk (some 14) (AK.fadr 1 (AX.t 5)) none 7 true false) (AT.op (AOp.mk none (AK.st 1 (AX.t 14) (AX.t 13)) none 8 false true) AT.fin)))) (AT.op (AOp.mk (some 10) (AK.app false 27 2 16 [(PV.val (Value.int IntKind.i64 0)), (PV.val (Value.int IntKind.i64 0))] (AX.t 7) (AX.t 9)) none 3 false false) (AT.op (AOp.mk (some 13) (AK.app false 27 2 16 [(PV.val (Value.int IntKind.i64 0)), (PV.val (Value.int IntKind.i64 0))] (AX.t 10) (AX.t 12)) none 6 false true) (AT.op (AOp.mk (some 14) (AK.fadr 1 (AX.t 5)) none 7 true false) (AT.op (AOp.mk none (AK.st 1 (AX.t 14) (AX.t 13)) none 8 false true) AT.fin))))) (AT.op (AOp.mk (some 7) (AK.bslice false 27 2 0 [(PV.val (Value.int IntKind.i64 0)), (PV.val (Value.int IntKind.i64 0))] []) none 0 false false) (AT.op (AOp.mk (some 10) (AK.app false 27 2 16 [(PV.val (Value.int IntKind.i64 0)), (PV.val (Value.int IntKind.i64 0))] (AX.t 7) (AX.t 9)) none 3 false false) (AT.op (AOp.mk (some 13) (AK.app false 27 2 16 [(PV.val (Value.int IntKind.i64 0)), (PV.val (Value.int IntKind.i64 0))] (AX.t 10) (AX.t 12)) none 6 false true) (AT.op (AOp.mk (some 14) (AK.fadr 1 (AX.t 5)) none 7 true false) (AT.op (AOp.mk none (AK.st 1 (AX.t 14) (AX.t 13)) none 8 false true) AT.fin)))))))))) (AC.seq (AC.ops [(AOp.mk (some 15) (AK.ld (some 4) (AX.t 5)) none 0 false true), (AOp.mk none (AK.st 4 (AX.t 4) (AX.t 15)) none 1 false true)]) AC.ret))))
end Go.Proofs.Ytlbolnlcncjijaa.Mk
