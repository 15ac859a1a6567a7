/- The specification of stand: books, margins, truths. The specification of stand: which books are valid. -/
import Derived.Test.YtaejmbmkkdkliaaGa23
namespace Go.Proofs.Ytaejmbmkkdkliaa
open Go.RowKit
def ac87 : AC := (AC.seq (AC.ops [(AOp.mk (some 4) (AK.mv (AX.c (PV.sl SK.full 0 []))) none 0 false true)]) (AC.seq (AC.ops [(AOp.mk (some 6) (AK.mv (AX.t 0)) none 0 false true), (AOp.mk (some 7) (AK.len (AX.t 6)) none 1 false true), (AOp.mk (some 8) (AK.bin false BinOp.add (AX.t 7) (AX.c (PV.val (Value.int IntKind.i64 1)))) none 2 false true), (AOp.mk (some 9) (AK.mks false 3 1 8 [(PV.val (Value.int IntKind.i64 0))] (AX.c (PV.val (Value.int IntKind.i64 0))) (AX.t 8)) none 3 false true), (AOp.mk (some 5) (AK.mv (AX.t 9)) none 4 false true)]) (AC.seq (AC.ops [(AOp.mk (some 10) (AK.mv (AX.t 5)) none 0 false true), (AOp.mk (some 11) (AK.mv (AX.t 0)) none 1 false true), (AOp.mk (some 12) (AK.app false 3 1 8 [(PV.val (Value.int IntKind.i64 0))] (AX.t 10) (AX.t 11)) none 2 false true), (AOp.mk (some 5) (AK.mv (AX.t 12)) none 3 false true)]) (AC.seq (AC.ops [(AOp.mk (some 13) (AK.mv (AX.t 5)) none 0 false true), (AOp.mk (some 14) (AK.mv (AX.t 1)) none 1 false true), (AOp.mk (some 15) (AK.bslice false 3 1 1 [(PV.val (Value.int IntKind.i64 0))] [(0, (1, (AX.t 14)))]) none 2 false true), (AOp.mk (some 16) (AK.app false 3 1 8 [(PV.val (Value.int IntKind.i64 0))] (AX.t 13) (AX.t 15)) none 3 false true), (AOp.mk (some 4) (AK.mv (AX.t 16)) none 4 false true)]) AC.ret))))
theorem ac87_ok : cCode Try.prog (fun _ => false) Try.f87.ntmps (Try.f87.body.getD .skip) = some ac87 := by kernel_rfl
def ac65 : AC := (AC.seq (AC.ops [(AOp.mk (some 1) (AK.box 4 (AX.t 0)) none 0 false true), (AOp.mk (some 2) (AK.mv (AX.c (PV.val (Value.bool false)))) none 1 false true)]) (AC.seq (AC.ops [(AOp.mk (some 3) (AK.fadr 0 (AX.t 1)) none 0 false true), (AOp.mk (some 4) (AK.ld (some 2) (AX.t 3)) none 1 false true), (AOp.mk (some 5) (AK.call 91 [(AX.t 4), (AX.c (PV.val (Value.int IntKind.i64 1))), (AX.c (PV.val (Value.int IntKind.i64 99)))]) none 2 false true), (AOp.mk (some 6) (AK.mv (AX.t 5)) none 3 false true), (AOp.mk (some 7) (AK.fadr 0 (AX.t 1)) (some (6, true)) 4 false true), (AOp.mk (some 8) (AK.fadr 1 (AX.t 7)) (some (6, true)) 5 false true), (AOp.mk (some 9) (AK.ld none (AX.t 8)) (some (6, true)) 6 false true), (AOp.mk (some 10) (AK.fadr 0 (AX.t 1)) (some (6, true)) 7 false true), (AOp.mk (some 11) (AK.fadr 0 (AX.t 10)) (some (6, true)) 8 false true), (AOp.mk (some 12) (AK.ld none (AX.t 11)) (some (6, true)) 9 false true), (AOp.mk (some 13) (AK.bin false BinOp.sub (AX.t 9) (AX.t 12)) (some (6, true)) 10 false true), (AOp.mk (some 14) (AK.bin false BinOp.leq (AX.t 13) (AX.c (PV.val (Value.int IntKind.i64 4)))) (some (6, true)) 11 false true), (AOp.mk (some 15) (AK.pick (AX.t 6) (AX.t 14) (AX.c (PV.val (Value.bool false)))) none 12 false true), (AOp.mk (some 16) (AK.mv (AX.t 15)) none 13 false true), (AOp.mk (some 17) (AK.fadr 2 (AX.t 1)) (some (16, true)) 14 false true), (AOp.mk (some 18) (AK.ld none (AX.t 17)) (some (16, true)) 15 false true), (AOp.mk (some 19) (AK.call 43 [(AX.t 18), (AX.c (PV.val (Value.int IntKind.i64 (-60)))), (AX.c (PV.val (Value.int IntKind.i64 60)))]) (some (16, true)) 16 false true), (AOp.mk (some 20) (AK.pick (AX.t 16) (AX.t 19) (AX.c (PV.val (Value.bool false)))) none 17 false true), (AOp.mk (some 21) (AK.mv (AX.t 20)) none 18 false true), (AOp.mk (some 22) (AK.fadr 3 (AX.t 1)) (some (21, true)) 19 false true), (AOp.mk (some 23) (AK.ld none (AX.t 22)) (some (21, true)) 20 false true), (AOp.mk (some 24) (AK.call 43 [(AX.t 23), (AX.c (PV.val (Value.int IntKind.i64 0))), (AX.c (PV.val (Value.int IntKind.i64 60)))]) (some (21, true)) 21 false true), (AOp.mk (some 25) (AK.pick (AX.t 21) (AX.t 24) (AX.c (PV.val (Value.bool false)))) none 22 false true), (AOp.mk (some 2) (AK.mv (AX.t 25)) none 23 false true)]) AC.ret))
theorem ac65_ok : cCode Try.prog (fun _ => false) Try.f65.ntmps (Try.f65.body.getD .skip) = some ac65 := by kernel_rfl
def ac66 : AC := (AC.seq (AC.ops [(AOp.mk (some 2) (AK.box 10 (AX.t 0)) none 0 false true), (AOp.mk (some 4) (AK.mv (AX.c (PV.val (Value.bool false)))) none 1 false true)]) (AC.seq (AC.ops [(AOp.mk (some 5) (AK.mv (AX.t 1)) none 0 false true), (AOp.mk (some 6) (AK.fadr 8 (AX.t 2)) none 1 false true), (AOp.mk (some 7) (AK.ld none (AX.t 6)) none 2 false true), (AOp.mk (some 8) (AK.call 43 [(AX.t 5), (AX.c (PV.val (Value.int IntKind.i64 1))), (AX.t 7)]) none 3 false true), (AOp.mk (some 4) (AK.mv (AX.t 8)) none 4 false true)]) AC.ret))
theorem ac66_ok : cCode Try.prog (fun _ => false) Try.f66.ntmps (Try.f66.body.getD .skip) = some ac66 := by kernel_rfl
def ac67 : AC := (AC.seq (AC.ops [(AOp.mk (some 2) (AK.box 10 (AX.t 0)) none 0 false true), (AOp.mk (some 4) (AK.mv (AX.c (PV.val (Value.bool false)))) none 1 false true)]) (AC.seq (AC.ops [(AOp.mk (some 5) (AK.mv (AX.t 1)) none 0 false true), (AOp.mk (some 6) (AK.fadr 7 (AX.t 2)) none 1 false true), (AOp.mk (some 7) (AK.ld none (AX.t 6)) none 2 false true), (AOp.mk (some 8) (AK.un UnOp.neg (AX.t 7)) none 3 false true), (AOp.mk (some 9) (AK.fadr 7 (AX.t 2)) none 4 false true), (AOp.mk (some 10) (AK.ld none (AX.t 9)) none 5 false true), (AOp.mk (some 11) (AK.call 43 [(AX.t 5), (AX.t 8), (AX.t 10)]) none 6 false true), (AOp.mk (some 4) (AK.mv (AX.t 11)) none 7 false true)]) AC.ret))
theorem ac67_ok : cCode Try.prog (fun _ => false) Try.f67.ntmps (Try.f67.body.getD .skip) = some ac67 := by kernel_rfl
def ac75 : AC := (AC.seq (AC.ops [(AOp.mk (some 4) (AK.box 10 (AX.t 0)) none 0 false true), (AOp.mk (some 8) (AK.mv (AX.c (PV.val (Value.int IntKind.i64 0)))) none 1 false true), (AOp.mk (some 9) (AK.mv (AX.c (PV.val (Value.int IntKind.i64 0)))) none 2 false true)]) (AC.seq (AC.ops [(AOp.mk (some 15) (AK.mv (AX.t 2)) none 0 true false), (AOp.mk (some 16) (AK.mv (AX.t 2)) none 1 true false), (AOp.mk (some 17) (AK.fadr 5 (AX.t 4)) none 2 true false), (AOp.mk (some 18) (AK.ld none (AX.t 17)) none 3 true false), (AOp.mk (some 19) (AK.mv (AX.t 3)) none 4 true false), (AOp.mk (some 20) (AK.bin false BinOp.add (AX.t 18) (AX.t 19)) none 5 true false), (AOp.mk (some 21) (AK.bin false BinOp.mul (AX.t 16) (AX.t 20)) none 6 true false), (AOp.mk (some 22) (AK.mv (AX.t 2)) none 7 true false), (AOp.mk (some 23) (AK.fadr 6 (AX.t 4)) none 8 true false), (AOp.mk (some 24) (AK.ld none (AX.t 23)) none 9 true false), (AOp.mk (some 25) (AK.bin false BinOp.mul (AX.t 22) (AX.t 24)) none 10 true false), (AOp.mk (some 10) (AK.mv (AX.t 15)) none 11 true false), (AOp.mk (some 11) (AK.mv (AX.t 21)) none 12 true false), (AOp.mk (some 12) (AK.mv (AX.t 25)) none 13 true true)]) (AC.seq (AC.seq (AC.ops [(AOp.mk (some 13) (AK.mv (AX.c (PV.val (Value.int IntKind.i64 0)))) none 0 false true)]) (AC.block 0 (AC.loop (AC.seq (AC.seq (AC.ops [(AOp.mk (some 26) (AK.mv (AX.t 13)) none 0 false true), (AOp.mk (some 27) (AK.mv (AX.t 1)) none 1 false true), (AOp.mk (some 28) (AK.len (AX.t 27)) none 2 false true), (AOp.mk (some 29) (AK.bin false BinOp.lss (AX.t 26) (AX.t 28)) none 3 false true)]) (AC.cond (AX.t 29) AC.skip (AC.exit 0))) (AC.seq (AC.block 1 (AC.seq (AC.ops [(AOp.mk (some 32) (AK.mv (AX.t 10)) none 0 false true), (AOp.mk (some 33) (AK.mv (AX.t 1)) none 1 false true), (AOp.mk (some 34) (AK.mv (AX.t 13)) none 2 false true), (AOp.mk (some 35) (AK.iadrS 1 (AX.t 33) (AX.t 34)) none 3 false true), (AOp.mk (some 36) (AK.ld none (AX.t 35)) none 4 false true), (AOp.mk (some 37) (AK.bin false BinOp.add (AX.t 32) (AX.t 36)) none 5 false true), (AOp.mk (some 10) (AK.mv (AX.t 37)) none 6 false true)]) (AC.seq (AC.ops [(AOp.mk (some 38) (AK.mv (AX.t 11)) none 0 true false), (AOp.mk (some 39) (AK.mv (AX.t 1)) none 1 true false), (AOp.mk (some 40) (AK.mv (AX.t 13)) none 2 true false), (AOp.mk (some 41) (AK.iadrS 1 (AX.t 39) (AX.t 40)) none 3 true false), (AOp.mk (some 42) (AK.ld none (AX.t 41)) none 4 true false), (AOp.mk (some 43) (AK.fadr 4 (AX.t 4)) none 5 true false), (AOp.mk (some 44) (AK.ld none (AX.t 43)) none 6 true false), (AOp.mk (some 45) (AK.mv (AX.t 13)) none 7 true false), (AOp.mk (some 46) (AK.iadrS 4 (AX.t 44) (AX.t 45)) none 8 true false), (AOp.mk (some 47) (AK.fadr 2 (AX.t 46)) none 9 true false), (AOp.mk (some 48) (AK.ld none (AX.t 47)) none 10 true false), (AOp.mk (some 49) (AK.bin false BinOp.mul (AX.t 42) (AX.t 48)) none 11 true false), (AOp.mk (some 50) (AK.bin false BinOp.add (AX.t 38) (AX.t 49)) none 12 true false), (AOp.mk (some 11) (AK.mv (AX.t 50)) none 13 true true)]) (AC.ops [(AOp.mk (some 51) (AK.mv (AX.t 12)) none 0 true false), (AOp.mk (some 52) (AK.mv (AX.t 1)) none 1 true false), (AOp.mk (some 53) (AK.mv (AX.t 13)) none 2 true false), (AOp.mk (some 54) (AK.iadrS 1 (AX.t 52) (AX.t 53)) none 3 true false), (AOp.mk (some 55) (AK.ld none (AX.t 54)) none 4 true false), (AOp.mk (some 56) (AK.fadr 4 (AX.t 4)) none 5 true false), (AOp.mk (some 57) (AK.ld none (AX.t 56)) none 6 true false), (AOp.mk (some 58) (AK.mv (AX.t 13)) none 7 true false), (AOp.mk (some 59) (AK.iadrS 4 (AX.t 57) (AX.t 58)) none 8 true false), (AOp.mk (some 60) (AK.fadr 3 (AX.t 59)) none 9 true false), (AOp.mk (some 61) (AK.ld none (AX.t 60)) none 10 true false), (AOp.mk (some 62) (AK.bin false BinOp.mul (AX.t 55) (AX.t 61)) none 11 true false), (AOp.mk (some 63) (AK.bin false BinOp.add (AX.t 51) (AX.t 62)) none 12 true false), (AOp.mk (some 12) (AK.mv (AX.t 63)) none 13 true true)])))) (AC.ops [(AOp.mk (some 30) (AK.mv (AX.t 13)) none 0 false true), (AOp.mk (some 31) (AK.bin false BinOp.add (AX.t 30) (AX.c (PV.val (Value.int IntKind.i64 1)))) none 1 false true), (AOp.mk (some 13) (AK.mv (AX.t 31)) none 2 false true)])))))) (AC.seq (AC.seq (AC.ops [(AOp.mk (some 64) (AK.fadr 0 (AX.t 4)) none 0 false true), (AOp.mk (some 65) (AK.ld none (AX.t 64)) none 1 false true), (AOp.mk (some 66) (AK.bin false BinOp.eql (AX.t 65) (AX.c (PV.val (Value.int IntKind.i64 0)))) none 2 false true)]) (AC.cond (AX.t 66) (AC.seq (AC.ops [(AOp.mk (some 67) (AK.fadr 2 (AX.t 4)) none 0 false true), (AOp.mk (some 68) (AK.ld none (AX.t 67)) none 1 false true), (AOp.mk (some 69) (AK.mv (AX.t 10)) none 2 false true), (AOp.mk (some 70) (AK.bin false BinOp.mul (AX.t 68) (AX.t 69)) none 3 false true), (AOp.mk (some 71) (AK.mv (AX.t 11)) none 4 false true), (AOp.mk (some 72) (AK.bin false BinOp.add (AX.t 70) (AX.t 71)) none 5 false true), (AOp.mk (some 73) (AK.fadr 1 (AX.t 4)) none 6 false true), (AOp.mk (some 74) (AK.ld none (AX.t 73)) none 7 false true), (AOp.mk (some 75) (AK.mv (AX.t 10)) none 8 false true), (AOp.mk (some 76) (AK.bin false BinOp.mul (AX.t 74) (AX.t 75)) none 9 false true), (AOp.mk (some 77) (AK.mv (AX.t 11)) none 10 false true), (AOp.mk (some 78) (AK.bin false BinOp.sub (AX.t 76) (AX.t 77)) none 11 false true), (AOp.mk (some 79) (AK.mx false [(AX.t 72), (AX.t 78)]) none 12 false true), (AOp.mk (some 80) (AK.mv (AX.t 10)) none 13 false true), (AOp.mk (some 8) (AK.mv (AX.t 79)) none 14 false true), (AOp.mk (some 9) (AK.mv (AX.t 80)) none 15 false true)]) AC.ret) AC.skip)) (AC.seq (AC.ops [(AOp.mk (some 81) (AK.fadr 3 (AX.t 4)) none 0 false true), (AOp.mk (some 82) (AK.ld none (AX.t 81)) none 1 false true), (AOp.mk (some 83) (AK.mv (AX.t 10)) none 2 false true), (AOp.mk (some 84) (AK.bin false BinOp.mul (AX.t 82) (AX.t 83)) none 3 false true), (AOp.mk (some 85) (AK.mv (AX.t 12)) none 4 false true), (AOp.mk (some 86) (AK.bin false BinOp.sub (AX.t 84) (AX.t 85)) none 5 false true), (AOp.mk (some 14) (AK.mv (AX.t 86)) none 6 false true)]) (AC.seq (AC.ops [(AOp.mk (some 87) (AK.fadr 2 (AX.t 4)) none 0 false true), (AOp.mk (some 88) (AK.ld none (AX.t 87)) none 1 false true), (AOp.mk (some 89) (AK.mv (AX.t 14)) none 2 false true), (AOp.mk (some 90) (AK.bin false BinOp.mul (AX.t 88) (AX.t 89)) none 3 false true), (AOp.mk (some 91) (AK.fadr 3 (AX.t 4)) none 4 false true), (AOp.mk (some 92) (AK.ld none (AX.t 91)) none 5 false true), (AOp.mk (some 93) (AK.mv (AX.t 11)) none 6 false true), (AOp.mk (some 94) (AK.bin false BinOp.mul (AX.t 92) (AX.t 93)) none 7 false true), (AOp.mk (some 95) (AK.bin false BinOp.add (AX.t 90) (AX.t 94)) none 8 false true), (AOp.mk (some 96) (AK.fadr 1 (AX.t 4)) none 9 false true), (AOp.mk (some 97) (AK.ld none (AX.t 96)) none 10 false true), (AOp.mk (some 98) (AK.mv (AX.t 14)) none 11 false true), (AOp.mk (some 99) (AK.bin false BinOp.mul (AX.t 97) (AX.t 98)) none 12 false true), (AOp.mk (some 100) (AK.fadr 3 (AX.t 4)) none 13 false true), (AOp.mk (some 101) (AK.ld none (AX.t 100)) none 14 false true), (AOp.mk (some 102) (AK.mv (AX.t 11)) none 15 false true), (AOp.mk (some 103) (AK.bin false BinOp.mul (AX.t 101) (AX.t 102)) none 16 false true), (AOp.mk (some 104) (AK.bin false BinOp.sub (AX.t 99) (AX.t 103)) none 17 false true), (AOp.mk (some 105) (AK.mx false [(AX.t 95), (AX.t 104)]) none 18 false true), (AOp.mk (some 106) (AK.mv (AX.t 10)) none 19 false true), (AOp.mk (some 8) (AK.mv (AX.t 105)) none 20 false true), (AOp.mk (some 9) (AK.mv (AX.t 106)) none 21 false true)]) AC.ret))))))
theorem ac75_ok : cCode Try.prog (fun _ => false) Try.f75.ntmps (Try.f75.body.getD .skip) = some ac75 := by kernel_rfl
def ac73 : AC := (AC.seq (AC.ops [(AOp.mk (some 4) (AK.box 10 (AX.t 0)) none 0 false true), (AOp.mk (some 8) (AK.mv (AX.c (PV.val (Value.bool false)))) none 1 false true)]) (AC.seq (AC.ops [(AOp.mk (some 12) (AK.ld (some 10) (AX.t 4)) none 0 false true), (AOp.mk (some 13) (AK.mv (AX.t 1)) none 1 false true), (AOp.mk (some 14) (AK.mv (AX.t 2)) none 2 false true), (AOp.mk (some 15) (AK.mv (AX.t 3)) none 3 false true), (AOp.mk (some 16) (AK.call 75 [(AX.t 12), (AX.t 13), (AX.t 14), (AX.t 15)]) none 4 false true), (AOp.mk (some 11) (AK.mv (AX.t 16)) none 5 false true), (AOp.mk (some 17) (AK.ext (AX.t 11) 0) none 6 false true), (AOp.mk (some 18) (AK.ext (AX.t 11) 1) none 7 false true), (AOp.mk (some 9) (AK.mv (AX.t 17)) none 8 false true), (AOp.mk (some 10) (AK.mv (AX.t 18)) none 9 false true)]) (AC.seq (AC.ops [(AOp.mk (some 19) (AK.mv (AX.t 9)) none 0 false true), (AOp.mk (some 20) (AK.bin false BinOp.lss (AX.t 19) (AX.c (PV.val (Value.int IntKind.i64 0)))) none 1 false true), (AOp.mk (some 8) (AK.mv (AX.t 20)) none 2 false true)]) AC.ret)))
theorem ac73_ok : cCode Try.prog (fun _ => false) Try.f73.ntmps (Try.f73.body.getD .skip) = some ac73 := by kernel_rfl
def ac118 : AC := (AC.seq (AC.ops [(AOp.mk (some 2) (AK.box 10 (AX.t 0)) none 0 false true), (AOp.mk (some 4) (AK.mv (AX.c (PV.val (Value.bool false)))) none 1 false true)]) (AC.seq (AC.seq (AC.ops [(AOp.mk (some 5) (AK.mv (AX.c (PV.val (Value.int IntKind.i64 0)))) none 0 false true)]) (AC.block 0 (AC.loop (AC.seq (AC.seq (AC.ops [(AOp.mk (some 7) (AK.mv (AX.t 5)) none 0 false true), (AOp.mk (some 8) (AK.fadr 9 (AX.t 2)) none 1 false true), (AOp.mk (some 9) (AK.ld none (AX.t 8)) none 2 false true), (AOp.mk (some 10) (AK.len (AX.t 9)) none 3 false true), (AOp.mk (some 11) (AK.bin false BinOp.lss (AX.t 7) (AX.t 10)) none 4 false true)]) (AC.cond (AX.t 11) AC.skip (AC.exit 0))) (AC.seq (AC.block 1 (AC.seq (AC.ops [(AOp.mk (some 14) (AK.fadr 9 (AX.t 2)) none 0 false true), (AOp.mk (some 15) (AK.ld none (AX.t 14)) none 1 false true), (AOp.mk (some 16) (AK.mv (AX.t 5)) none 2 false true), (AOp.mk (some 17) (AK.iadrS 3 (AX.t 15) (AX.t 16)) none 3 false true), (AOp.mk (some 18) (AK.ld (some 3) (AX.t 17)) none 4 false true), (AOp.mk (some 6) (AK.new (PV.agg [(PV.val (Value.int IntKind.i64 0)), (PV.val (Value.int IntKind.i64 0)), (PV.val (Value.bool false))])) none 5 false true), (AOp.mk none (AK.st 3 (AX.t 6) (AX.t 18)) none 6 false true)]) (AC.seq (AC.ops [(AOp.mk (some 19) (AK.ld (some 10) (AX.t 2)) none 0 true false), (AOp.mk (some 20) (AK.mv (AX.t 1)) none 1 true false), (AOp.mk (some 21) (AK.fadr 0 (AX.t 6)) none 2 true false), (AOp.mk (some 22) (AK.ld none (AX.t 21)) none 3 true false), (AOp.mk (some 23) (AK.fadr 1 (AX.t 6)) none 4 true false), (AOp.mk (some 24) (AK.ld none (AX.t 23)) none 5 true false), (AOp.mk (some 26) (AK.fadr 2 (AX.t 6)) none 7 true false), (AOp.mk (some 27) (AK.ld none (AX.t 26)) none 8 true false), (AOp.mk (some 25) (AK.call 73 [(AX.t 19), (AX.t 20), (AX.t 22), (AX.t 24)]) none 6 false false), (AOp.mk (some 28) (AK.bin true BinOp.neq (AX.t 25) (AX.t 27)) none 9 true false)]) (AC.cond (AX.t 28) (AC.seq (AC.ops [(AOp.mk (some 4) (AK.mv (AX.c (PV.val (Value.bool false)))) none 0 false true)]) AC.ret) AC.skip)))) (AC.ops [(AOp.mk (some 12) (AK.mv (AX.t 5)) none 0 false true), (AOp.mk (some 13) (AK.bin false BinOp.add (AX.t 12) (AX.c (PV.val (Value.int IntKind.i64 1)))) none 1 false true), (AOp.mk (some 5) (AK.mv (AX.t 13)) none 2 false true)])))))) (AC.seq (AC.ops [(AOp.mk (some 4) (AK.mv (AX.c (PV.val (Value.bool true)))) none 0 false true)]) AC.ret)))
theorem ac118_ok : cCode Try.prog (fun _ => false) Try.f118.ntmps (Try.f118.body.getD .skip) = some ac118 := by kernel_rfl
theorem Add_sem (l : List Int) (n : Int) (hl : l.length ≤ 1000) : Sem1 87 [pis l, pi n] (pis (l ++ [n])) := by
  refine semC_of_exec' mixed Try.func87 (by kernel_rfl) (by kernel_rfl) ac87_ok 2 rfl (by decide) [(.tmp 4)] (by kernel_rfl) ?_
  intro hr C hC hI
  unfold ac87
  simp only [go_sem, Nat.reduceBEq, Nat.reduceLeDiff, List.length_map, wrap_succ (k := l.length) (by omega)]
  refine ⟨by omega, by omega, by omega, fun t1 _ => ?_⟩
  refine ⟨by omega, fun t2 _ => ?_⟩
  refine ⟨by omega, fun t3 _ => ?_⟩
  refine retQ_le rfl ?_ rfl
  rw [show List.map (fun x => [pi x]) l ++ [[pi n]] = (l ++ [n]).map (fun x => [pi x]) by simp]
  exact PVle.sh _ _ _
theorem rpart_sem (p : SPart) : Sem1 65 [.agg (partC p)] (pb (decide (okPart p))) := by
  unfold partC
  have hno : ¬ okPart p → pb false = pb (decide (okPart p)) := fun h => by rw [decide_eq_false h]
  refine semC_of_exec' mixed Try.func65 (by kernel_rfl) (by kernel_rfl) ac65_ok 1 rfl (by decide) [(.tmp 2)] (by kernel_rfl) ?_
  intro hr C hC hI
  unfold ac65
  simp only [go_sem, Nat.reduceBEq, Nat.reduceAdd, Nat.reduceLeDiff]
  refine call_pure2 hC (Ordered_sem ..) rfl (PVleL_refl _) ?_
  rintro r rfl
  simp only [go_sem, Nat.reduceBEq]
  refine ⟨fun h1 => ?_, fun h1 => ?_⟩
  rotate_left
  · exact retQ_one rfl (hno (fun h => h1 (by unfold okPart at h; omega)))
  simp only [go_sem, wrap_id (n := p.hi - p.lo) (by omega) (by omega)]
  refine ⟨fun h2 => ?_, fun h2 => ?_⟩
  rotate_left
  · exact retQ_one rfl (hno (fun h => h2 (by unfold okPart at h; omega)))
  refine call_pure2 hC (In_sem ..) rfl (PVleL_refl _) ?_
  rintro r rfl
  simp only [go_sem, Nat.reduceBEq]
  refine ⟨fun h3 => ?_, fun h3 => ?_⟩
  rotate_left
  · exact retQ_one rfl (hno (fun h => h3 (by unfold okPart at h; omega)))
  refine call_pure2 hC (In_sem ..) rfl (PVleL_refl _) ?_
  rintro r rfl
  simp only [go_sem, Nat.reduceBEq]
  refine retQ_one rfl (congrArg pb (decide_eq_decide.2 ?_))
  unfold okPart
  omega
theorem isWeight_sem (k k2 : SK) (b : SBook) (n : Int) : Sem1 66 [.agg (bookC k k2 b), pi n] (pb (decide (1 ≤ n ∧ n ≤ b.limit))) := by
  refine semC_of_exec' mixed Try.func66 (by kernel_rfl) (by kernel_rfl) ac66_ok 2 rfl (by decide) [(.tmp 4)] (by kernel_rfl) ?_
  intro hr C hC hI
  unfold ac66
  simp only [go_sem, Nat.reduceBEq, Nat.reduceAdd]
  refine call_pure2 hC (In_sem ..) rfl (PVleL_refl _) ?_
  rintro r rfl
  simp only [go_sem, Nat.reduceBEq]
  exact retQ_one rfl rfl
theorem isLean_sem (k k2 : SK) (b : SBook) (n : Int) : Sem1 67 [.agg (bookC k k2 b), pi n] (pb (decide (IntKind.i64.wrap (0 - b.lean) ≤ n ∧ n ≤ b.lean))) := by
  refine semC_of_exec' mixed Try.func67 (by kernel_rfl) (by kernel_rfl) ac67_ok 2 rfl (by decide) [(.tmp 4)] (by kernel_rfl) ?_
  intro hr C hC hI
  unfold ac67
  simp only [go_sem, Nat.reduceBEq, Nat.reduceAdd]
  refine call_pure2 hC (In_sem ..) rfl (PVleL_refl _) ?_
  rintro r rfl
  simp only [go_sem, Nat.reduceBEq]
  exact retQ_one rfl rfl
/-- A book whose margins can be told, and the true weights of its parts. -/
structure MOk (b : SBook) (ws : List Int) : Prop where
  kind : b.kind = 0 ∨ b.kind = 1
  small : small b
  few : b.parts.length ≤ 5
  place : ∀ p ∈ b.parts, (-60 ≤ p.along ∧ p.along ≤ 60) ∧ 0 ≤ p.high ∧ p.high ≤ 60
  len : ws.length = b.parts.length
  wt : ∀ w ∈ ws, 0 ≤ w ∧ w ≤ 99
theorem loadW_ok2 {b : SBook} {ws : List Int} (h : MOk b ws) : ∀ j, j ≤ b.parts.length → (loadW (b.parts.take j) ws).ok (100 * j)
  | 0, _ => by simp [loadW, SLoad.ok]
  | j + 1, h1 => by
    have := h.len
    rw [loadW_next b.parts ws j (by omega) (by omega)]
    have k1 := h.wt _ (List.getElem_mem (show j < ws.length by omega))
    have k2 := h.place _ (List.getElem_mem (show j < b.parts.length by omega))
    exact SLoad.ok_add (m := 100) (loadW_ok2 h j (by omega)) (by omega) (by omega) (by omega)
theorem MOk.load {b : SBook} {ws : List Int} (h : MOk b ws) : (loadW b.parts ws).ok 1000 := by
  have := loadW_ok2 h b.parts.length (Nat.le_refl _)
  rw [List.take_length] at this
  exact ok_le this (by have := h.few; omega)
theorem rmargin_sem (k k2 : SK) {b : SBook} {ws : List Int} (hm : MOk b ws) {w n : Int} (hwr : 1 ≤ w ∧ w ≤ 1000) (hn : -40 ≤ n ∧ n ≤ 40) :
    Sem1 75 [.agg (bookC k k2 b), pis ws, pi w, pi n] (.tup [pi (topI b (seatB b (loadW b.parts ws) w n)), pi (seatB b (loadW b.parts ws) w n).w]) := by
  have hsm := hm.small
  have hbs := hsm
  unfold small at hbs
  have hlen := hm.len
  have hfew := hm.few
  have kk1 := mulb (a := w) (b := b.along + n) 1000 100 (by omega) (by omega)
  have kk2 := mulb (a := w) (b := b.high) 1000 100 (by omega) (by omega)
  obtain ⟨A0, hA0⟩ : ∃ A0, w * (b.along + n) = A0 := ⟨_, rfl⟩
  obtain ⟨H0, hH0⟩ : ∃ H0, w * b.high = H0 := ⟨_, rfl⟩
  have hseat := seat_ok (b := b) (l := loadW b.parts ws) (w := w) (n := n) hsm hm.load (by omega) hn
  have hS : seatB b (loadW b.parts ws) w n = ⟨w + (loadW b.parts ws).w, A0 + (loadW b.parts ws).a, H0 + (loadW b.parts ws).h⟩ := by
    unfold seatB SLoad.add
    rw [hA0, hH0]
    simp only [SLoad.mk.injEq]
    omega
  rw [hS] at hseat ⊢
  rw [hA0] at kk1
  rw [hH0] at kk2
  refine semC_of_exec' mixed Try.func75 (by kernel_rfl) (by kernel_rfl) ac75_ok 4 rfl (by decide) [(.tmp 8), (.tmp 9)] (by kernel_rfl) ?_
  intro hr C hC hI
  unfold ac75
  simp only [go_sem, Nat.reduceBEq, Nat.reduceAdd, wrap_id (n := b.along + n) (by omega) (by omega), hA0, hH0, wrap_id (n := A0) (by omega) (by omega), wrap_id (n := H0) (by omega) (by omega)]
  refine loop_nat b.parts.length (fun _ => True) (fun (j : Nat) => ⟨[(13, .p (pi j)), (12, .p (pi (H0 + (loadW (b.parts.take j) ws).h))), (11, .p (pi (A0 + (loadW (b.parts.take j) ws).a))), (10, .p (pi (w + (loadW (b.parts.take j) ws).w))), (4, .loc 0 0), (1, .p (pis ws))], [.cells ((bookC k k2 b).map .p)], [], some [], 0⟩) trivial (by simp [Wk, wkT, wkL, look, AV.lo, AV.lo.loL, loadW]) ?_
  rintro j ⟨hj, -⟩
  obtain ⟨o1, o2, o3⟩ := ok_le (loadW_ok2 hm j hj) (show 100 * j ≤ 1000 by omega)
  simp only [go_sem, Nat.reduceBEq, List.length_map]
  refine ⟨fun h5 => ?_, fun h5 => ?_⟩
  · have hj2 : j < b.parts.length := by omega
    have hn1 := loadW_next b.parts ws j hj2 (by omega)
    have hwj := hm.wt _ (List.getElem_mem (show j < ws.length by omega))
    have hp := hm.place _ (List.getElem_mem hj2)
    have e1 := iadr_map (f := partC) (kd := k) (sz := 4) hj2
    have e2 := iadr_pis (kd := .sh) (l := ws) (show j < ws.length by omega)
    obtain ⟨P, hP⟩ : ∃ P, b.parts[j] = P := ⟨_, rfl⟩
    obtain ⟨W, hW⟩ : ∃ W, ws[j] = W := ⟨_, rfl⟩
    rw [hP] at hp e1
    rw [hW] at hwj e2
    rw [hP, hW] at hn1
    obtain ⟨L, hL⟩ : ∃ L, loadW (b.parts.take j) ws = L := ⟨_, rfl⟩
    rw [hL] at hn1 o1 o2 o3
    simp only [hL]
    have v1 := mulb (a := W) (b := P.along) 99 100 (by omega) (by omega)
    have v2 := mulb (a := W) (b := P.high) 99 100 (by omega) (by omega)
    obtain ⟨V1, hV1⟩ : ∃ V, W * P.along = V := ⟨_, rfl⟩
    obtain ⟨V2, hV2⟩ : ∃ V, W * P.high = V := ⟨_, rfl⟩
    have q : loadW (b.parts.take (j + 1)) ws = ⟨L.w + W, L.a + V1, L.h + V2⟩ := by rw [hn1, ← hV1, ← hV2]; rfl
    rw [hV1] at v1
    rw [hV2] at v2
    simp only [go_sem, Nat.reduceBEq, e1, partC, e2, hV1, hV2, wrap_id (n := V1) (by omega) (by omega), wrap_id (n := V2) (by omega) (by omega), wrap_id (n := w + L.w + W) (by omega) (by omega), wrap_id (n := A0 + L.a + V1) (by omega) (by omega), wrap_id (n := H0 + L.h + V2) (by omega) (by omega), wrap_succ (k := j) (by omega)]
    refine ⟨⟨j + 1, hj2, trivial⟩, by simp only; omega, ?_⟩
    simp only [q]
    rw [Int.add_assoc, Int.add_assoc, Int.add_assoc]
    simp [Wk, wkT, wkL, look, AV.lo, AV.lo.loL]
  · have hjn : j = b.parts.length := by omega
    subst hjn
    simp only [List.take_length]
    obtain ⟨X, hX⟩ : ∃ X, w + (loadW b.parts ws).w = X := ⟨_, rfl⟩
    obtain ⟨Y, hY⟩ : ∃ X, A0 + (loadW b.parts ws).a = X := ⟨_, rfl⟩
    obtain ⟨Z, hZ⟩ : ∃ X, H0 + (loadW b.parts ws).h = X := ⟨_, rfl⟩
    rw [hX, hY, hZ] at hseat ⊢
    obtain ⟨s1, s2, s3⟩ := hseat
    simp only at s1 s2 s3
    have k1 := mulb (a := b.back) (b := X) 100 10000 (by omega) (by omega)
    have k2' := mulb (a := b.front) (b := X) 100 10000 (by omega) (by omega)
    have k3 := mulb (a := b.radius) (b := X) 200 10000 (by omega) (by omega)
    have k4 := mulb (a := b.radius) (b := Y) 200 1000000 (by omega) (by omega)
    have k5 := mulb (a := b.back) (b := b.radius * X - Z) 100 3000000 (by omega) (by omega)
    have k6 := mulb (a := b.front) (b := b.radius * X - Z) 100 3000000 (by omega) (by omega)
    have hk := hm.kind
    unfold topI
    refine ⟨fun h6 => ?_, fun h6 => ?_⟩
    · rw [if_pos h6]
      simp only [go_sem, wrap_id (n := b.back * X) (by omega) (by omega), wrap_id (n := b.front * X) (by omega) (by omega), wrap_id (n := b.back * X + Y) (by omega) (by omega), wrap_id (n := b.front * X - Y) (by omega) (by omega)]
      exact retQ_two rfl rfl rfl
    · rw [if_neg h6]
      simp only [go_sem, wrap_id (n := b.radius * X) (by omega) (by omega), wrap_id (n := b.radius * X - Z) (by omega) (by omega), wrap_id (n := b.radius * Y) (by omega) (by omega), wrap_id (n := b.back * (b.radius * X - Z)) (by omega) (by omega), wrap_id (n := b.front * (b.radius * X - Z)) (by omega) (by omega), wrap_id (n := b.back * (b.radius * X - Z) + b.radius * Y) (by omega) (by omega), wrap_id (n := b.front * (b.radius * X - Z) - b.radius * Y) (by omega) (by omega)]
      exact retQ_two rfl rfl rfl
theorem rtips_sem (k k2 : SK) {b : SBook} {ws : List Int} (hm : MOk b ws) {w n : Int} (hwr : 1 ≤ w ∧ w ≤ 1000) (hn : -40 ≤ n ∧ n ≤ 40) :
    Sem1 73 [.agg (bookC k k2 b), pis ws, pi w, pi n] (pb (decide (tipsI b (loadW b.parts ws) w n))) := by
  refine semC_of_exec' mixed Try.func73 (by kernel_rfl) (by kernel_rfl) ac73_ok 4 rfl (by decide) [(.tmp 8)] (by kernel_rfl) ?_
  intro hr C hC hI
  unfold ac73
  simp only [go_sem, Nat.reduceBEq, Nat.reduceAdd]
  refine call_pure2 hC (rmargin_sem k k2 hm hwr hn) rfl (PVleL_refl _) ?_
  rintro r rfl
  simp only [go_sem, Nat.reduceBEq]
  exact retQ_one rfl rfl
theorem rright_sem (k k2 : SK) {b : SBook} {ws : List Int} (hm : MOk b ws) (htl : b.trials.length ≤ 1000) (ht : ∀ t ∈ b.trials, (1 ≤ t.weight ∧ t.weight ≤ 1000) ∧ -40 ≤ t.lean ∧ t.lean ≤ 40) :
    Sem1 118 [.agg (bookC k k2 b), pis ws] (pb (b.trials.all (rightI b ws))) := by
  refine semC_of_exec' mixed Try.func118 (by kernel_rfl) (by kernel_rfl) ac118_ok 2 rfl (by decide) [(.tmp 4)] (by kernel_rfl) ?_
  intro hr C hC hI
  unfold ac118
  simp only [go_sem, Nat.reduceBEq, Nat.reduceAdd]
  refine loop_nat b.trials.length (fun j => (b.trials.take j).all (rightI b ws) = true) (fun (j : Nat) => ⟨[(5, .p (pi j)), (2, .loc 0 0), (1, .p (pis ws))], [.cells ((bookC k k2 b).map .p)], [], some [], 0⟩) rfl (by simp [Wk, wkT, wkL, look, AV.lo, AV.lo.loL]) ?_
  rintro j ⟨hj, hok⟩
  simp only [go_sem, Nat.reduceBEq, List.length_map]
  refine ⟨fun h5 => ?_, fun h5 => ?_⟩
  · have hj2 : j < b.trials.length := by omega
    have hp := ht _ (List.getElem_mem hj2)
    have e := iadr_map (f := trialC) (kd := k2) (sz := 3) hj2
    obtain ⟨P, hP⟩ : ∃ P, b.trials[j] = P := ⟨_, rfl⟩
    have hmem : P ∈ b.trials := hP ▸ List.getElem_mem hj2
    have hnx : (b.trials.take (j + 1)).all (rightI b ws) = rightI b ws P := by
      rw [List.take_succ_eq_append_getElem hj2, List.all_append, hok, hP]
      simp
    rw [hP] at hp e
    simp only [go_sem, Nat.reduceBEq, Nat.reduceAdd, e, trialC, putCells]
    refine call_pure2 hC (rtips_sem k k2 hm hp.1 hp.2) rfl (PVleL_refl _) ?_
    rintro r rfl
    simp only [go_sem, Nat.reduceBEq]
    have hR : rightI b ws P = (decide (tipsI b (loadW b.parts ws) P.weight P.lean) == P.tipped) := rfl
    obtain ⟨T, hT⟩ : ∃ T, decide (tipsI b (loadW b.parts ws) P.weight P.lean) = T := ⟨_, rfl⟩
    rw [hT] at hR ⊢
    simp only [go_sem, wrap_succ (k := j) (by omega)]
    refine ⟨fun h6 => ?_, fun h6 => ?_⟩
    · refine retQ_one rfl (congrArg pb ?_)
      have : rightI b ws P = false := by rw [hR]; simpa using h6
      exact (List.all_eq_false.2 ⟨P, hmem, by simp [this]⟩).symm
    · refine ⟨⟨j + 1, hj2, ?_⟩, by simp only; omega, by simp [Wk, wkT, wkL, look, AV.lo, AV.lo.loL]⟩
      rw [hnx, hR]
      simpa using h6
  · have hjn : j = b.trials.length := by omega
    subst hjn
    rw [List.take_length] at hok
    exact retQ_one rfl (by rw [hok])
end Go.Proofs.Ytaejmbmkkdkliaa
namespace Go.Proofs.Ytaejmbmkkdkliaa
open Go.RowKit
def ac19 : AC := (AC.seq (AC.ops [(AOp.mk (some 1) (AK.box 10 (AX.t 0)) none 0 false true), (AOp.mk (some 2) (AK.mv (AX.c (PV.val (Value.int IntKind.i64 0)))) none 1 false true)]) (AC.seq (AC.ops [(AOp.mk (some 6) (AK.fadr 0 (AX.t 1)) none 0 false true), (AOp.mk (some 7) (AK.ld none (AX.t 6)) none 1 false true), (AOp.mk (some 8) (AK.call 43 [(AX.t 7), (AX.c (PV.val (Value.int IntKind.i64 0))), (AX.c (PV.val (Value.int IntKind.i64 1)))]) none 2 false true), (AOp.mk (some 9) (AK.mv (AX.t 8)) none 3 false true), (AOp.mk (some 10) (AK.fadr 1 (AX.t 1)) (some (9, true)) 4 false true), (AOp.mk (some 11) (AK.ld none (AX.t 10)) (some (9, true)) 5 false true), (AOp.mk (some 12) (AK.call 43 [(AX.t 11), (AX.c (PV.val (Value.int IntKind.i64 1))), (AX.c (PV.val (Value.int IntKind.i64 60)))]) (some (9, true)) 6 false true), (AOp.mk (some 13) (AK.pick (AX.t 9) (AX.t 12) (AX.c (PV.val (Value.bool false)))) none 7 false true), (AOp.mk (some 14) (AK.mv (AX.t 13)) none 8 false true), (AOp.mk (some 15) (AK.fadr 2 (AX.t 1)) (some (14, true)) 9 false true), (AOp.mk (some 16) (AK.ld none (AX.t 15)) (some (14, true)) 10 false true), (AOp.mk (some 17) (AK.call 43 [(AX.t 16), (AX.c (PV.val (Value.int IntKind.i64 1))), (AX.c (PV.val (Value.int IntKind.i64 60)))]) (some (14, true)) 11 false true), (AOp.mk (some 18) (AK.pick (AX.t 14) (AX.t 17) (AX.c (PV.val (Value.bool false)))) none 12 false true), (AOp.mk (some 19) (AK.mv (AX.t 18)) none 13 false true), (AOp.mk (some 20) (AK.fadr 4 (AX.t 1)) (some (19, true)) 14 false true), (AOp.mk (some 21) (AK.ld none (AX.t 20)) (some (19, true)) 15 false true), (AOp.mk (some 22) (AK.len (AX.t 21)) (some (19, true)) 16 false true), (AOp.mk (some 23) (AK.call 43 [(AX.t 22), (AX.c (PV.val (Value.int IntKind.i64 1))), (AX.c (PV.val (Value.int IntKind.i64 4)))]) (some (19, true)) 17 false true), (AOp.mk (some 24) (AK.pick (AX.t 19) (AX.t 23) (AX.c (PV.val (Value.bool false)))) none 18 false true), (AOp.mk (some 3) (AK.mv (AX.t 24)) none 19 false true)]) (AC.seq (AC.seq (AC.ops [(AOp.mk (some 25) (AK.fadr 0 (AX.t 1)) none 0 false true), (AOp.mk (some 26) (AK.ld none (AX.t 25)) none 1 false true), (AOp.mk (some 27) (AK.bin false BinOp.eql (AX.t 26) (AX.c (PV.val (Value.int IntKind.i64 1)))) none 2 false true)]) (AC.cond (AX.t 27) (AC.ops [(AOp.mk (some 28) (AK.mv (AX.t 3)) none 0 false true), (AOp.mk (some 29) (AK.mv (AX.t 28)) none 1 false true), (AOp.mk (some 30) (AK.fadr 3 (AX.t 1)) (some (29, true)) 2 false true), (AOp.mk (some 31) (AK.ld none (AX.t 30)) (some (29, true)) 3 false true), (AOp.mk (some 32) (AK.call 43 [(AX.t 31), (AX.c (PV.val (Value.int IntKind.i64 1))), (AX.c (PV.val (Value.int IntKind.i64 120)))]) (some (29, true)) 4 false true), (AOp.mk (some 33) (AK.pick (AX.t 29) (AX.t 32) (AX.c (PV.val (Value.bool false)))) none 5 false true), (AOp.mk (some 3) (AK.mv (AX.t 33)) none 6 false true)]) (AC.ops [(AOp.mk (some 34) (AK.mv (AX.t 3)) none 0 false true), (AOp.mk (some 35) (AK.mv (AX.t 34)) none 1 false true), (AOp.mk (some 36) (AK.fadr 3 (AX.t 1)) (some (35, true)) 2 false true), (AOp.mk (some 37) (AK.ld none (AX.t 36)) (some (35, true)) 3 false true), (AOp.mk (some 38) (AK.bin false BinOp.eql (AX.t 37) (AX.c (PV.val (Value.int IntKind.i64 0)))) (some (35, true)) 4 false true), (AOp.mk (some 39) (AK.pick (AX.t 35) (AX.t 38) (AX.c (PV.val (Value.bool false)))) none 5 false true), (AOp.mk (some 3) (AK.mv (AX.t 39)) none 6 false true)]))) (AC.seq (AC.seq (AC.ops [(AOp.mk (some 4) (AK.mv (AX.c (PV.val (Value.int IntKind.i64 0)))) none 0 false true)]) (AC.block 0 (AC.loop (AC.seq (AC.seq (AC.ops [(AOp.mk (some 40) (AK.mv (AX.t 3)) none 0 false true), (AOp.mk (some 41) (AK.mv (AX.t 40)) none 1 false true), (AOp.mk (some 42) (AK.mv (AX.t 4)) (some (41, true)) 2 false true), (AOp.mk (some 43) (AK.fadr 4 (AX.t 1)) (some (41, true)) 3 false true), (AOp.mk (some 44) (AK.ld none (AX.t 43)) (some (41, true)) 4 false true), (AOp.mk (some 45) (AK.len (AX.t 44)) (some (41, true)) 5 false true), (AOp.mk (some 46) (AK.bin false BinOp.lss (AX.t 42) (AX.t 45)) (some (41, true)) 6 false true), (AOp.mk (some 47) (AK.pick (AX.t 41) (AX.t 46) (AX.c (PV.val (Value.bool false)))) none 7 false true)]) (AC.cond (AX.t 47) AC.skip (AC.exit 0))) (AC.seq (AC.block 1 (AC.ops [(AOp.mk (some 50) (AK.fadr 4 (AX.t 1)) none 0 false true), (AOp.mk (some 51) (AK.ld none (AX.t 50)) none 1 false true), (AOp.mk (some 52) (AK.mv (AX.t 4)) none 2 false true), (AOp.mk (some 53) (AK.iadrS 4 (AX.t 51) (AX.t 52)) none 3 false true), (AOp.mk (some 54) (AK.ld (some 4) (AX.t 53)) none 4 false true), (AOp.mk (some 55) (AK.call 65 [(AX.t 54)]) none 5 false true), (AOp.mk (some 3) (AK.mv (AX.t 55)) none 6 false true)])) (AC.ops [(AOp.mk (some 48) (AK.mv (AX.t 4)) none 0 false true), (AOp.mk (some 49) (AK.bin false BinOp.add (AX.t 48) (AX.c (PV.val (Value.int IntKind.i64 1)))) none 1 false true), (AOp.mk (some 4) (AK.mv (AX.t 49)) none 2 false true)])))))) (AC.seq (AC.ops [(AOp.mk (some 56) (AK.mv (AX.t 3)) none 0 false true), (AOp.mk (some 57) (AK.mv (AX.t 56)) none 1 false true), (AOp.mk (some 58) (AK.fadr 5 (AX.t 1)) (some (57, true)) 2 false true), (AOp.mk (some 59) (AK.ld none (AX.t 58)) (some (57, true)) 3 false true), (AOp.mk (some 60) (AK.call 43 [(AX.t 59), (AX.c (PV.val (Value.int IntKind.i64 (-60)))), (AX.c (PV.val (Value.int IntKind.i64 60)))]) (some (57, true)) 4 false true), (AOp.mk (some 61) (AK.pick (AX.t 57) (AX.t 60) (AX.c (PV.val (Value.bool false)))) none 5 false true), (AOp.mk (some 62) (AK.mv (AX.t 61)) none 6 false true), (AOp.mk (some 63) (AK.fadr 6 (AX.t 1)) (some (62, true)) 7 false true), (AOp.mk (some 64) (AK.ld none (AX.t 63)) (some (62, true)) 8 false true), (AOp.mk (some 65) (AK.call 43 [(AX.t 64), (AX.c (PV.val (Value.int IntKind.i64 0))), (AX.c (PV.val (Value.int IntKind.i64 60)))]) (some (62, true)) 9 false true), (AOp.mk (some 66) (AK.pick (AX.t 62) (AX.t 65) (AX.c (PV.val (Value.bool false)))) none 10 false true), (AOp.mk (some 67) (AK.mv (AX.t 66)) none 11 false true), (AOp.mk (some 68) (AK.fadr 7 (AX.t 1)) (some (67, true)) 12 false true), (AOp.mk (some 69) (AK.ld none (AX.t 68)) (some (67, true)) 13 false true), (AOp.mk (some 70) (AK.call 43 [(AX.t 69), (AX.c (PV.val (Value.int IntKind.i64 0))), (AX.c (PV.val (Value.int IntKind.i64 12)))]) (some (67, true)) 14 false true), (AOp.mk (some 71) (AK.pick (AX.t 67) (AX.t 70) (AX.c (PV.val (Value.bool false)))) none 15 false true), (AOp.mk (some 72) (AK.mv (AX.t 71)) none 16 false true), (AOp.mk (some 73) (AK.fadr 8 (AX.t 1)) (some (72, true)) 17 false true), (AOp.mk (some 74) (AK.ld none (AX.t 73)) (some (72, true)) 18 false true), (AOp.mk (some 75) (AK.call 43 [(AX.t 74), (AX.c (PV.val (Value.int IntKind.i64 1))), (AX.c (PV.val (Value.int IntKind.i64 60)))]) (some (72, true)) 19 false true), (AOp.mk (some 76) (AK.pick (AX.t 72) (AX.t 75) (AX.c (PV.val (Value.bool false)))) none 20 false true), (AOp.mk (some 77) (AK.mv (AX.t 76)) none 21 false true), (AOp.mk (some 78) (AK.fadr 9 (AX.t 1)) (some (77, true)) 22 false true), (AOp.mk (some 79) (AK.ld none (AX.t 78)) (some (77, true)) 23 false true), (AOp.mk (some 80) (AK.len (AX.t 79)) (some (77, true)) 24 false true), (AOp.mk (some 81) (AK.bin false BinOp.leq (AX.t 80) (AX.c (PV.val (Value.int IntKind.i64 5)))) (some (77, true)) 25 false true), (AOp.mk (some 82) (AK.pick (AX.t 77) (AX.t 81) (AX.c (PV.val (Value.bool false)))) none 26 false true), (AOp.mk (some 3) (AK.mv (AX.t 82)) none 27 false true)]) (AC.seq (AC.seq (AC.ops [(AOp.mk (some 5) (AK.mv (AX.c (PV.val (Value.int IntKind.i64 0)))) none 0 false true)]) (AC.block 2 (AC.loop (AC.seq (AC.seq (AC.ops [(AOp.mk (some 83) (AK.mv (AX.t 3)) none 0 false true), (AOp.mk (some 84) (AK.mv (AX.t 83)) none 1 false true), (AOp.mk (some 85) (AK.mv (AX.t 5)) (some (84, true)) 2 false true), (AOp.mk (some 86) (AK.fadr 9 (AX.t 1)) (some (84, true)) 3 false true), (AOp.mk (some 87) (AK.ld none (AX.t 86)) (some (84, true)) 4 false true), (AOp.mk (some 88) (AK.len (AX.t 87)) (some (84, true)) 5 false true), (AOp.mk (some 89) (AK.bin false BinOp.lss (AX.t 85) (AX.t 88)) (some (84, true)) 6 false true), (AOp.mk (some 90) (AK.pick (AX.t 84) (AX.t 89) (AX.c (PV.val (Value.bool false)))) none 7 false true)]) (AC.cond (AX.t 90) AC.skip (AC.exit 2))) (AC.seq (AC.block 3 (AC.ops [(AOp.mk (some 93) (AK.ld (some 10) (AX.t 1)) none 0 true false), (AOp.mk (some 94) (AK.fadr 9 (AX.t 1)) none 1 true false), (AOp.mk (some 95) (AK.ld none (AX.t 94)) none 2 true false), (AOp.mk (some 96) (AK.mv (AX.t 5)) none 3 true false), (AOp.mk (some 97) (AK.iadrS 3 (AX.t 95) (AX.t 96)) none 4 true false), (AOp.mk (some 98) (AK.fadr 0 (AX.t 97)) none 5 true false), (AOp.mk (some 99) (AK.ld none (AX.t 98)) none 6 true false), (AOp.mk (some 100) (AK.call 66 [(AX.t 93), (AX.t 99)]) none 7 false false), (AOp.mk (some 101) (AK.mv (AX.t 100)) none 8 true false), (AOp.mk (some 102) (AK.ld (some 10) (AX.t 1)) (some (101, true)) 9 true false), (AOp.mk (some 103) (AK.fadr 9 (AX.t 1)) (some (101, true)) 10 true false), (AOp.mk (some 104) (AK.ld none (AX.t 103)) (some (101, true)) 11 true false), (AOp.mk (some 105) (AK.mv (AX.t 5)) (some (101, true)) 12 true false), (AOp.mk (some 106) (AK.iadrS 3 (AX.t 104) (AX.t 105)) (some (101, true)) 13 true false), (AOp.mk (some 107) (AK.fadr 1 (AX.t 106)) (some (101, true)) 14 true false), (AOp.mk (some 108) (AK.ld none (AX.t 107)) (some (101, true)) 15 true false), (AOp.mk (some 109) (AK.call 67 [(AX.t 102), (AX.t 108)]) (some (101, true)) 16 false false), (AOp.mk (some 110) (AK.pick (AX.t 101) (AX.t 109) (AX.c (PV.val (Value.bool false)))) none 17 true false), (AOp.mk (some 3) (AK.mv (AX.t 110)) none 18 true true)])) (AC.ops [(AOp.mk (some 91) (AK.mv (AX.t 5)) none 0 false true), (AOp.mk (some 92) (AK.bin false BinOp.add (AX.t 91) (AX.c (PV.val (Value.int IntKind.i64 1)))) none 1 false true), (AOp.mk (some 5) (AK.mv (AX.t 92)) none 2 false true)])))))) (AC.seq (AC.seq (AC.ops [(AOp.mk (some 111) (AK.mv (AX.t 3)) none 0 false true), (AOp.mk (some 112) (AK.un UnOp.not (AX.t 111)) none 1 false true)]) (AC.cond (AX.t 112) (AC.seq (AC.ops [(AOp.mk (some 2) (AK.mv (AX.c (PV.val (Value.int IntKind.i64 20)))) none 0 false true)]) AC.ret) AC.skip)) (AC.seq (AC.ops [(AOp.mk (some 2) (AK.mv (AX.c (PV.val (Value.int IntKind.i64 0)))) none 0 false true)]) AC.ret))))))))
theorem ac19_ok : cCode Try.prog (fun _ => false) Try.f19.ntmps (Try.f19.body.getD .skip) = some ac19 := by kernel_rfl
set_option maxHeartbeats 4000000 in
theorem rCheck_sem (k k2 : SK) (b : SBook) : Sem1 19 [.agg (bookC k k2 b)] (pi (if okBook b then 0 else 20)) := by
  have hno : ¬ okBook b → pi 20 = pi (if okBook b then 0 else 20) := fun h => by rw [if_neg h]
  have hyes : okBook b → pi 0 = pi (if okBook b then 0 else 20) := fun h => by rw [if_pos h]
  refine semC_of_exec' mixed Try.func19 (by kernel_rfl) (by kernel_rfl) ac19_ok 1 rfl (by decide) [(.tmp 2)] (by kernel_rfl) ?_
  intro hr C hC hI
  unfold ac19
  simp only [go_sem, Nat.reduceBEq, Nat.reduceAdd]
  repeat' (first | (guard_target =~ _ ∧ _; refine ⟨fun _ => ?_, fun _ => ?_⟩) | (guard_target =~ Con.call _ 43 _ _ _ _; refine call_pure2 hC (In_sem ..) rfl (PVleL_refl _) ?_; rintro r rfl; simp only [go_sem, Nat.reduceBEq, List.length_map]))
  all_goals
    first
      | (refine ⟨{x : Nat × Bool // x.1 ≤ b.parts.length ∧ (x.2 = true → (okBase b ∧ 1 ≤ (b.parts.length : Int) ∧ (b.parts.length : Int) ≤ 4) ∧ ∀ i, i < x.1 → ∀ p, b.parts[i]? = some p → okPart p) ∧ (x.2 = false → ¬ okBook b)}, fun x => ⟨[(4, .p (pi x.1.1)), (3, .p (pb x.1.2)), (1, .loc 0 0)], [.cells ((bookC k k2 b).map .p)], [], some [], 0⟩, fun x => b.parts.length - x.1.1, ⟨(0, true), ?_⟩, ?_, ?_⟩; rotate_left; simp [Wk, wkT, wkL, look, AV.lo, AV.lo.loL]; rotate_left; exact ⟨by simp, fun _ => ⟨⟨⟨by omega, by omega, by omega⟩, by omega⟩, fun i hi => absurd hi (by simp)⟩, fun h => (by cases h)⟩)
      | (refine ⟨{x : Nat × Bool // x.1 ≤ b.parts.length ∧ (x.2 = true → (okBase b ∧ 1 ≤ (b.parts.length : Int) ∧ (b.parts.length : Int) ≤ 4) ∧ ∀ i, i < x.1 → ∀ p, b.parts[i]? = some p → okPart p) ∧ (x.2 = false → ¬ okBook b)}, fun x => ⟨[(4, .p (pi x.1.1)), (3, .p (pb x.1.2)), (1, .loc 0 0)], [.cells ((bookC k k2 b).map .p)], [], some [], 0⟩, fun x => b.parts.length - x.1.1, ⟨(0, false), ?_⟩, ?_, ?_⟩; rotate_left; simp [Wk, wkT, wkL, look, AV.lo, AV.lo.loL]; rotate_left; exact ⟨by simp, fun h => (by cases h), fun _ => by intro h; obtain ⟨⟨g1, g2, g3⟩, ⟨⟨g4, g5⟩, g6, g7⟩, g8, g9, g10, g11⟩ := h; omega⟩)
      | (refine ⟨{x : Nat × Bool // x.1 ≤ b.parts.length ∧ (x.2 = true → (okBase b ∧ 1 ≤ (b.parts.length : Int) ∧ (b.parts.length : Int) ≤ 4) ∧ ∀ i, i < x.1 → ∀ p, b.parts[i]? = some p → okPart p) ∧ (x.2 = false → ¬ okBook b)}, fun x => ⟨[(4, .p (pi x.1.1)), (3, .p (pb x.1.2)), (1, .loc 0 0)], [.cells ((bookC k k2 b).map .p)], [], some [], 0⟩, fun x => b.parts.length - x.1.1, ⟨(0, decide (1 ≤ b.radius ∧ b.radius ≤ 120)), ?_⟩, ?_, ?_⟩; rotate_left; simp [Wk, wkT, wkL, look, AV.lo, AV.lo.loL]; rotate_left; exact ⟨by simp, fun h => by have hd := of_decide_eq_true h; exact ⟨⟨⟨by omega, by omega, by omega⟩, by omega⟩, fun i hi => absurd hi (by simp)⟩, fun h => by have hd := of_decide_eq_false h; intro h; obtain ⟨⟨g1, g2, g3⟩, ⟨⟨g4, g5⟩, g6, g7⟩, g8, g9, g10, g11⟩ := h; omega⟩)
      | (refine ⟨{x : Nat × Bool // x.1 ≤ b.parts.length ∧ (x.2 = true → (okBase b ∧ 1 ≤ (b.parts.length : Int) ∧ (b.parts.length : Int) ≤ 4) ∧ ∀ i, i < x.1 → ∀ p, b.parts[i]? = some p → okPart p) ∧ (x.2 = false → ¬ okBook b)}, fun x => ⟨[(4, .p (pi x.1.1)), (3, .p (pb x.1.2)), (1, .loc 0 0)], [.cells ((bookC k k2 b).map .p)], [], some [], 0⟩, fun x => b.parts.length - x.1.1, ⟨(0, decide (b.radius = 0)), ?_⟩, ?_, ?_⟩; rotate_left; simp [Wk, wkT, wkL, look, AV.lo, AV.lo.loL]; rotate_left; exact ⟨by simp, fun h => by have hd := of_decide_eq_true h; exact ⟨⟨⟨by omega, by omega, by omega⟩, by omega⟩, fun i hi => absurd hi (by simp)⟩, fun h => by have hd := of_decide_eq_false h; intro h; obtain ⟨⟨g1, g2, g3⟩, ⟨⟨g4, g5⟩, g6, g7⟩, g8, g9, g10, g11⟩ := h; omega⟩)
    rintro ⟨⟨j, t⟩, hj, ht, hf⟩
    simp only at hj ht hf
    cases t
    · simp only [go_sem, Nat.reduceBEq]
      refine loop_nat 0 (fun _ => True) (fun (j : Nat) => ⟨[(5, .p (pi 0)), (3, .p (pb false)), (1, .loc 0 0)], [.cells ((bookC k k2 b).map .p)], [], some [], 0⟩) trivial (by simp [Wk, wkT, wkL, look, AV.lo, AV.lo.loL]) ?_
      rintro i ⟨hi, -⟩
      simp only [go_sem, Nat.reduceBEq]
      exact retQ_one rfl (hno (hf rfl))
    obtain ⟨⟨hbase, hlen⟩, ht⟩ := ht rfl
    simp only [go_sem, Nat.reduceBEq, List.length_map]
    refine ⟨fun h5 => ?_, fun h5 => ?_⟩
    · have hj2 : j < b.parts.length := by omega
      have e := iadr_map (f := partC) (kd := k) (sz := 4) hj2
      have hPm := List.getElem_mem hj2
      have hPg := List.getElem?_eq_getElem hj2
      obtain ⟨P, hP⟩ : ∃ P, b.parts[j] = P := ⟨_, rfl⟩
      rw [hP] at e hPm hPg
      simp only [go_sem, Nat.reduceBEq, Nat.reduceAdd, e, partC]
      refine call_pure2 hC (rpart_sem P) rfl (PVleL_refl _) ?_
      rintro r rfl
      simp only [go_sem, Nat.reduceBEq, wrap_succ (k := j) (by omega)]
      refine ⟨⟨(j + 1, decide (okPart P)), by simp only; omega, fun h => ⟨⟨hbase, hlen⟩, ?_⟩, fun h => ?_⟩, by simp only; omega, by simp [Wk, wkT, wkL, look, AV.lo, AV.lo.loL]⟩
      · intro q hq p hqp
        rcases Nat.lt_or_ge q j with h1 | h1
        · exact ht q h1 p hqp
        · have : q = j := by simp only at hq; omega
          subst this
          rw [hPg] at hqp
          cases hqp
          exact of_decide_eq_true h
      · exact fun ho => (of_decide_eq_false h) (ho.2.2.2.2.1 P hPm)
    have hparts : ∀ p ∈ b.parts, okPart p := fun p hp => by
      obtain ⟨q, hq⟩ := List.mem_iff_getElem?.1 hp
      exact ht q (by have := (List.getElem?_eq_some_iff.1 hq).1; omega) p hq
    repeat' (first | (guard_target =~ _ ∧ _; refine ⟨fun _ => ?_, fun _ => ?_⟩) | (guard_target =~ Con.call _ 43 _ _ _ _; refine call_pure2 hC (In_sem ..) rfl (PVleL_refl _) ?_; rintro r rfl; simp only [go_sem, Nat.reduceBEq, List.length_map]))
    all_goals
      first
        | (refine ⟨{x : Nat × Bool // x.1 ≤ b.trials.length ∧ (x.2 = true → (okSeat b ∧ (b.trials.length : Int) ≤ 5) ∧ ∀ i, i < x.1 → ∀ p, b.trials[i]? = some p → okTrial b p) ∧ (x.2 = false → ¬ okBook b)}, fun x => ⟨[(5, .p (pi x.1.1)), (3, .p (pb x.1.2)), (1, .loc 0 0)], [.cells ((bookC k k2 b).map .p)], [], some [], 0⟩, fun x => b.trials.length - x.1.1, ⟨(0, true), ?_⟩, ?_, ?_⟩; rotate_left; simp [Wk, wkT, wkL, look, AV.lo, AV.lo.loL]; rotate_left; exact ⟨by simp, fun _ => ⟨⟨⟨⟨by omega, by omega⟩, by omega, by omega⟩, by omega⟩, fun i hi => absurd hi (by simp)⟩, fun h => (by cases h)⟩)
        | (refine ⟨{x : Nat × Bool // x.1 ≤ b.trials.length ∧ (x.2 = true → (okSeat b ∧ (b.trials.length : Int) ≤ 5) ∧ ∀ i, i < x.1 → ∀ p, b.trials[i]? = some p → okTrial b p) ∧ (x.2 = false → ¬ okBook b)}, fun x => ⟨[(5, .p (pi x.1.1)), (3, .p (pb x.1.2)), (1, .loc 0 0)], [.cells ((bookC k k2 b).map .p)], [], some [], 0⟩, fun x => b.trials.length - x.1.1, ⟨(0, decide ((b.trials.length : Int) ≤ 5)), ?_⟩, ?_, ?_⟩; rotate_left; simp [Wk, wkT, wkL, look, AV.lo, AV.lo.loL]; rotate_left; exact ⟨by simp, fun h => by have hd := of_decide_eq_true h; exact ⟨⟨⟨⟨by omega, by omega⟩, by omega, by omega⟩, by omega⟩, fun i hi => absurd hi (by simp)⟩, fun h => by have hd := of_decide_eq_false h; intro h; obtain ⟨⟨g1, g2, g3⟩, ⟨⟨g4, g5⟩, g6, g7⟩, g8, g9, g10, g11⟩ := h; omega⟩)
        | (refine ⟨{x : Nat × Bool // x.1 ≤ b.trials.length ∧ (x.2 = true → (okSeat b ∧ (b.trials.length : Int) ≤ 5) ∧ ∀ i, i < x.1 → ∀ p, b.trials[i]? = some p → okTrial b p) ∧ (x.2 = false → ¬ okBook b)}, fun x => ⟨[(5, .p (pi x.1.1)), (3, .p (pb x.1.2)), (1, .loc 0 0)], [.cells ((bookC k k2 b).map .p)], [], some [], 0⟩, fun x => b.trials.length - x.1.1, ⟨(0, false), ?_⟩, ?_, ?_⟩; rotate_left; simp [Wk, wkT, wkL, look, AV.lo, AV.lo.loL]; rotate_left; exact ⟨by simp, fun h => (by cases h), fun _ => by intro h; obtain ⟨⟨g1, g2, g3⟩, ⟨⟨g4, g5⟩, g6, g7⟩, g8, g9, g10, g11⟩ := h; omega⟩)
      rintro ⟨⟨i, u⟩, hi, hu, hv⟩
      simp only at hi hu hv
      cases u
      · simp only [go_sem, Nat.reduceBEq]
        exact retQ_one rfl (hno (hv rfl))
      obtain ⟨⟨hseat, htl⟩, hu⟩ := hu rfl
      have hln := hseat.2.1
      simp only [go_sem, Nat.reduceBEq, Nat.reduceAdd, List.length_map]
      refine ⟨fun h5 => ?_, fun h5 => ?_⟩
      · have hi2 : i < b.trials.length := by omega
        have e := iadr_map (f := trialC) (kd := k2) (sz := 3) hi2
        have hPm := List.getElem_mem hi2
        have hPg := List.getElem?_eq_getElem hi2
        obtain ⟨P, hP⟩ : ∃ P, b.trials[i] = P := ⟨_, rfl⟩
        rw [hP] at e hPm hPg
        have hz : IntKind.i64.wrap (0 - b.lean) = -b.lean := by rw [wrap_id (by omega) (by omega)]; omega
        have hnx : okTrial b P → ∀ q, q < i + 1 → ∀ p, b.trials[q]? = some p → okTrial b p := fun hp q hq p hqp => by
          rcases Nat.lt_or_ge q i with h | h
          · exact hu q h p hqp
          · have : q = i := by omega
            subst this
            rw [hPg] at hqp
            cases hqp
            exact hp
        have hbad : ¬ okTrial b P → ¬ okBook b := fun hp ho => hp (ho.2.2.2.2.2 P hPm)
        simp only [go_sem, Nat.reduceBEq, e, trialC]
        refine call_pure2 hC (isWeight_sem ..) rfl (PVleL_refl _) ?_
        rintro r rfl
        simp only [go_sem, Nat.reduceBEq, Nat.reduceAdd, e, trialC]
        refine ⟨fun h6 => ?_, fun h6 => ?_⟩
        · refine call_pure2 hC (isLean_sem ..) rfl (PVleL_refl _) ?_
          rintro r rfl
          simp only [go_sem, Nat.reduceBEq, wrap_succ (k := i) (by omega), hz]
          refine ⟨⟨(i + 1, decide (-b.lean ≤ P.lean ∧ P.lean ≤ b.lean)), by simp only; omega, fun h => ⟨⟨hseat, htl⟩, hnx ⟨h6, of_decide_eq_true h⟩⟩, fun h => hbad fun hp => (of_decide_eq_false h) hp.2⟩, by simp only; omega, by simp [Wk, wkT, wkL, look, AV.lo, AV.lo.loL]⟩
        · simp only [go_sem, wrap_succ (k := i) (by omega)]
          exact ⟨⟨(i + 1, false), by simp only; omega, fun h => by (cases h), fun _ => hbad fun h => h6 h.1⟩, by simp only; omega, by simp [Wk, wkT, wkL, look, AV.lo, AV.lo.loL]⟩
      · refine retQ_one rfl (hyes ⟨hbase, hseat, by omega, by omega, hparts, fun p hp => ?_⟩)
        obtain ⟨q, hq⟩ := List.mem_iff_getElem?.1 hp
        exact hu q (by have := (List.getElem?_eq_some_iff.1 hq).1; omega) p hq
end Go.Proofs.Ytaejmbmkkdkliaa
