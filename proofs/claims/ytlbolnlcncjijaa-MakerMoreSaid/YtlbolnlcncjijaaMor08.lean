/- MakerMore returns true for every book, mark and number; no condition. MakerMore. MakerMore: behind the two books. -/
import Derived.Test.YtlbolnlcncjijaaMor07
import Derived.Test.YtlbolnlcncjijaaMor05
import Derived.Test.YtlbolnlcncjijaaGa17
namespace Go.Proofs.Ytlbolnlcncjijaa.Mk
open Go.RowKit Ls
def ac13 : AC := (AC.seq (AC.ops [(AOp.mk (some 4) (AK.mv (AX.c (PV.val (Value.bool false)))) none 0 false true)]) (AC.seq (AC.ops [(AOp.mk (some 5) (AK.mv (AX.c (PV.val (Value.bool true)))) none 0 false true)]) (AC.seq (AC.seq (AC.ops [(AOp.mk (some 6) (AK.mv (AX.c (PV.val (Value.int IntKind.i64 0)))) none 0 false true)]) (AC.block 0 (AC.loop (AC.seq (AC.seq (AC.ops [(AOp.mk (some 7) (AK.mv (AX.t 6)) none 0 false true), (AOp.mk (some 8) (AK.mv (AX.t 0)) none 1 false true), (AOp.mk (some 9) (AK.len (AX.t 8)) none 2 false true), (AOp.mk (some 10) (AK.bin false BinOp.lss (AX.t 7) (AX.t 9)) none 3 false true)]) (AC.cond (AX.t 10) AC.skip (AC.exit 0))) (AC.seq (AC.block 1 (AC.ops [(AOp.mk (some 13) (AK.mv (AX.t 5)) none 0 false true), (AOp.mk (some 14) (AK.mv (AX.t 13)) none 1 false true), (AOp.mk (some 15) (AK.mv (AX.t 1)) (some (14, true)) 2 false true), (AOp.mk (some 16) (AK.mv (AX.t 0)) (some (14, true)) 3 false true), (AOp.mk (some 17) (AK.mv (AX.t 6)) (some (14, true)) 4 false true), (AOp.mk (some 18) (AK.iadrS 1 (AX.t 16) (AX.t 17)) (some (14, true)) 5 false true), (AOp.mk (some 19) (AK.ld none (AX.t 18)) (some (14, true)) 6 false true), (AOp.mk (some 20) (AK.call 32 [(AX.t 15), (AX.t 19)]) (some (14, true)) 7 false true), (AOp.mk (some 21) (AK.bin false BinOp.geq (AX.t 20) (AX.c (PV.val (Value.int IntKind.i64 0)))) (some (14, true)) 8 false true), (AOp.mk (some 22) (AK.pick (AX.t 14) (AX.t 21) (AX.c (PV.val (Value.bool false)))) none 9 false true), (AOp.mk (some 5) (AK.mv (AX.t 22)) none 10 false true)])) (AC.ops [(AOp.mk (some 11) (AK.mv (AX.t 6)) none 0 false true), (AOp.mk (some 12) (AK.bin false BinOp.add (AX.t 11) (AX.c (PV.val (Value.int IntKind.i64 1)))) none 1 false true), (AOp.mk (some 6) (AK.mv (AX.t 12)) none 2 false true)])))))) (AC.seq (AC.ops [(AOp.mk (some 23) (AK.mv (AX.t 5)) none 0 false true), (AOp.mk (some 4) (AK.mv (AX.t 23)) none 1 false true)]) AC.ret))))
theorem ac13_ok : cCode Try.prog (fun _ => false) Try.f13.ntmps (Try.f13.body.getD .skip) = some ac13 := by kernel_rfl
def acr3 : AC := (AC.seq (AC.ops [(AOp.mk (some 43) (AK.fadr 2 (AX.t 3)) none 0 false true), (AOp.mk (some 44) (AK.ld none (AX.t 43)) none 1 false true), (AOp.mk (some 45) (AK.bin false BinOp.sub (AX.t 44) (AX.c (PV.val (Value.int IntKind.i64 1)))) none 2 false true), (AOp.mk (some 46) (AK.mx true [(AX.c (PV.val (Value.int IntKind.i64 0))), (AX.t 45)]) none 3 false true), (AOp.mk (some 47) (AK.fadr 2 (AX.t 9)) none 4 false true), (AOp.mk none (AK.st 1 (AX.t 47) (AX.t 46)) none 5 false true)]) (AC.seq (AC.ops [(AOp.mk (some 49) (AK.ld (some 4) (AX.t 3)) none 0 false true), (AOp.mk (some 50) (AK.call 10 [(AX.t 49)]) none 1 false true), (AOp.mk (some 48) (AK.mv (AX.t 50)) none 2 false true), (AOp.mk (some 51) (AK.ext (AX.t 48) 0) none 3 false true), (AOp.mk (some 52) (AK.ext (AX.t 48) 1) none 4 false true), (AOp.mk (some 10) (AK.mv (AX.t 51)) none 5 false true), (AOp.mk (some 11) (AK.mv (AX.t 52)) none 6 false true)]) (AC.seq (AC.ops [(AOp.mk (some 54) (AK.ld (some 4) (AX.t 8)) none 0 false true), (AOp.mk (some 55) (AK.call 10 [(AX.t 54)]) none 1 false true), (AOp.mk (some 53) (AK.mv (AX.t 55)) none 2 false true), (AOp.mk (some 56) (AK.ext (AX.t 53) 0) none 3 false true), (AOp.mk (some 57) (AK.ext (AX.t 53) 1) none 4 false true), (AOp.mk (some 12) (AK.mv (AX.t 56)) none 5 false true), (AOp.mk (some 13) (AK.mv (AX.t 57)) none 6 false true)]) (AC.seq (AC.ops [(AOp.mk (some 59) (AK.ld (some 4) (AX.t 3)) none 0 false true), (AOp.mk (some 60) (AK.mv (AX.t 7)) none 1 false true), (AOp.mk (some 61) (AK.call 11 [(AX.t 59), (AX.t 60)]) none 2 false true), (AOp.mk (some 58) (AK.mv (AX.t 61)) none 3 false true), (AOp.mk (some 62) (AK.ext (AX.t 58) 0) none 4 false true), (AOp.mk (some 63) (AK.ext (AX.t 58) 1) none 5 false true), (AOp.mk (some 14) (AK.mv (AX.t 62)) none 6 false true), (AOp.mk (some 15) (AK.mv (AX.t 63)) none 7 false true)]) (AC.seq (AC.ops [(AOp.mk (some 65) (AK.ld (some 4) (AX.t 8)) none 0 false true), (AOp.mk (some 66) (AK.mv (AX.t 7)) none 1 false true), (AOp.mk (some 67) (AK.call 11 [(AX.t 65), (AX.t 66)]) none 2 false true), (AOp.mk (some 64) (AK.mv (AX.t 67)) none 3 false true), (AOp.mk (some 68) (AK.ext (AX.t 64) 0) none 4 false true), (AOp.mk (some 69) (AK.ext (AX.t 64) 1) none 5 false true), (AOp.mk (some 16) (AK.mv (AX.t 68)) none 6 false true), (AOp.mk (some 17) (AK.mv (AX.t 69)) none 7 false true)]) (AC.seq (AC.ops [(AOp.mk (some 71) (AK.ld (some 4) (AX.t 9)) none 0 false true), (AOp.mk (some 72) (AK.call 10 [(AX.t 71)]) none 1 false true), (AOp.mk (some 70) (AK.mv (AX.t 72)) none 2 false true), (AOp.mk (some 73) (AK.ext (AX.t 70) 0) none 3 false true), (AOp.mk (some 74) (AK.ext (AX.t 70) 1) none 4 false true), (AOp.mk (some 18) (AK.mv (AX.t 73)) none 5 false true), (AOp.mk (some 19) (AK.mv (AX.t 74)) none 6 false true)]) (AC.seq (AC.ops [(AOp.mk (some 76) (AK.ld (some 4) (AX.t 9)) none 0 false true), (AOp.mk (some 77) (AK.mv (AX.t 7)) none 1 false true), (AOp.mk (some 78) (AK.call 11 [(AX.t 76), (AX.t 77)]) none 2 false true), (AOp.mk (some 75) (AK.mv (AX.t 78)) none 3 false true), (AOp.mk (some 79) (AK.ext (AX.t 75) 0) none 4 false true), (AOp.mk (some 80) (AK.ext (AX.t 75) 1) none 5 false true), (AOp.mk (some 20) (AK.mv (AX.t 79)) none 6 false true), (AOp.mk (some 21) (AK.mv (AX.t 80)) none 7 false true)]) (AC.seq (AC.seq (AC.ops [(AOp.mk (some 81) (AK.mv (AX.t 13)) none 0 false true), (AOp.mk (some 82) (AK.bin false BinOp.eql (AX.t 81) (AX.c (PV.val (Value.int IntKind.i64 50)))) none 1 false true)]) (AC.cond (AX.t 82) (AC.seq (AC.ops [(AOp.mk (some 83) (AK.ld (some 4) (AX.t 8)) none 0 false true), (AOp.mk (some 84) (AK.call 12 [(AX.t 83)]) none 1 false true), (AOp.mk (some 85) (AK.mv (AX.t 13)) none 2 false true), (AOp.mk (some 86) (AK.bin false BinOp.eql (AX.t 84) (AX.t 85)) none 3 false true), (AOp.mk (some 87) (AK.mv (AX.t 86)) none 4 false true), (AOp.mk (some 88) (AK.mv (AX.t 17)) (some (87, true)) 5 false true), (AOp.mk (some 89) (AK.mv (AX.t 13)) (some (87, true)) 6 false true), (AOp.mk (some 90) (AK.bin false BinOp.eql (AX.t 88) (AX.t 89)) (some (87, true)) 7 false true), (AOp.mk (some 91) (AK.pick (AX.t 87) (AX.t 90) (AX.c (PV.val (Value.bool false)))) none 8 false true), (AOp.mk (some 92) (AK.mv (AX.t 91)) none 9 false true), (AOp.mk (some 93) (AK.call 7 []) (some (92, true)) 10 false true), (AOp.mk (some 94) (AK.pick (AX.t 92) (AX.t 93) (AX.c (PV.val (Value.bool false)))) none 11 false true), (AOp.mk (some 6) (AK.mv (AX.t 94)) none 12 false true)]) AC.ret) AC.skip)) (AC.seq (AC.seq (AC.ops [(AOp.mk (some 95) (AK.mv (AX.t 19)) none 0 false true), (AOp.mk (some 96) (AK.mv (AX.t 11)) none 1 false true), (AOp.mk (some 97) (AK.bin false BinOp.neq (AX.t 95) (AX.t 96)) none 2 false true), (AOp.mk (some 98) (AK.mv (AX.t 97)) none 3 false true), (AOp.mk (some 99) (AK.mv (AX.t 15)) (some (98, false)) 4 false true), (AOp.mk (some 100) (AK.mv (AX.t 11)) (some (98, false)) 5 false true), (AOp.mk (some 101) (AK.bin false BinOp.neq (AX.t 99) (AX.t 100)) (some (98, false)) 6 false true), (AOp.mk (some 102) (AK.pick (AX.t 98) (AX.c (PV.val (Value.bool true))) (AX.t 101)) none 7 false true), (AOp.mk (some 103) (AK.mv (AX.t 102)) none 8 false true), (AOp.mk (some 104) (AK.mv (AX.t 21)) (some (103, false)) 9 false true), (AOp.mk (some 105) (AK.mv (AX.t 11)) (some (103, false)) 10 false true), (AOp.mk (some 106) (AK.bin false BinOp.neq (AX.t 104) (AX.t 105)) (some (103, false)) 11 false true), (AOp.mk (some 107) (AK.pick (AX.t 103) (AX.c (PV.val (Value.bool true))) (AX.t 106)) none 12 false true), (AOp.mk (some 108) (AK.mv (AX.t 107)) none 13 false true), (AOp.mk (some 109) (AK.mv (AX.t 17)) (some (108, false)) 14 false true), (AOp.mk (some 110) (AK.mv (AX.t 13)) (some (108, false)) 15 false true), (AOp.mk (some 111) (AK.bin false BinOp.neq (AX.t 109) (AX.t 110)) (some (108, false)) 16 false true), (AOp.mk (some 112) (AK.pick (AX.t 108) (AX.c (PV.val (Value.bool true))) (AX.t 111)) none 17 false true), (AOp.mk (some 113) (AK.mv (AX.t 112)) none 18 false true), (AOp.mk (some 114) (AK.mv (AX.t 11)) (some (113, false)) 19 false true), (AOp.mk (some 115) (AK.bin false BinOp.neq (AX.t 114) (AX.c (PV.val (Value.int IntKind.i64 0)))) (some (113, false)) 20 false true), (AOp.mk (some 116) (AK.mv (AX.t 115)) (some (113, false)) 21 false true), (AOp.mk (some 117) (AK.mv (AX.t 11)) (some (116, true)) 22 false true), (AOp.mk (some 118) (AK.bin false BinOp.neq (AX.t 117) (AX.c (PV.val (Value.int IntKind.i64 52)))) (some (116, true)) 23 false true), (AOp.mk (some 119) (AK.mv (AX.t 118)) (some (116, true)) 24 false true), (AOp.mk (some 120) (AK.mv (AX.t 13)) (some (119, false)) 25 false true), (AOp.mk (some 121) (AK.mv (AX.t 11)) (some (119, false)) 26 false true), (AOp.mk (some 122) (AK.bin false BinOp.neq (AX.t 120) (AX.t 121)) (some (119, false)) 27 false true), (AOp.mk (some 123) (AK.pick (AX.t 119) (AX.c (PV.val (Value.bool true))) (AX.t 122)) (some (116, true)) 28 false true), (AOp.mk (some 124) (AK.pick (AX.t 116) (AX.t 123) (AX.c (PV.val (Value.bool false)))) (some (113, false)) 29 false true), (AOp.mk (some 125) (AK.pick (AX.t 113) (AX.c (PV.val (Value.bool true))) (AX.t 124)) none 30 false true), (AOp.mk (some 126) (AK.mv (AX.t 125)) none 31 false true), (AOp.mk (some 127) (AK.mv (AX.t 13)) (some (126, false)) 32 false true), (AOp.mk (some 128) (AK.bin false BinOp.neq (AX.t 127) (AX.c (PV.val (Value.int IntKind.i64 0)))) (some (126, false)) 33 false true), (AOp.mk (some 129) (AK.mv (AX.t 128)) (some (126, false)) 34 false true), (AOp.mk (some 130) (AK.mv (AX.t 13)) (some (129, true)) 35 false true), (AOp.mk (some 131) (AK.bin false BinOp.neq (AX.t 130) (AX.c (PV.val (Value.int IntKind.i64 52)))) (some (129, true)) 36 false true), (AOp.mk (some 132) (AK.pick (AX.t 129) (AX.t 131) (AX.c (PV.val (Value.bool false)))) (some (126, false)) 37 false true), (AOp.mk (some 133) (AK.pick (AX.t 126) (AX.c (PV.val (Value.bool true))) (AX.t 132)) none 38 false true)]) (AC.cond (AX.t 133) (AC.seq (AC.ops [(AOp.mk (some 6) (AK.mv (AX.c (PV.val (Value.bool false)))) none 0 false true)]) AC.ret) AC.skip)) (AC.seq (AC.ops [(AOp.mk (some 134) (AK.mv (AX.t 12)) none 0 false true), (AOp.mk (some 135) (AK.mv (AX.t 10)) none 1 false true), (AOp.mk (some 136) (AK.call 13 [(AX.t 134), (AX.t 135)]) none 2 false true), (AOp.mk (some 137) (AK.mv (AX.t 136)) none 3 false true), (AOp.mk (some 138) (AK.mv (AX.t 16)) (some (137, true)) 4 false true), (AOp.mk (some 139) (AK.mv (AX.t 14)) (some (137, true)) 5 false true), (AOp.mk (some 140) (AK.call 13 [(AX.t 138), (AX.t 139)]) (some (137, true)) 6 false true), (AOp.mk (some 141) (AK.pick (AX.t 137) (AX.t 140) (AX.c (PV.val (Value.bool false)))) none 7 false true), (AOp.mk (some 142) (AK.mv (AX.t 141)) none 8 false true), (AOp.mk (some 143) (AK.mv (AX.t 18)) (some (142, true)) 9 false true), (AOp.mk (some 144) (AK.mv (AX.t 10)) (some (142, true)) 10 false true), (AOp.mk (some 145) (AK.call 13 [(AX.t 143), (AX.t 144)]) (some (142, true)) 11 false true), (AOp.mk (some 146) (AK.pick (AX.t 142) (AX.t 145) (AX.c (PV.val (Value.bool false)))) none 12 false true), (AOp.mk (some 147) (AK.mv (AX.t 146)) none 13 false true), (AOp.mk (some 148) (AK.mv (AX.t 20)) (some (147, true)) 14 false true), (AOp.mk (some 149) (AK.mv (AX.t 14)) (some (147, true)) 15 false true), (AOp.mk (some 150) (AK.call 13 [(AX.t 148), (AX.t 149)]) (some (147, true)) 16 false true), (AOp.mk (some 151) (AK.pick (AX.t 147) (AX.t 150) (AX.c (PV.val (Value.bool false)))) none 17 false true), (AOp.mk (some 152) (AK.mv (AX.t 151)) none 18 false true), (AOp.mk (some 153) (AK.call 7 []) (some (152, true)) 19 false true), (AOp.mk (some 154) (AK.pick (AX.t 152) (AX.t 153) (AX.c (PV.val (Value.bool false)))) none 20 false true), (AOp.mk (some 6) (AK.mv (AX.t 154)) none 21 false true)]) AC.ret))))))))))
def ac3 : AC := (AC.seq (AC.ops [(AOp.mk (some 3) (AK.box 4 (AX.t 0)) none 0 false true), (AOp.mk (some 4) (AK.box 2 (AX.t 1)) none 1 false true), (AOp.mk (some 6) (AK.mv (AX.c (PV.val (Value.bool false)))) none 2 false true)]) (AC.seq (AC.seq (AC.ops [(AOp.mk (some 22) (AK.ld (some 4) (AX.t 3)) none 0 false true), (AOp.mk (some 23) (AK.call 6 [(AX.t 22)]) none 1 false true), (AOp.mk (some 24) (AK.un UnOp.not (AX.t 23)) none 2 false true), (AOp.mk (some 25) (AK.mv (AX.t 24)) none 3 false true), (AOp.mk (some 26) (AK.fadr 1 (AX.t 3)) (some (25, false)) 4 false true), (AOp.mk (some 27) (AK.ld none (AX.t 26)) (some (25, false)) 5 false true), (AOp.mk (some 28) (AK.len (AX.t 27)) (some (25, false)) 6 false true), (AOp.mk (some 29) (AK.bin false BinOp.eql (AX.t 28) (AX.c (PV.val (Value.int IntKind.i64 8)))) (some (25, false)) 7 false true), (AOp.mk (some 30) (AK.pick (AX.t 25) (AX.c (PV.val (Value.bool true))) (AX.t 29)) none 8 false true)]) (AC.cond (AX.t 30) (AC.seq (AC.ops [(AOp.mk (some 31) (AK.call 7 []) none 0 false true), (AOp.mk (some 6) (AK.mv (AX.t 31)) none 1 false true)]) AC.ret) AC.skip)) (AC.seq (AC.ops [(AOp.mk (some 32) (AK.mv (AX.t 2)) none 0 false true), (AOp.mk (some 33) (AK.fadr 0 (AX.t 3)) none 1 false true), (AOp.mk (some 34) (AK.ld none (AX.t 33)) none 2 false true), (AOp.mk (some 35) (AK.iadrS 1 (AX.t 34) (AX.c (PV.val (Value.int IntKind.i64 0)))) none 3 false true), (AOp.mk (some 36) (AK.ld none (AX.t 35)) none 4 false true), (AOp.mk (some 37) (AK.len (AX.t 36)) none 5 false true), (AOp.mk (some 38) (AK.call 8 [(AX.t 32), (AX.t 37)]) none 6 false true), (AOp.mk (some 7) (AK.mv (AX.t 38)) none 7 false true)]) (AC.seq (AC.tree (AT.op (AOp.mk (some 39) (AK.ld (some 4) (AX.t 3)) none 0 true false) (AT.op (AOp.mk (some 40) (AK.ld (some 2) (AX.t 4)) none 1 true false) (AT.op (AOp.mk (some 42) (AK.ld (some 4) (AX.t 3)) none 3 true false) (AT.alt (AOp.mk (some 41) (AK.call 9 [(AX.t 39), (AX.t 40)]) none 2 false false) (AT.fk (AOp.mk (some 8) (AK.new (PV.agg [(PV.sl SK.full 0 []), (PV.sl SK.full 0 []), (PV.val (Value.int IntKind.i64 0)), (PV.val (Value.int IntKind.i64 0))])) none 4 false false) (AOp.mk (some 9) (AK.new (PV.agg [(PV.sl SK.full 0 []), (PV.sl SK.full 0 []), (PV.val (Value.int IntKind.i64 0)), (PV.val (Value.int IntKind.i64 0))])) none 5 false false) (AT.op (AOp.mk (some 9) (AK.new (PV.agg [(PV.sl SK.full 0 []), (PV.sl SK.full 0 []), (PV.val (Value.int IntKind.i64 0)), (PV.val (Value.int IntKind.i64 0))])) none 5 false false) (AT.op (AOp.mk none (AK.st 4 (AX.t 8) (AX.t 41)) none 6 false false) (AT.op (AOp.mk none (AK.st 4 (AX.t 9) (AX.t 42)) none 7 false true) AT.fin))) (AT.op (AOp.mk (some 8) (AK.new (PV.agg [(PV.sl SK.full 0 []), (PV.sl SK.full 0 []), (PV.val (Value.int IntKind.i64 0)), (PV.val (Value.int IntKind.i64 0))])) none 4 false false) (AT.op (AOp.mk none (AK.st 4 (AX.t 8) (AX.t 41)) none 6 false false) (AT.op (AOp.mk none (AK.st 4 (AX.t 9) (AX.t 42)) none 7 false true) AT.fin)))) (AT.alt (AOp.mk (some 8) (AK.new (PV.agg [(PV.sl SK.full 0 []), (PV.sl SK.full 0 []), (PV.val (Value.int IntKind.i64 0)), (PV.val (Value.int IntKind.i64 0))])) none 4 false false) (AT.fk (AOp.mk (some 41) (AK.call 9 [(AX.t 39), (AX.t 40)]) none 2 false false) (AOp.mk (some 9) (AK.new (PV.agg [(PV.sl SK.full 0 []), (PV.sl SK.full 0 []), (PV.val (Value.int IntKind.i64 0)), (PV.val (Value.int IntKind.i64 0))])) none 5 false false) (AT.op (AOp.mk (some 9) (AK.new (PV.agg [(PV.sl SK.full 0 []), (PV.sl SK.full 0 []), (PV.val (Value.int IntKind.i64 0)), (PV.val (Value.int IntKind.i64 0))])) none 5 false false) (AT.op (AOp.mk none (AK.st 4 (AX.t 8) (AX.t 41)) none 6 false false) (AT.op (AOp.mk none (AK.st 4 (AX.t 9) (AX.t 42)) none 7 false true) AT.fin))) (AT.op (AOp.mk (some 41) (AK.call 9 [(AX.t 39), (AX.t 40)]) none 2 false false) (AT.op (AOp.mk none (AK.st 4 (AX.t 8) (AX.t 41)) none 6 false false) (AT.op (AOp.mk none (AK.st 4 (AX.t 9) (AX.t 42)) none 7 false true) AT.fin)))) (AT.op (AOp.mk (some 9) (AK.new (PV.agg [(PV.sl SK.full 0 []), (PV.sl SK.full 0 []), (PV.val (Value.int IntKind.i64 0)), (PV.val (Value.int IntKind.i64 0))])) none 5 false false) (AT.fk (AOp.mk (some 41) (AK.call 9 [(AX.t 39), (AX.t 40)]) none 2 false false) (AOp.mk (some 8) (AK.new (PV.agg [(PV.sl SK.full 0 []), (PV.sl SK.full 0 []), (PV.val (Value.int IntKind.i64 0)), (PV.val (Value.int IntKind.i64 0))])) none 4 false false) (AT.op (AOp.mk (some 8) (AK.new (PV.agg [(PV.sl SK.full 0 []), (PV.sl SK.full 0 []), (PV.val (Value.int IntKind.i64 0)), (PV.val (Value.int IntKind.i64 0))])) none 4 false false) (AT.op (AOp.mk none (AK.st 4 (AX.t 8) (AX.t 41)) none 6 false false) (AT.op (AOp.mk none (AK.st 4 (AX.t 9) (AX.t 42)) none 7 false true) AT.fin))) (AT.op (AOp.mk (some 41) (AK.call 9 [(AX.t 39), (AX.t 40)]) none 2 false false) (AT.op (AOp.mk none (AK.st 4 (AX.t 8) (AX.t 41)) none 6 false false) (AT.op (AOp.mk none (AK.st 4 (AX.t 9) (AX.t 42)) none 7 false true) AT.fin))))))))))) acr3))))
theorem ac3_ok : cCode Try.prog (fun _ => false) Try.f3.ntmps (Try.f3.body.getD .skip) = some ac3 := by kernel_rfl
theorem inside_sem {l m : List Int} (h : ∀ n ∈ l, n ∈ m) : Sem1 13 [pis l, pis m] (pb true) := by
  refine semC_of_exec' mixed Try.func13 (by kernel_rfl) (by kernel_rfl) ac13_ok 2 rfl (by decide) [(.tmp 4)] (by kernel_rfl) ?_
  intro hr C hC hI
  unfold ac13
  simp only [go_sem]
  have hll := real_len (i := 0) hr rfl
  rw [List.length_map] at hll
  refine loop_k l.length (fun _ => True) [0, 1] (fun i => [(5, .p (pb true)), (6, .p (pi i))]) trivial rfl ⟨rfl, by simp, by simp⟩ (by simp [wkT, look, AV.lo]) ?_
  rintro i ⟨hi, -⟩
  simp only [go_sem, Nat.reduceBEq, List.length_map]
  refine ⟨fun d5 => ?_, fun d5 => ?_⟩
  · have hi2 : i < l.length := by omega
    have ei := iadr_map (f := fun x : Int => [pi x]) (kd := .sh) (sz := 1) hi2
    simp only [go_sem, Nat.reduceBEq, ei]
    refine call_pure2 hC (Find_sem m l[i]) rfl (PVleL_refl _) ?_
    rintro _ ⟨f, rfl, hf⟩
    have hf0 : 0 ≤ f := Int.not_lt.1 fun h1 => hf.1 h1 (h _ (List.getElem_mem hi2))
    simp only [go_sem, Nat.reduceBEq, eq_true hf0, wrap_succ (k := i) (by omega), decide_true]
    refine ⟨⟨i + 1, hi2, trivial⟩, by simp only; omega, ?_⟩
    simp [Wk, wkT, wkL, look, AV.lo]
  · exact retQ_one rfl rfl
def fewerB (b : MBook) : MBook := { b with repairs := max 0 (b.repairs - 1) }
theorem fewer_ok {b : MBook} (h : okBook b) : okBook (fewerB b) := by
  obtain ⟨⟨h1, h2, h3, h4, h5, h6⟩, h8⟩ := h
  exact ⟨⟨h1, h2, h3, h4, ⟨by show 0 ≤ max 0 (b.repairs - 1); omega, by show max 0 (b.repairs - 1) ≤ (nK b : Int); omega⟩, h6⟩, h8⟩
theorem sub_fewer {b : MBook} (h : okBook b) : Sub (fewerB b) b := ⟨rfl, fun _ _ h => h, by have := h.1.2.2.2.2.1.1; show max 0 (b.repairs - 1) ≤ b.repairs; omega, rfl⟩
theorem sub_right {x b : MBook} (h : Sub x b) (hr : rightB x = true) : rightB b = true := by
  unfold rightB at *
  rw [List.all_eq_true] at *
  intro k hk
  have := hr k (by rw [h.kinds]; exact hk)
  rw [decide_eq_true_eq] at this ⊢
  obtain ⟨i, hi⟩ := ne_bit.1 this
  exact ne_bit.2 ⟨i, h.seen k i hi⟩
def listE (e : Int) (l : List Nat) : List Int := if e = 0 then natL l else []
def errE (b : MBook) : Int := if rightB b then 0 else 52
theorem natL_sub {l m : List Nat} (h : ∀ n ∈ l, n ∈ m) : ∀ n ∈ natL l, n ∈ natL m := fun n hn => by
  obtain ⟨k, hk, rfl⟩ := List.mem_map.1 hn
  exact List.mem_map.2 ⟨k, h k hk, rfl⟩
theorem tell_who (k k2 : SK) {b : MBook} (ho : okBook b) : Sem1 10 [.agg (bookC k k2 b)] (.tup [pis (listE (errE b) (whoL b)), pi (errE b)]) := by
  unfold listE errE
  cases hr : rightB b
  · exact Who_no k k2 ho hr
  · exact Who_ok k k2 ho hr
theorem tell_values (k k2 : SK) {b : MBook} (ho : okBook b) {q : Nat} (hq : q < nK b) : Sem1 11 [.agg (bookC k k2 b), pi q] (.tup [pis (listE (errE b) (valuesL b q)), pi (errE b)]) := by
  unfold listE errE
  cases hr : rightB b
  · exact Values_no k k2 ho hr hq
  · exact Values_ok k k2 ho hr hq
theorem tell_sub {x b : MBook} (h : Sub x b) {l m : List Nat} (hl : ∀ n ∈ l, n ∈ m) : ∀ n ∈ listE (errE x) l, n ∈ listE (errE b) m := by
  unfold listE errE
  cases hr : rightB x
  · intro n hn
    cases hn
  · rw [sub_right h hr]
    exact natL_sub hl
theorem err_sub {x b : MBook} (h : Sub x b) : (errE b = 0 ∧ errE x = 0) ∨ (errE b = 0 ∧ errE x = 52) ∨ (errE b = 52 ∧ errE x = 52) := by
  unfold errE
  cases hr : rightB x
  · cases rightB b
    · exact .inr (.inr ⟨rfl, rfl⟩)
    · exact .inr (.inl ⟨rfl, rfl⟩)
  · rw [sub_right h hr]
    exact .inl ⟨rfl, rfl⟩
theorem errE_no {x : MBook} (h : ¬ okBook x) (b : Bool) : errR x b = 50 := by unfold errR; rw [if_neg h]
def lay2 (i : Nat) (x y : ABlk) : List ABlk := if i = 2 then [x, y] else [y, x]
theorem lay22 {x y : ABlk} : lay2 2 x y = [x, y] := rfl
theorem lay23 {x y : ABlk} : lay2 3 x y = [y, x] := rfl
set_option maxRecDepth 20000 in
set_option maxHeartbeats 8000000 in
theorem more_rest (k k2 : SK) {b : MBook} (ho : okBook b) {q : Nat} (hq : q < nK b) (m : Int × Int) {C : Con} (hC : ∀ f args rd K s, SemP Try.prog Fence.wide f args rd K s → C.call f args rd K s)
    (i1 i2 : Nat) (hp : (i1 = 2 ∧ i2 = 3) ∨ (i1 = 3 ∧ i2 = 2)) (t : List (Nat × AV))
    (h3 : look t 3 = .loc 0 0) (h7 : look t 7 = .p (pi q)) (h8 : look t 8 = .loc i1 0) (h9 : look t 9 = .loc i2 0) :
    exec C acr3 (retC Try.prog [.tmp 6] (fun r => r = pb true)) ⟨t, [.cells ((bookC k k2 b).map .p), .cells [.p (pi m.1), .p (pi m.2)]] ++ lay2 i1 (.cells ((bookC k .sh (moreB b m)).map .p)) (.cells ((bookC k k2 b).map .p)), [], some [], 0⟩ := by
  have hrep := ho.1.2.2.2.2.1
  have h6 := ho.1.2.1
  have w1 : IntKind.i64.wrap (b.repairs - 1) = b.repairs - 1 := wrap_id (by omega) (by omega)
  have hmx : maxI true 0 (b.repairs - 1) = max 0 (b.repairs - 1) := by
    unfold maxI
    simp only [if_true]
    split <;> omega
  have c1 := tell_who k k2 ho
  have c3 := tell_values k k2 ho hq
  have hfo := fewer_ok ho
  have c5 := tell_who k k2 hfo
  have c6 := tell_values k k2 hfo (q := q) hq
  have ef : errE (fewerB b) = errE b := rfl
  have s5 := tell_sub (sub_fewer ho) (l := whoL (fewerB b)) (m := whoL b) fun n hn => (sub_fewer ho).who hn
  have s6 := tell_sub (sub_fewer ho) (l := valuesL (fewerB b) q) (m := valuesL b q) fun n hn => (sub_fewer ho).values hn
  have sm : Sub (moreB b m) b := sub_more b [m]
  have s2 := tell_sub sm (l := whoL (moreB b m)) (m := whoL b) fun n hn => sm.who hn
  have s4 := tell_sub sm (l := valuesL (moreB b m) q) (m := valuesL b q) fun n hn => sm.values hn
  have hes := err_sub sm
  rw [ef] at c5 c6 s5 s6
  unfold fewerB at c5 c6
  by_cases hx : okBook (moreB b m)
  rotate_left
  · have d2 : Sem1 10 [.agg (bookC k .sh (moreB b m))] (.tup [pis [], pi 50]) := (Who_sem k .sh (moreB b m)).mono fun _ e => e.trans (by rw [errE_no hx, if_neg (by decide)])
    have d4 : Sem1 11 [.agg (bookC k .sh (moreB b m)), pi q] (.tup [pis [], pi 50]) := (Values_sem k .sh (moreB b m) q).mono fun _ e => e.trans (by rw [errE_no hx, if_neg (by decide)])
    have d0 : Sem1 12 [.agg (bookC k .sh (moreB b m))] (pi 50) := (Check_sem k .sh (moreB b m)).mono fun _ e => e.trans (by rw [if_neg hx])
    unfold acr3
    rcases hp with ⟨e1, e2⟩ | ⟨e1, e2⟩
    all_goals
      simp only [e1, e2, lay22, lay23, List.cons_append, List.nil_append] at h8 h9 ⊢
      simp only [go_sem, Nat.reduceBEq, Nat.reduceAdd, Nat.reduceLeDiff, h3, h9, putCells, w1, hmx]
      refine call_pure2 hC (c1) rfl (PVleL_refl _) ?_
      rintro r rfl
      simp only [go_sem, Nat.reduceBEq, Nat.reduceAdd, h8]
      refine call_pure2 hC (d2) rfl (PVleL_refl _) ?_
      rintro r rfl
      simp only [go_sem, Nat.reduceBEq, Nat.reduceAdd, h3, h7]
      refine call_pure2 hC (c3) rfl (PVleL_refl _) ?_
      rintro r rfl
      simp only [go_sem, Nat.reduceBEq, Nat.reduceAdd, h7, h8]
      refine call_pure2 hC (d4) rfl (PVleL_refl _) ?_
      rintro r rfl
      simp only [go_sem, Nat.reduceBEq, Nat.reduceAdd, h9]
      refine call_pure2 hC (c5) rfl (PVleL_refl _) ?_
      rintro r rfl
      simp only [go_sem, Nat.reduceBEq, Nat.reduceAdd, h7, h9]
      refine call_pure2 hC (c6) rfl (PVleL_refl _) ?_
      rintro r rfl
      simp only [go_sem, Nat.reduceBEq, Nat.reduceAdd, h8, decide_true]
      refine call_pure2 hC (d0) rfl (PVleL_refl _) ?_
      rintro r rfl
      simp only [go_sem, Nat.reduceBEq, decide_true]
      refine call_pure2 hC (marked_sem) rfl (PVleL_refl _) ?_
      rintro r rfl
      simp only [go_sem, Nat.reduceBEq]
      exact retQ_one rfl rfl
  have c2 := tell_who k .sh hx
  have c4 := tell_values k .sh hx (q := q) (show q < nK b from hq)
  obtain ⟨L1, e1⟩ : ∃ L, listE (errE b) (whoL b) = L := ⟨_, rfl⟩
  obtain ⟨L2, e2⟩ : ∃ L, listE (errE (moreB b m)) (whoL (moreB b m)) = L := ⟨_, rfl⟩
  obtain ⟨L3, e3⟩ : ∃ L, listE (errE b) (valuesL b q) = L := ⟨_, rfl⟩
  obtain ⟨L4, e4⟩ : ∃ L, listE (errE (moreB b m)) (valuesL (moreB b m) q) = L := ⟨_, rfl⟩
  rw [e1] at c1 s2 s5
  rw [e2] at c2 s2
  rw [e3] at c3 s4 s6
  rw [e4] at c4 s4
  unfold fewerB at s5 s6
  obtain ⟨L5, e5⟩ : ∃ L, listE (errE b) (whoL { b with repairs := max 0 (b.repairs - 1) }) = L := ⟨_, rfl⟩
  obtain ⟨L6, e6⟩ : ∃ L, listE (errE b) (valuesL { b with repairs := max 0 (b.repairs - 1) } q) = L := ⟨_, rfl⟩
  rw [e5] at c5 s5
  rw [e6] at c6 s6
  clear e1 e2 e3 e4 e5 e6
  obtain ⟨E, eE⟩ : ∃ E, errE b = E := ⟨_, rfl⟩
  obtain ⟨X, eX⟩ : ∃ X, errE (moreB b m) = X := ⟨_, rfl⟩
  rw [eE] at c1 c3 c5 c6 hes
  rw [eX] at c2 c4 hes
  unfold acr3
  rcases hp with ⟨e1, e2⟩ | ⟨e1, e2⟩
  all_goals
    simp only [e1, e2, lay22, lay23, List.cons_append, List.nil_append] at h8 h9 ⊢
    rcases hes with ⟨rfl, rfl⟩ | ⟨rfl, rfl⟩ | ⟨rfl, rfl⟩
    all_goals
      simp only [go_sem, Nat.reduceBEq, Nat.reduceAdd, Nat.reduceLeDiff, h3, h9, putCells, w1, hmx]
      refine call_pure2 hC (c1) rfl (PVleL_refl _) ?_
      rintro r rfl
      simp only [go_sem, Nat.reduceBEq, Nat.reduceAdd, h8]
      refine call_pure2 hC (c2) rfl (PVleL_refl _) ?_
      rintro r rfl
      simp only [go_sem, Nat.reduceBEq, Nat.reduceAdd, h3, h7]
      refine call_pure2 hC (c3) rfl (PVleL_refl _) ?_
      rintro r rfl
      simp only [go_sem, Nat.reduceBEq, Nat.reduceAdd, h7, h8]
      refine call_pure2 hC (c4) rfl (PVleL_refl _) ?_
      rintro r rfl
      simp only [go_sem, Nat.reduceBEq, Nat.reduceAdd, h9]
      refine call_pure2 hC (c5) rfl (PVleL_refl _) ?_
      rintro r rfl
      simp only [go_sem, Nat.reduceBEq, Nat.reduceAdd, h7, h9]
      refine call_pure2 hC (c6) rfl (PVleL_refl _) ?_
      rintro r rfl
      simp only [go_sem, Nat.reduceBEq, decide_true, decide_false, not_true_eq_false, not_false_eq_true, Int.reduceEq]
      refine call_pure2 hC (inside_sem s2) rfl (PVleL_refl _) ?_
      rintro r rfl
      simp only [go_sem, Nat.reduceBEq]
      refine call_pure2 hC (inside_sem s4) rfl (PVleL_refl _) ?_
      rintro r rfl
      simp only [go_sem, Nat.reduceBEq]
      refine call_pure2 hC (inside_sem s5) rfl (PVleL_refl _) ?_
      rintro r rfl
      simp only [go_sem, Nat.reduceBEq]
      refine call_pure2 hC (inside_sem s6) rfl (PVleL_refl _) ?_
      rintro r rfl
      simp only [go_sem, Nat.reduceBEq]
      refine call_pure2 hC (marked_sem) rfl (PVleL_refl _) ?_
      rintro r rfl
      simp only [go_sem, Nat.reduceBEq]
      exact retQ_one rfl rfl
end Go.Proofs.Ytlbolnlcncjijaa.Mk
namespace Go.Proofs.Ytlbolnlcncjijaa.Mk
open Go.RowKit Ls
set_option maxRecDepth 20000 in
set_option maxHeartbeats 8000000 in
theorem More_law (k k2 : SK) (b : MBook) (m : Int × Int) (n : Int) : Sem1 3 [.agg (bookC k k2 b), .agg [pi m.1, pi m.2], pi n] (pb true) := by
  by_cases ho : okBook b
  rotate_left
  · refine semC_of_exec' mixed Try.func3 (by kernel_rfl) (by kernel_rfl) ac3_ok 3 rfl (by decide) [(.tmp 6)] (by kernel_rfl) ?_
    intro hr C hC hI
    unfold ac3
    simp only [go_sem, Nat.reduceBEq, Nat.reduceAdd]
    refine call_pure2 hC (sound_sem k k2 b) rfl (PVleL_refl _) ?_
    rintro r rfl
    simp only [go_sem, Nat.reduceBEq, decide_eq_false ho]
    refine call_pure2 hC (marked_sem) rfl (PVleL_refl _) ?_
    rintro r rfl
    simp only [go_sem, Nat.reduceBEq]
    exact retQ_one rfl rfl
  by_cases h8 : (b.seen.length : Int) = 8
  · refine semC_of_exec' mixed Try.func3 (by kernel_rfl) (by kernel_rfl) ac3_ok 3 rfl (by decide) [(.tmp 6)] (by kernel_rfl) ?_
    intro hr C hC hI
    unfold ac3
    simp only [go_sem, Nat.reduceBEq, Nat.reduceAdd]
    refine call_pure2 hC (sound_sem k k2 b) rfl (PVleL_refl _) ?_
    rintro r rfl
    simp only [go_sem, Nat.reduceBEq, decide_eq_true ho, List.length_map, eq_true h8, decide_true]
    refine call_pure2 hC (marked_sem) rfl (PVleL_refl _) ?_
    rintro r rfl
    simp only [go_sem, Nat.reduceBEq]
    exact retQ_one rfl rfl
  obtain ⟨q, eq, hq⟩ := rnd_kind ho.1 n
  have hz : 0 < b.makers.length := by have := ho.1.1; omega
  have hfl : b.makers[0].length = nK b := (ho.1.row hz).1
  have hs8 := ho.2
  have em0 : iadrS' 1 (.p (.sl k 1 (rowsC b.makers))) (.p (.val (.int .i64 0))) = some (.p (.ptr [pis b.makers[0]] 0)) := iadr_map (f := fun h => [pis h]) (kd := k) (sz := 1) (k := 0) hz
  refine semC_of_exec' mixed Try.func3 (by kernel_rfl) (by kernel_rfl) ac3_ok 3 rfl (by decide) [(.tmp 6)] (by kernel_rfl) ?_
  intro hr C hC hI
  unfold ac3
  simp only [go_sem, Nat.reduceBEq, Nat.reduceAdd]
  refine call_pure2 hC (sound_sem k k2 b) rfl (PVleL_refl _) ?_
  rintro r rfl
  simp only [go_sem, Nat.reduceBEq, decide_eq_true ho, List.length_map, eq_false h8, em0, hfl, decide_false]
  refine call_pure2 hC (Round_sem n (nK b : Int)) rfl (PVleL_refl _) ?_
  rintro r rfl
  simp only [go_sem, Nat.reduceBEq, Nat.reduceAdd, eq, gs_newA, gs_stA, List.map_cons, List.map_nil]
  repeat' (first | (with_reducible refine And.intro ?_ ?_) | (guard_target =~ _ ∨ _; simp; done) | (guard_target =~ _ ≤ _; simp; done) | (guard_target =~ Con.call _ 9 _ _ _ _; refine call_pure2 hC (lwith_sem k k2 b m (by omega)) rfl (PVleL_refl _) ?_; rintro _ rfl; simp only [go_sem, Nat.reduceBEq, Nat.reduceAdd, Nat.reduceEqDiff, stG_loc, stGB_cells, List.map_cons, List.map_nil, true_or, true_and, putCells]))
  all_goals first | (refine more_rest k k2 ho hq m hC 2 3 (by decide) _ ?_ ?_ ?_ ?_ <;> rfl) | (refine more_rest k k2 ho hq m hC 3 2 (by decide) _ ?_ ?_ ?_ ?_ <;> rfl)
set_option maxRecDepth 100000 in
theorem More_row {l0 l1 l2 : List PV} (T0 : Ty Try.prog 10 25 l0) (T1 : Ty Try.prog 10 27 l1) (T2 : Ty Try.prog 10 3 l2) : SemC Try.prog 3 [argPV Try.prog 25 l0, argPV Try.prog 27 l1, argPV Try.prog 3 l2] (fun r => r = pb true) := by
  obtain ⟨b, rfl⟩ := ty_book T0
  obtain ⟨m, rfl⟩ := ty_mark T1
  obtain ⟨n, rfl⟩ := tyInt uInt T2
  rw [argStruct Try.underlying25, argStruct Try.underlying27, argInt uInt]
  exact More_law .sh .sh b m n
end Go.Proofs.Ytlbolnlcncjijaa.Mk
namespace Go.Proofs.Ytlbolnlcncjijaa
open Go.Proofs.Ytlbolnlcncjijaa Go.ChangeShapes Go.WideShapes Go.ChangeAt Go.RowKit Go.Deep

set_option maxRecDepth 100000 in
theorem makerMore_lifted (os : Os) (started : os.Started) (H : Type) (enc : TypeId × Value → H) :
    ReturnsInHanded {} Try.checked os 3 .any (Rows.makerMoreSpec.pre6 enc Try.prog Try.f3 Rows.makerMoreRow.domain false) (Rows.makerMoreSpec.post enc Try.prog Try.f3 false true false false) := by
  refine returnsInHanded_of_change_sized (C := Try.checked) ownKnobs started (by kernel_rfl) Try.func3
    (ChangeSpec.witness6 (enc := enc) (C := Try.checked) false ⟨#[], #[.agg #[.slice none 0 0, .slice none 0 0, .int .i64 0, .int .i64 0], .agg #[.int .i64 0, .int .i64 0], .int .i64 0], []⟩ 8 (by kernel_rfl) (by kernel_rfl) (by kernel_rfl) (by kernel_rfl)) ?_
  intro W base args ds gs before hval0 hW hcnd hsz0 _
  have hval : ∀ (j : Nat) t v, Try.f3.params[j]? = some t → args[j]? = some v → Value.okWide Try.prog W .any base t v := hval0
  have hsz : (DataW.weightsEach Try.prog (Try.f3.params.toList ++ Rows.makerMoreSpec.plain.varTypes Try.prog) (ds ++ gs)).all (· ≤ reachBytes) = true := hsz0
  have hW' := hW
  obtain ⟨p, q, hA0, hV, rfl, hfz, hnd⟩ := hW
  have hA : DataW.TrodAll enc Try.prog W 0 (fun _ => true) true Try.f3.params.toList args.toList ds p := hA0
  rw [Try.params3] at hA hval hsz
  obtain ⟨v0, vs0, d0, ds0, p0, q0, hargs, rfl, rfl, h0, r0⟩ := trodAll_cons hA
  obtain ⟨v1, vs1, d1, ds1, p1, q1, rfl, rfl, rfl, h1, r1⟩ := trodAll_cons r0
  obtain ⟨v2, vs2, d2, ds2, p2, q2, rfl, rfl, rfl, h2, r2⟩ := trodAll_cons r1
  obtain ⟨rfl, rfl, rfl⟩ := trodAll_nil r2
  obtain rfl : args = #[v0, v1, v2] := by cases args; simp_all
  obtain ⟨rfl, rfl⟩ := trodVars_none hV
  have lt0 : ∀ x ∈ p0, x.block < W.heap.size := by obtain ⟨m, hm⟩ := h0; exact DataW.trod_lt m _ _ _ hm
  have lt1 : ∀ x ∈ p1, x.block < W.heap.size := by obtain ⟨m, hm⟩ := h1; exact DataW.trod_lt m _ _ _ hm
  have lt2 : ∀ x ∈ p2, x.block < W.heap.size := by obtain ⟨m, hm⟩ := h2; exact DataW.trod_lt m _ _ _ hm
  have z0 : SizedP Try.prog 25 d0 := sizedP_each hsz (j := 0) rfl rfl
  obtain ⟨l0, T0, R0⟩ := rd_arg 10 (by kernel_rfl) (hval 0 25 v0 rfl rfl) h0 z0
  have z1 : SizedP Try.prog 27 d1 := sizedP_each hsz (j := 1) rfl rfl
  obtain ⟨l1, T1, R1⟩ := rd_arg 10 (by kernel_rfl) (hval 1 27 v1 rfl rfl) h1 z1
  have z2 : SizedP Try.prog 3 d2 := sizedP_each hsz (j := 2) rfl rfl
  obtain ⟨l2, T2, R2⟩ := rd_arg 10 (by kernel_rfl) (hval 2 3 v2 rfl rfl) h2 z2
  clear hA0 hval0 hsz0
  refine (law_calls (Mk.More_row T0 T1 T2) (argsP_cons R0 (argsP_cons R1 (argsP_cons R2 argsP_nil)))).mono fun e W' ⟨he, bel⟩ => ?_
  subst he
  exact ⟨_, rfl, _, _, _, [], _, [], hW', trodAll_mk1 (shut_bool Try.underlying4 _), (trodAll_cons_mk (Below.trod laidOut (by kernel_rfl) (of_decide_eq_true (by kernel_rfl)) h0 bel lt0) (trodAll_cons_mk (Below.trod laidOut (by kernel_rfl) (of_decide_eq_true (by kernel_rfl)) h1 bel lt1) (trodAll_cons_mk (Below.trod laidOut (by kernel_rfl) (of_decide_eq_true (by kernel_rfl)) h2 bel lt2) trodAll_mk0))), rfl, bel.frame _, fun h => by cases h⟩

theorem makerMore_joined : joinedFacts Try.prog 3 Try.f3 Rows.makerMoreSpec Rows.makerMoreRow = true := by
  simp only [joinedFacts, Bool.and_eq_true]
  repeat' apply And.intro
  all_goals first | with_reducible exact laidOut | with_reducible exact mapsR | with_reducible exact stopsH | with_reducible exact mayE | (rw [lift0]; kernel_rfl) | (rw [make0]; kernel_rfl) | kernel_rfl

theorem makerMore_holds : Rows.MakerMoreSaid :=
  OpenClaim.holds_of_wide 3 Try.f3 rfl rfl rfl rfl rfl rfl rfl ⟨rfl, rfl, rfl, rfl, rfl⟩ rfl rfl rfl rfl rfl (by kernel_rfl) Try.func3 makerMore_joined
    (of_decide_eq_true (by kernel_rfl)) (by unfold Func.isWrapper; first | (rw [if_pos (by decide +kernel)]; kernel_rfl) | (rw [if_neg (by decide +kernel)]; exact ⟨rfl, rfl⟩))
    (fun os started H enc _ => makerMore_lifted os started H enc)
end Go.Proofs.Ytlbolnlcncjijaa
