/- Law: DappleClash. Law: DappleDrop. -/
import Derived.Test.YthibnlfbdbidjaaKo07
import Derived.Test.YthibnlfbdbidjaaKo08
namespace Go.Proofs.Ythibnlfbdbidjaa
open Go.RowKit
def ac8 : AC := (AC.seq (AC.ops [(AOp.mk (some 2) (AK.box 2 (AX.t 0)) none 0 false true), (AOp.mk (some 3) (AK.box 2 (AX.t 1)) none 1 false true), (AOp.mk (some 4) (AK.mv (AX.c (PV.val (Value.bool false)))) none 2 false true)]) (AC.seq (AC.ops [(AOp.mk (some 15) (AK.ld (some 2) (AX.t 2)) none 0 false true), (AOp.mk (some 16) (AK.call 30 [(AX.t 15)]) none 1 false true), (AOp.mk (some 14) (AK.mv (AX.t 16)) none 2 false true), (AOp.mk (some 17) (AK.ext (AX.t 14) 0) none 3 false true), (AOp.mk (some 18) (AK.ext (AX.t 14) 1) none 4 false true), (AOp.mk (some 19) (AK.ext (AX.t 14) 2) none 5 false true), (AOp.mk (some 5) (AK.mv (AX.t 17)) none 6 false true), (AOp.mk (some 6) (AK.mv (AX.t 18)) none 7 false true), (AOp.mk (some 7) (AK.mv (AX.t 19)) none 8 false true)]) (AC.seq (AC.ops [(AOp.mk (some 21) (AK.ld (some 2) (AX.t 2)) none 0 false true), (AOp.mk (some 22) (AK.call 32 [(AX.t 21)]) none 1 false true), (AOp.mk (some 20) (AK.mv (AX.t 22)) none 2 false true), (AOp.mk (some 23) (AK.ext (AX.t 20) 0) none 3 false true), (AOp.mk (some 24) (AK.ext (AX.t 20) 1) none 4 false true), (AOp.mk (some 25) (AK.ext (AX.t 20) 2) none 5 false true), (AOp.mk (some 8) (AK.mv (AX.t 23)) none 6 false true), (AOp.mk (some 9) (AK.mv (AX.t 24)) none 7 false true), (AOp.mk (some 10) (AK.mv (AX.t 25)) none 8 false true)]) (AC.seq (AC.seq (AC.ops [(AOp.mk (some 26) (AK.ld (some 2) (AX.t 2)) none 0 false true), (AOp.mk (some 27) (AK.call 38 [(AX.t 26)]) none 1 false true), (AOp.mk (some 28) (AK.un UnOp.not (AX.t 27)) none 2 false true)]) (AC.cond (AX.t 28) (AC.seq (AC.ops [(AOp.mk (some 29) (AK.mv (AX.t 7)) none 0 false true), (AOp.mk (some 30) (AK.bin false BinOp.eql (AX.t 29) (AX.c (PV.val (Value.int IntKind.i64 70)))) none 1 false true), (AOp.mk (some 31) (AK.mv (AX.t 30)) none 2 false true), (AOp.mk (some 32) (AK.mv (AX.t 10)) (some (31, true)) 3 false true), (AOp.mk (some 33) (AK.mv (AX.t 7)) (some (31, true)) 4 false true), (AOp.mk (some 34) (AK.bin false BinOp.eql (AX.t 32) (AX.t 33)) (some (31, true)) 5 false true), (AOp.mk (some 35) (AK.pick (AX.t 31) (AX.t 34) (AX.c (PV.val (Value.bool false)))) none 6 false true), (AOp.mk (some 36) (AK.mv (AX.t 35)) none 7 false true), (AOp.mk (some 37) (AK.mv (AX.t 5)) (some (36, true)) 8 false true), (AOp.mk (some 38) (AK.mv (AX.t 6)) (some (36, true)) 9 false true), (AOp.mk (some 39) (AK.bin false BinOp.add (AX.t 37) (AX.t 38)) (some (36, true)) 10 false true), (AOp.mk (some 40) (AK.mv (AX.t 8)) (some (36, true)) 11 false true), (AOp.mk (some 41) (AK.bin false BinOp.add (AX.t 39) (AX.t 40)) (some (36, true)) 12 false true), (AOp.mk (some 42) (AK.mv (AX.t 9)) (some (36, true)) 13 false true), (AOp.mk (some 43) (AK.bin false BinOp.add (AX.t 41) (AX.t 42)) (some (36, true)) 14 false true), (AOp.mk (some 44) (AK.bin false BinOp.eql (AX.t 43) (AX.c (PV.val (Value.int IntKind.i64 0)))) (some (36, true)) 15 false true), (AOp.mk (some 45) (AK.pick (AX.t 36) (AX.t 44) (AX.c (PV.val (Value.bool false)))) none 16 false true), (AOp.mk (some 46) (AK.mv (AX.t 45)) none 17 false true), (AOp.mk (some 47) (AK.call 25 []) (some (46, true)) 18 false true), (AOp.mk (some 48) (AK.pick (AX.t 46) (AX.t 47) (AX.c (PV.val (Value.bool false)))) none 19 false true), (AOp.mk (some 4) (AK.mv (AX.t 48)) none 20 false true)]) AC.ret) AC.skip)) (AC.seq (AC.seq (AC.ops [(AOp.mk (some 49) (AK.mv (AX.t 7)) none 0 false true), (AOp.mk (some 50) (AK.bin false BinOp.neq (AX.t 49) (AX.c (PV.val (Value.int IntKind.i64 0)))) none 1 false true), (AOp.mk (some 51) (AK.mv (AX.t 50)) none 2 false true), (AOp.mk (some 52) (AK.mv (AX.t 7)) (some (51, true)) 3 false true), (AOp.mk (some 53) (AK.bin false BinOp.neq (AX.t 52) (AX.c (PV.val (Value.int IntKind.i64 4)))) (some (51, true)) 4 false true), (AOp.mk (some 54) (AK.mv (AX.t 53)) (some (51, true)) 5 false true), (AOp.mk (some 55) (AK.mv (AX.t 5)) (some (54, false)) 6 false true), (AOp.mk (some 56) (AK.mv (AX.t 6)) (some (54, false)) 7 false true), (AOp.mk (some 57) (AK.bin false BinOp.add (AX.t 55) (AX.t 56)) (some (54, false)) 8 false true), (AOp.mk (some 58) (AK.bin false BinOp.neq (AX.t 57) (AX.c (PV.val (Value.int IntKind.i64 0)))) (some (54, false)) 9 false true), (AOp.mk (some 59) (AK.pick (AX.t 54) (AX.c (PV.val (Value.bool true))) (AX.t 58)) (some (51, true)) 10 false true), (AOp.mk (some 60) (AK.mv (AX.t 59)) (some (51, true)) 11 false true), (AOp.mk (some 61) (AK.mv (AX.t 10)) (some (60, false)) 12 false true), (AOp.mk (some 62) (AK.mv (AX.t 7)) (some (60, false)) 13 false true), (AOp.mk (some 63) (AK.bin false BinOp.neq (AX.t 61) (AX.t 62)) (some (60, false)) 14 false true), (AOp.mk (some 64) (AK.pick (AX.t 60) (AX.c (PV.val (Value.bool true))) (AX.t 63)) (some (51, true)) 15 false true), (AOp.mk (some 65) (AK.pick (AX.t 51) (AX.t 64) (AX.c (PV.val (Value.bool false)))) none 16 false true), (AOp.mk (some 66) (AK.mv (AX.t 65)) none 17 false true), (AOp.mk (some 67) (AK.mv (AX.t 10)) (some (66, false)) 18 false true), (AOp.mk (some 68) (AK.bin false BinOp.neq (AX.t 67) (AX.c (PV.val (Value.int IntKind.i64 0)))) (some (66, false)) 19 false true), (AOp.mk (some 69) (AK.mv (AX.t 68)) (some (66, false)) 20 false true), (AOp.mk (some 70) (AK.mv (AX.t 10)) (some (69, true)) 21 false true), (AOp.mk (some 71) (AK.bin false BinOp.neq (AX.t 70) (AX.c (PV.val (Value.int IntKind.i64 4)))) (some (69, true)) 22 false true), (AOp.mk (some 72) (AK.mv (AX.t 71)) (some (69, true)) 23 false true), (AOp.mk (some 73) (AK.mv (AX.t 8)) (some (72, false)) 24 false true), (AOp.mk (some 74) (AK.mv (AX.t 9)) (some (72, false)) 25 false true), (AOp.mk (some 75) (AK.bin false BinOp.add (AX.t 73) (AX.t 74)) (some (72, false)) 26 false true), (AOp.mk (some 76) (AK.bin false BinOp.neq (AX.t 75) (AX.c (PV.val (Value.int IntKind.i64 0)))) (some (72, false)) 27 false true), (AOp.mk (some 77) (AK.pick (AX.t 72) (AX.c (PV.val (Value.bool true))) (AX.t 76)) (some (69, true)) 28 false true), (AOp.mk (some 78) (AK.pick (AX.t 69) (AX.t 77) (AX.c (PV.val (Value.bool false)))) (some (66, false)) 29 false true), (AOp.mk (some 79) (AK.pick (AX.t 66) (AX.c (PV.val (Value.bool true))) (AX.t 78)) none 30 false true)]) (AC.cond (AX.t 79) (AC.seq (AC.ops [(AOp.mk (some 4) (AK.mv (AX.c (PV.val (Value.bool false)))) none 0 false true)]) AC.ret) AC.skip)) (AC.seq (AC.ops [(AOp.mk (some 80) (AK.ld (some 2) (AX.t 2)) none 0 false true), (AOp.mk (some 81) (AK.call 47 [(AX.t 80)]) none 1 false true), (AOp.mk (some 11) (AK.mv (AX.t 81)) none 2 false true)]) (AC.seq (AC.seq (AC.ops [(AOp.mk (some 82) (AK.mv (AX.t 11)) none 0 false true), (AOp.mk (some 83) (AK.len (AX.t 82)) none 1 false true), (AOp.mk (some 84) (AK.fadr 1 (AX.t 2)) none 2 false true), (AOp.mk (some 85) (AK.ld none (AX.t 84)) none 3 false true), (AOp.mk (some 86) (AK.len (AX.t 85)) none 4 false true), (AOp.mk (some 87) (AK.bin false BinOp.neq (AX.t 83) (AX.t 86)) none 5 false true)]) (AC.cond (AX.t 87) (AC.seq (AC.ops [(AOp.mk (some 4) (AK.mv (AX.c (PV.val (Value.bool false)))) none 0 false true)]) AC.ret) AC.skip)) (AC.seq (AC.seq (AC.ops [(AOp.mk (some 88) (AK.mv (AX.t 7)) none 0 false true), (AOp.mk (some 89) (AK.bin false BinOp.eql (AX.t 88) (AX.c (PV.val (Value.int IntKind.i64 0)))) none 1 false true), (AOp.mk (some 90) (AK.mv (AX.t 89)) none 2 false true), (AOp.mk (some 91) (AK.mv (AX.t 5)) (some (90, true)) 3 false true), (AOp.mk (some 92) (AK.mv (AX.t 6)) (some (90, true)) 4 false true), (AOp.mk (some 93) (AK.bin false BinOp.sub (AX.t 92) (AX.c (PV.val (Value.int IntKind.i64 1)))) (some (90, true)) 5 false true), (AOp.mk (some 94) (AK.call 45 [(AX.t 91), (AX.c (PV.val (Value.int IntKind.i64 0))), (AX.t 93)]) (some (90, true)) 6 false true), (AOp.mk (some 95) (AK.un UnOp.not (AX.t 94)) (some (90, true)) 7 false true), (AOp.mk (some 96) (AK.mv (AX.t 95)) (some (90, true)) 8 false true), (AOp.mk (some 97) (AK.mv (AX.t 6)) (some (96, false)) 9 false true), (AOp.mk (some 98) (AK.mv (AX.t 11)) (some (96, false)) 10 false true), (AOp.mk (some 99) (AK.len (AX.t 98)) (some (96, false)) 11 false true), (AOp.mk (some 100) (AK.bin false BinOp.geq (AX.t 97) (AX.t 99)) (some (96, false)) 12 false true), (AOp.mk (some 101) (AK.pick (AX.t 96) (AX.c (PV.val (Value.bool true))) (AX.t 100)) (some (90, true)) 13 false true), (AOp.mk (some 102) (AK.mv (AX.t 101)) (some (90, true)) 14 false true), (AOp.mk (some 103) (AK.mv (AX.t 11)) (some (102, false)) 15 false true), (AOp.mk (some 104) (AK.mv (AX.t 5)) (some (102, false)) 16 false true), (AOp.mk (some 105) (AK.iadrS 1 (AX.t 103) (AX.t 104)) (some (102, false)) 17 false true), (AOp.mk (some 106) (AK.ld none (AX.t 105)) (some (102, false)) 18 false true), (AOp.mk (some 107) (AK.mv (AX.t 6)) (some (102, false)) 19 false true), (AOp.mk (some 108) (AK.iadrS 1 (AX.t 106) (AX.t 107)) (some (102, false)) 20 false true), (AOp.mk (some 109) (AK.ld none (AX.t 108)) (some (102, false)) 21 false true), (AOp.mk (some 110) (AK.bin false BinOp.lss (AX.t 109) (AX.c (PV.val (Value.int IntKind.i64 1)))) (some (102, false)) 22 false true), (AOp.mk (some 111) (AK.pick (AX.t 102) (AX.c (PV.val (Value.bool true))) (AX.t 110)) (some (90, true)) 23 false true), (AOp.mk (some 112) (AK.pick (AX.t 90) (AX.t 111) (AX.c (PV.val (Value.bool false)))) none 24 false true), (AOp.mk (some 113) (AK.mv (AX.t 112)) none 25 false true), (AOp.mk (some 114) (AK.mv (AX.t 10)) (some (113, false)) 26 false true), (AOp.mk (some 115) (AK.bin false BinOp.eql (AX.t 114) (AX.c (PV.val (Value.int IntKind.i64 0)))) (some (113, false)) 27 false true), (AOp.mk (some 116) (AK.mv (AX.t 115)) (some (113, false)) 28 false true), (AOp.mk (some 117) (AK.mv (AX.t 8)) (some (116, true)) 29 false true), (AOp.mk (some 118) (AK.mv (AX.t 9)) (some (116, true)) 30 false true), (AOp.mk (some 119) (AK.bin false BinOp.sub (AX.t 118) (AX.c (PV.val (Value.int IntKind.i64 1)))) (some (116, true)) 31 false true), (AOp.mk (some 120) (AK.call 45 [(AX.t 117), (AX.c (PV.val (Value.int IntKind.i64 0))), (AX.t 119)]) (some (116, true)) 32 false true), (AOp.mk (some 121) (AK.un UnOp.not (AX.t 120)) (some (116, true)) 33 false true), (AOp.mk (some 122) (AK.mv (AX.t 121)) (some (116, true)) 34 false true), (AOp.mk (some 123) (AK.mv (AX.t 9)) (some (122, false)) 35 false true), (AOp.mk (some 124) (AK.mv (AX.t 11)) (some (122, false)) 36 false true), (AOp.mk (some 125) (AK.len (AX.t 124)) (some (122, false)) 37 false true), (AOp.mk (some 126) (AK.bin false BinOp.geq (AX.t 123) (AX.t 125)) (some (122, false)) 38 false true), (AOp.mk (some 127) (AK.pick (AX.t 122) (AX.c (PV.val (Value.bool true))) (AX.t 126)) (some (116, true)) 39 false true), (AOp.mk (some 128) (AK.mv (AX.t 127)) (some (116, true)) 40 false true), (AOp.mk (some 129) (AK.mv (AX.t 11)) (some (128, false)) 41 false true), (AOp.mk (some 130) (AK.mv (AX.t 8)) (some (128, false)) 42 false true), (AOp.mk (some 131) (AK.iadrS 1 (AX.t 129) (AX.t 130)) (some (128, false)) 43 false true), (AOp.mk (some 132) (AK.ld none (AX.t 131)) (some (128, false)) 44 false true), (AOp.mk (some 133) (AK.mv (AX.t 9)) (some (128, false)) 45 false true), (AOp.mk (some 134) (AK.iadrS 1 (AX.t 132) (AX.t 133)) (some (128, false)) 46 false true), (AOp.mk (some 135) (AK.ld none (AX.t 134)) (some (128, false)) 47 false true), (AOp.mk (some 136) (AK.bin false BinOp.neq (AX.t 135) (AX.c (PV.val (Value.int IntKind.i64 2)))) (some (128, false)) 48 false true), (AOp.mk (some 137) (AK.pick (AX.t 128) (AX.c (PV.val (Value.bool true))) (AX.t 136)) (some (116, true)) 49 false true), (AOp.mk (some 138) (AK.pick (AX.t 116) (AX.t 137) (AX.c (PV.val (Value.bool false)))) (some (113, false)) 50 false true), (AOp.mk (some 139) (AK.pick (AX.t 113) (AX.c (PV.val (Value.bool true))) (AX.t 138)) none 51 false true)]) (AC.cond (AX.t 139) (AC.seq (AC.ops [(AOp.mk (some 4) (AK.mv (AX.c (PV.val (Value.bool false)))) none 0 false true)]) AC.ret) AC.skip)) (AC.seq (AC.seq (AC.ops [(AOp.mk (some 140) (AK.mv (AX.t 11)) none 0 false true), (AOp.mk (some 141) (AK.len (AX.t 140)) none 1 false true), (AOp.mk (some 142) (AK.bin false BinOp.lss (AX.t 141) (AX.c (PV.val (Value.int IntKind.i64 2)))) none 2 false true)]) (AC.cond (AX.t 142) (AC.seq (AC.ops [(AOp.mk (some 143) (AK.mv (AX.t 7)) none 0 false true), (AOp.mk (some 144) (AK.bin false BinOp.eql (AX.t 143) (AX.c (PV.val (Value.int IntKind.i64 4)))) none 1 false true), (AOp.mk (some 145) (AK.mv (AX.t 144)) none 2 false true), (AOp.mk (some 146) (AK.call 25 []) (some (145, true)) 3 false true), (AOp.mk (some 147) (AK.pick (AX.t 145) (AX.t 146) (AX.c (PV.val (Value.bool false)))) none 4 false true), (AOp.mk (some 4) (AK.mv (AX.t 147)) none 5 false true)]) AC.ret) AC.skip)) (AC.seq (AC.ops [(AOp.mk (some 149) (AK.ld (some 2) (AX.t 2)) none 0 false true), (AOp.mk (some 150) (AK.iadrA 1 2 (AX.t 3) (AX.c (PV.val (Value.int IntKind.i64 0)))) none 1 false true), (AOp.mk (some 151) (AK.ld none (AX.t 150)) none 2 false true), (AOp.mk (some 152) (AK.iadrA 1 2 (AX.t 3) (AX.c (PV.val (Value.int IntKind.i64 1)))) none 3 false true), (AOp.mk (some 153) (AK.ld none (AX.t 152)) none 4 false true), (AOp.mk (some 154) (AK.call 44 [(AX.t 149), (AX.t 151), (AX.t 153)]) none 5 false true), (AOp.mk (some 148) (AK.mv (AX.t 154)) none 6 false true), (AOp.mk (some 155) (AK.ext (AX.t 148) 0) none 7 false true), (AOp.mk (some 156) (AK.ext (AX.t 148) 1) none 8 false true), (AOp.mk (some 12) (AK.mv (AX.t 155)) none 9 false true), (AOp.mk (some 13) (AK.mv (AX.t 156)) none 10 false true)]) (AC.seq (AC.ops [(AOp.mk (some 157) (AK.mv (AX.t 12)) none 0 false true), (AOp.mk (some 158) (AK.mv (AX.t 13)) none 1 false true), (AOp.mk (some 159) (AK.mx false [(AX.t 157), (AX.t 158)]) none 2 false true), (AOp.mk (some 160) (AK.mv (AX.t 12)) none 3 false true), (AOp.mk (some 161) (AK.mv (AX.t 13)) none 4 false true), (AOp.mk (some 162) (AK.mx true [(AX.t 160), (AX.t 161)]) none 5 false true), (AOp.mk (some 12) (AK.mv (AX.t 159)) none 6 false true), (AOp.mk (some 13) (AK.mv (AX.t 162)) none 7 false true)]) (AC.seq (AC.seq (AC.ops [(AOp.mk (some 163) (AK.mv (AX.t 11)) none 0 false true), (AOp.mk (some 164) (AK.mv (AX.t 12)) none 1 false true), (AOp.mk (some 165) (AK.iadrS 1 (AX.t 163) (AX.t 164)) none 2 false true), (AOp.mk (some 166) (AK.ld none (AX.t 165)) none 3 false true), (AOp.mk (some 167) (AK.mv (AX.t 13)) none 4 false true), (AOp.mk (some 168) (AK.iadrS 1 (AX.t 166) (AX.t 167)) none 5 false true), (AOp.mk (some 169) (AK.ld none (AX.t 168)) none 6 false true), (AOp.mk (some 170) (AK.bin false BinOp.gtr (AX.t 169) (AX.c (PV.val (Value.int IntKind.i64 0)))) none 7 false true), (AOp.mk (some 171) (AK.mv (AX.t 170)) none 8 false true), (AOp.mk (some 172) (AK.mv (AX.t 7)) (some (171, true)) 9 false true), (AOp.mk (some 173) (AK.bin false BinOp.neq (AX.t 172) (AX.c (PV.val (Value.int IntKind.i64 0)))) (some (171, true)) 10 false true), (AOp.mk (some 174) (AK.mv (AX.t 173)) (some (171, true)) 11 false true), (AOp.mk (some 175) (AK.mv (AX.t 5)) (some (174, false)) 12 false true), (AOp.mk (some 176) (AK.mv (AX.t 12)) (some (174, false)) 13 false true), (AOp.mk (some 177) (AK.bin false BinOp.gtr (AX.t 175) (AX.t 176)) (some (174, false)) 14 false true), (AOp.mk (some 178) (AK.pick (AX.t 174) (AX.c (PV.val (Value.bool true))) (AX.t 177)) (some (171, true)) 15 false true), (AOp.mk (some 179) (AK.mv (AX.t 178)) (some (171, true)) 16 false true), (AOp.mk (some 180) (AK.mv (AX.t 5)) (some (179, false)) 17 false true), (AOp.mk (some 181) (AK.mv (AX.t 12)) (some (179, false)) 18 false true), (AOp.mk (some 182) (AK.bin false BinOp.eql (AX.t 180) (AX.t 181)) (some (179, false)) 19 false true), (AOp.mk (some 183) (AK.mv (AX.t 182)) (some (179, false)) 20 false true), (AOp.mk (some 184) (AK.mv (AX.t 6)) (some (183, true)) 21 false true), (AOp.mk (some 185) (AK.mv (AX.t 13)) (some (183, true)) 22 false true), (AOp.mk (some 186) (AK.bin false BinOp.gtr (AX.t 184) (AX.t 185)) (some (183, true)) 23 false true), (AOp.mk (some 187) (AK.pick (AX.t 183) (AX.t 186) (AX.c (PV.val (Value.bool false)))) (some (179, false)) 24 false true), (AOp.mk (some 188) (AK.pick (AX.t 179) (AX.c (PV.val (Value.bool true))) (AX.t 187)) (some (171, true)) 25 false true), (AOp.mk (some 189) (AK.pick (AX.t 171) (AX.t 188) (AX.c (PV.val (Value.bool false)))) none 26 false true), (AOp.mk (some 190) (AK.mv (AX.t 189)) none 27 false true), (AOp.mk (some 191) (AK.mv (AX.t 11)) (some (190, false)) 28 false true), (AOp.mk (some 192) (AK.mv (AX.t 12)) (some (190, false)) 29 false true), (AOp.mk (some 193) (AK.iadrS 1 (AX.t 191) (AX.t 192)) (some (190, false)) 30 false true), (AOp.mk (some 194) (AK.ld none (AX.t 193)) (some (190, false)) 31 false true), (AOp.mk (some 195) (AK.mv (AX.t 13)) (some (190, false)) 32 false true), (AOp.mk (some 196) (AK.iadrS 1 (AX.t 194) (AX.t 195)) (some (190, false)) 33 false true), (AOp.mk (some 197) (AK.ld none (AX.t 196)) (some (190, false)) 34 false true), (AOp.mk (some 198) (AK.bin false BinOp.eql (AX.t 197) (AX.c (PV.val (Value.int IntKind.i64 2)))) (some (190, false)) 35 false true), (AOp.mk (some 199) (AK.mv (AX.t 198)) (some (190, false)) 36 false true), (AOp.mk (some 200) (AK.mv (AX.t 10)) (some (199, true)) 37 false true), (AOp.mk (some 201) (AK.bin false BinOp.neq (AX.t 200) (AX.c (PV.val (Value.int IntKind.i64 0)))) (some (199, true)) 38 false true), (AOp.mk (some 202) (AK.mv (AX.t 201)) (some (199, true)) 39 false true), (AOp.mk (some 203) (AK.mv (AX.t 8)) (some (202, false)) 40 false true), (AOp.mk (some 204) (AK.mv (AX.t 12)) (some (202, false)) 41 false true), (AOp.mk (some 205) (AK.bin false BinOp.gtr (AX.t 203) (AX.t 204)) (some (202, false)) 42 false true), (AOp.mk (some 206) (AK.pick (AX.t 202) (AX.c (PV.val (Value.bool true))) (AX.t 205)) (some (199, true)) 43 false true), (AOp.mk (some 207) (AK.mv (AX.t 206)) (some (199, true)) 44 false true), (AOp.mk (some 208) (AK.mv (AX.t 8)) (some (207, false)) 45 false true), (AOp.mk (some 209) (AK.mv (AX.t 12)) (some (207, false)) 46 false true), (AOp.mk (some 210) (AK.bin false BinOp.eql (AX.t 208) (AX.t 209)) (some (207, false)) 47 false true), (AOp.mk (some 211) (AK.mv (AX.t 210)) (some (207, false)) 48 false true), (AOp.mk (some 212) (AK.mv (AX.t 9)) (some (211, true)) 49 false true), (AOp.mk (some 213) (AK.mv (AX.t 13)) (some (211, true)) 50 false true), (AOp.mk (some 214) (AK.bin false BinOp.gtr (AX.t 212) (AX.t 213)) (some (211, true)) 51 false true), (AOp.mk (some 215) (AK.pick (AX.t 211) (AX.t 214) (AX.c (PV.val (Value.bool false)))) (some (207, false)) 52 false true), (AOp.mk (some 216) (AK.pick (AX.t 207) (AX.c (PV.val (Value.bool true))) (AX.t 215)) (some (199, true)) 53 false true), (AOp.mk (some 217) (AK.pick (AX.t 199) (AX.t 216) (AX.c (PV.val (Value.bool false)))) (some (190, false)) 54 false true), (AOp.mk (some 218) (AK.pick (AX.t 190) (AX.c (PV.val (Value.bool true))) (AX.t 217)) none 55 false true)]) (AC.cond (AX.t 218) (AC.seq (AC.ops [(AOp.mk (some 4) (AK.mv (AX.c (PV.val (Value.bool false)))) none 0 false true)]) AC.ret) AC.skip)) (AC.seq (AC.ops [(AOp.mk (some 219) (AK.call 25 []) none 0 false true), (AOp.mk (some 4) (AK.mv (AX.t 219)) none 1 false true)]) AC.ret)))))))))))))
theorem ac8_ok : cCode Try.prog (fun _ => false) Try.f8.ntmps (Try.f8.body.getD .skip) = some ac8 := by kernel_rfl
theorem Clash_bad (k : SK) {b : DBook} (ho : ¬ okBook b) : Sem1 30 [.agg (bookC k b)] (.tup [pi 0, pi 0, pi 70]) :=
  (Clash_sem k b).mono fun _ e => e.trans (by unfold twoE; rw [if_neg ho])
theorem Sure_bad (k : SK) {b : DBook} (ho : ¬ okBook b) : Sem1 32 [.agg (bookC k b)] (.tup [pi 0, pi 0, pi 70]) :=
  (Sure_sem k b).mono fun _ e => e.trans (by unfold twoE; rw [if_neg ho])
/-- What is told of the first two. -/
structure FirstT (b : DBook) (P : Nat → Nat → Bool) (x y e : Int) : Prop where
  none : e = 4 → x = 0 ∧ y = 0 ∧ ∀ p q, p < q → q < b.horses.length → P p q = false
  some : e = 0 → ∃ i k : Nat, x = i ∧ y = k ∧ i < k ∧ k < b.horses.length ∧ P i k = true ∧ ∀ p q, p < q → q < b.horses.length → (p < i ∨ p = i ∧ q < k) → P p q = false
  one : e = 4 ∨ e = 0
theorem twoE_first {b : DBook} (ho : okBook b) (P : Nat → Nat → Bool) : ∃ x y e, twoE b ((listsL b.horses.length 2).find? (pairP P)) = .tup [pi x, pi y, pi e] ∧ FirstT b P x y e := by
  unfold twoE
  rw [if_pos ho]
  cases h : (listsL b.horses.length 2).find? (pairP P) with
  | none => exact ⟨0, 0, 4, rfl, fun _ => ⟨rfl, rfl, fun p q hp hq => pair_none h hp hq⟩, fun h => by omega, .inl rfl⟩
  | some l =>
    obtain ⟨i, k, rfl, h1, h2, h3, h4⟩ := pair_some h
    exact ⟨i, k, 0, rfl, fun h => by omega, fun _ => ⟨i, k, rfl, rfl, h1, h2, h3, h4⟩, .inr rfl⟩
theorem kinds_at {b : DBook} {i : Nat} (h : i < b.horses.length) : iadrS' 1 (.p (.sl .sh 1 (rowsC (kindsL b b.horses.length)))) (.p (pi i)) = some (.p (.ptr [pis (kindR b i b.horses.length)] 0)) := by
  have hl : i < (kindsL b b.horses.length).length := by rw [kindsL_len]; exact h
  have e := iadr_map (f := fun h => [pis h]) (kd := .sh) (sz := 1) hl
  rw [e]
  simp [kindsL]
theorem kind_at {b : DBook} {i q : Nat} (hq : q < b.horses.length) (hne : q ≠ i) : iadrS' 1 (.p (pis (kindR b i b.horses.length))) (.p (pi q)) = some (.p (.ptr [pi (sameI b i q)] 0)) := by
  have hl : q < (kindR b i b.horses.length).length := by rw [kindR_len]; exact hq
  rw [iadr_pis hl]
  simp [kindR, kindJ, hne]
theorem min_max {h o n : Nat} (hh : h < n) (hoo : o < n) (hne : h ≠ o) : ∃ p q : Nat, maxI false (h : Int) o = p ∧ maxI true (h : Int) o = q ∧ p < q ∧ q < n := by
  unfold maxI
  simp only [if_true, Bool.false_eq_true, if_false]
  rcases Nat.lt_or_ge h o with hlt | hge
  · refine ⟨h, o, ?_, ?_, hlt, hoo⟩
    · split <;> omega
    · split <;> omega
  · refine ⟨o, h, ?_, ?_, by omega, hh⟩
    · split <;> omega
    · split <;> omega
set_option maxRecDepth 100000 in
set_option maxHeartbeats 2000000 in
theorem Clash_law (k : SK) (b : DBook) (n m : Int) : Sem1 8 [.agg (bookC k b), .agg [pi n, pi m]] (pb true) := by
  by_cases ho : okBook b
  rotate_left
  · refine semC_of_exec' mixed Try.func8 (by kernel_rfl) (by kernel_rfl) ac8_ok 2 rfl (by decide) [(.tmp 4)] (by kernel_rfl) ?_
    intro hr C hC hI
    unfold ac8
    simp only [go_sem, Nat.reduceBEq, Nat.reduceAdd]
    refine call_pure2 hC (Clash_bad k ho) rfl (PVleL_refl _) ?_
    rintro r rfl
    simp only [go_sem, Nat.reduceBEq, Nat.reduceAdd]
    refine call_pure2 hC (Sure_bad k ho) rfl (PVleL_refl _) ?_
    rintro r rfl
    simp only [go_sem, Nat.reduceBEq, Nat.reduceAdd]
    refine call_pure2 hC (sound_sem k b) rfl (PVleL_refl _) ?_
    rintro r rfl
    simp only [go_sem, Nat.reduceBEq, decide_true, not_false_eq_true, Int.reduceEq, show IntKind.i64.wrap (0 + 0) = 0 from rfl]
    refine ⟨fun _ => ?_, fun h => absurd h ho⟩
    refine call_pure2 hC (pressed_sem) rfl (PVleL_refl _) ?_
    rintro r rfl
    simp only [go_sem, Nat.reduceBEq]
    exact retQ_one rfl rfl
  obtain ⟨h1, h8, hn⟩ := okR ho
  have h6 := ho.2.1
  obtain ⟨x, y, e, hce, hc⟩ := twoE_first ho fun i j => decide (sameI b i j ≠ 0)
  obtain ⟨x', y', e', hse, hs⟩ := twoE_first ho fun i j => decide (sameI b i j = 2)
  have hC1 := (Clash_sem k b).mono fun _ e => e.trans hce
  have hS1 := (Sure_sem k b).mono fun _ e => e.trans hse
  have hrg := fun p q => same_range ho p q
  have w00 : IntKind.i64.wrap (0 + 0) = 0 := rfl
  have hkl : (kindsL b b.horses.length).length = b.horses.length := kindsL_len ..
  have hks := kinds_sem k ho
  rcases hc.one with rfl | rfl
  · obtain ⟨rfl, rfl, hcn⟩ := hc.none rfl
    rcases hs.one with rfl | rfl
    rotate_left
    · obtain ⟨i, q, -, -, h3, h4, h5, -⟩ := hs.some rfl
      have := hcn i q h3 h4
      simp at this h5
      omega
    obtain ⟨rfl, rfl, hsn⟩ := hs.none rfl
    refine semC_of_exec' mixed Try.func8 (by kernel_rfl) (by kernel_rfl) ac8_ok 2 rfl (by decide) [(.tmp 4)] (by kernel_rfl) ?_
    intro hr C hC hI
    unfold ac8
    simp only [go_sem, Nat.reduceBEq, Nat.reduceAdd]
    refine call_pure2 hC (hC1) rfl (PVleL_refl _) ?_
    rintro r rfl
    simp only [go_sem, Nat.reduceBEq, Nat.reduceAdd]
    refine call_pure2 hC (hS1) rfl (PVleL_refl _) ?_
    rintro r rfl
    simp only [go_sem, Nat.reduceBEq, Nat.reduceAdd]
    refine call_pure2 hC (sound_sem k b) rfl (PVleL_refl _) ?_
    rintro r rfl
    simp only [go_sem, Nat.reduceBEq, Nat.reduceAdd, decide_true, decide_false, not_true_eq_false, not_false_eq_true, Int.reduceEq, w00]
    refine ⟨fun h => absurd ho h, fun _ => ?_⟩
    refine call_pure2 hC (hks) rfl (PVleL_refl _) ?_
    rintro r rfl
    simp only [go_sem, Nat.reduceBEq, Nat.reduceAdd, List.length_map, hkl, decide_true, decide_false, not_true_eq_false, Int.reduceEq]
    refine ⟨fun h2 => ?_, fun h2 => ?_⟩
    · refine call_pure2 hC (pressed_sem) rfl (PVleL_refl _) ?_
      rintro r rfl
      simp only [go_sem, Nat.reduceBEq]
      exact retQ_one rfl rfl
    obtain ⟨h, o, e1, e2, hh, hoo, hne⟩ := two_range (b := b) (by omega) n m
    obtain ⟨P, Q, eP, eQ, hPQ, hQ⟩ := min_max hh hoo hne
    have hK0 : sameI b P Q = 0 := by have := hcn P Q hPQ hQ; simpa using this
    refine call_pure2 hC (two_sem k ho (by omega) n m) rfl (PVleL_refl _) ?_
    rintro r rfl
    simp only [go_sem, Nat.reduceBEq, e1, e2, eP, eQ, kinds_at (show P < b.horses.length by omega), kind_at hQ (show Q ≠ P by omega), hK0, decide_false, Int.reduceEq, Int.reduceLT]
    refine call_pure2 hC (pressed_sem) rfl (PVleL_refl _) ?_
    rintro r rfl
    simp only [go_sem, Nat.reduceBEq]
    exact retQ_one rfl rfl
  · obtain ⟨i, q, rfl, rfl, h3, h4, h5, h6'⟩ := hc.some rfl
    have hn0 : sameI b i q ≠ 0 := of_decide_eq_true h5
    have hiq := hrg i q
    have hmin : ∀ P Q, P < Q → Q < b.horses.length → sameI b P Q ≠ 0 → ¬ (P < i ∨ P = i ∧ Q < q) := fun P Q h1 h2 h3 h4 => by have := h6' P Q h1 h2 h4; simp at this; exact h3 this
    rcases hs.one with rfl | rfl
    · obtain ⟨rfl, rfl, hsn⟩ := hs.none rfl
      refine semC_of_exec' mixed Try.func8 (by kernel_rfl) (by kernel_rfl) ac8_ok 2 rfl (by decide) [(.tmp 4)] (by kernel_rfl) ?_
      intro hr C hC hI
      unfold ac8
      simp only [go_sem, Nat.reduceBEq, Nat.reduceAdd]
      refine call_pure2 hC (hC1) rfl (PVleL_refl _) ?_
      rintro r rfl
      simp only [go_sem, Nat.reduceBEq, Nat.reduceAdd]
      refine call_pure2 hC (hS1) rfl (PVleL_refl _) ?_
      rintro r rfl
      simp only [go_sem, Nat.reduceBEq, Nat.reduceAdd]
      refine call_pure2 hC (sound_sem k b) rfl (PVleL_refl _) ?_
      rintro r rfl
      simp only [go_sem, Nat.reduceBEq, Nat.reduceAdd, decide_true, decide_false, not_true_eq_false, not_false_eq_true, Int.reduceEq, w00]
      refine ⟨fun h => absurd ho h, fun _ => ?_⟩
      refine call_pure2 hC (hks) rfl (PVleL_refl _) ?_
      rintro r rfl
      simp only [go_sem, Nat.reduceBEq, List.length_map, hkl, decide_true, decide_false, not_true_eq_false, wrap_id (n := (q : Int) - 1) (by omega) (by omega)]
      have hd2 : (sameI b i q < 1) = False := eq_false (by omega)
      have hd1 : ((b.horses.length : Int) ≤ q) = False := eq_false (by omega)
      have hd3 : ((b.horses.length : Int) < 2) = False := eq_false (by omega)
      refine call_pure2 hC (In_sem ..) rfl (PVleL_refl _) ?_
      rintro r rfl
      simp only [go_sem, Nat.reduceBEq, Nat.reduceAdd, decide_eq_true (show (0 : Int) ≤ (i : Int) ∧ (i : Int) ≤ (q : Int) - 1 by omega), decide_false, Int.reduceEq, List.length_map, hkl, kinds_at (show i < b.horses.length by omega), kind_at h4 (show q ≠ i by omega), hd1, hd2, hd3]
      obtain ⟨h, o, e1, e2, hh, hoo, hne⟩ := two_range (b := b) (by omega) n m
      obtain ⟨P, Q, eP, eQ, hPQ, hQ⟩ := min_max hh hoo hne
      have hK2 : sameI b P Q ≠ 2 := by have := hsn P Q hPQ hQ; simpa using this
      have hKm := hmin P Q hPQ hQ
      have hKr := hrg P Q
      refine call_pure2 hC (two_sem k ho (by omega) n m) rfl (PVleL_refl _) ?_
      rintro r rfl
      simp only [go_sem, Nat.reduceBEq, e1, e2, eP, eQ, kinds_at (show P < b.horses.length by omega), kind_at hQ (show Q ≠ P by omega), decide_true, decide_false, not_true_eq_false, not_false_eq_true, Int.reduceEq]
      repeat' (first | (exfalso; omega) | (guard_target =~ _ ∧ _; refine ⟨fun _ => ?_, fun _ => ?_⟩))
      · refine call_pure2 hC (pressed_sem) rfl (PVleL_refl _) ?_
        rintro r rfl
        simp only [go_sem, Nat.reduceBEq]
        exact retQ_one rfl rfl
      · refine call_pure2 hC (pressed_sem) rfl (PVleL_refl _) ?_
        rintro r rfl
        simp only [go_sem, Nat.reduceBEq]
        exact retQ_one rfl rfl
      · refine call_pure2 hC (pressed_sem) rfl (PVleL_refl _) ?_
        rintro r rfl
        simp only [go_sem, Nat.reduceBEq]
        exact retQ_one rfl rfl
    · obtain ⟨i', q', rfl, rfl, g3, g4, g5, g6⟩ := hs.some rfl
      have hn2 : sameI b i' q' = 2 := of_decide_eq_true g5
      have hmin2 : ∀ P Q, P < Q → Q < b.horses.length → sameI b P Q = 2 → ¬ (P < i' ∨ P = i' ∧ Q < q') := fun P Q h1 h2 h3 h4 => by have := g6 P Q h1 h2 h4; simp at this; exact this h3
      refine semC_of_exec' mixed Try.func8 (by kernel_rfl) (by kernel_rfl) ac8_ok 2 rfl (by decide) [(.tmp 4)] (by kernel_rfl) ?_
      intro hr C hC hI
      unfold ac8
      simp only [go_sem, Nat.reduceBEq, Nat.reduceAdd]
      refine call_pure2 hC (hC1) rfl (PVleL_refl _) ?_
      rintro r rfl
      simp only [go_sem, Nat.reduceBEq, Nat.reduceAdd]
      refine call_pure2 hC (hS1) rfl (PVleL_refl _) ?_
      rintro r rfl
      simp only [go_sem, Nat.reduceBEq, Nat.reduceAdd]
      refine call_pure2 hC (sound_sem k b) rfl (PVleL_refl _) ?_
      rintro r rfl
      simp only [go_sem, Nat.reduceBEq, Nat.reduceAdd, decide_false, not_true_eq_false, Int.reduceEq]
      refine ⟨fun h => absurd ho h, fun _ => ?_⟩
      refine call_pure2 hC (hks) rfl (PVleL_refl _) ?_
      rintro r rfl
      simp only [go_sem, Nat.reduceBEq, List.length_map, hkl, decide_true, decide_false, not_true_eq_false, wrap_id (n := (q : Int) - 1) (by omega) (by omega)]
      have hd2 : (sameI b i q < 1) = False := eq_false (by omega)
      have hd1 : ((b.horses.length : Int) ≤ q) = False := eq_false (by omega)
      have hd3 : ((b.horses.length : Int) < 2) = False := eq_false (by omega)
      have hd4 : ((b.horses.length : Int) ≤ q') = False := eq_false (by omega)
      refine call_pure2 hC (In_sem ..) rfl (PVleL_refl _) ?_
      rintro r rfl
      simp only [go_sem, Nat.reduceBEq, decide_eq_true (show (0 : Int) ≤ (i : Int) ∧ (i : Int) ≤ (q : Int) - 1 by omega), decide_true, decide_false, List.length_map, hkl, kinds_at (show i < b.horses.length by omega), kind_at h4 (show q ≠ i by omega), hd1, hd2, wrap_id (n := (q' : Int) - 1) (by omega) (by omega)]
      refine call_pure2 hC (In_sem ..) rfl (PVleL_refl _) ?_
      rintro r rfl
      simp only [go_sem, Nat.reduceBEq, Nat.reduceAdd, decide_eq_true (show (0 : Int) ≤ (i' : Int) ∧ (i' : Int) ≤ (q' : Int) - 1 by omega), decide_false, not_true_eq_false, List.length_map, hkl, kinds_at (show i' < b.horses.length by omega), kind_at g4 (show q' ≠ i' by omega), hd4, hn2, hd3]
      obtain ⟨h, o, e1, e2, hh, hoo, hne⟩ := two_range (b := b) (by omega) n m
      obtain ⟨P, Q, eP, eQ, hPQ, hQ⟩ := min_max hh hoo hne
      have hK2 := hmin2 P Q hPQ hQ
      have hKm := hmin P Q hPQ hQ
      have hKr := hrg P Q
      refine call_pure2 hC (two_sem k ho (by omega) n m) rfl (PVleL_refl _) ?_
      rintro r rfl
      simp only [go_sem, Nat.reduceBEq, e1, e2, eP, eQ, kinds_at (show P < b.horses.length by omega), kind_at hQ (show Q ≠ P by omega), decide_false, not_true_eq_false]
      repeat' (first | (exfalso; omega) | (guard_target =~ _ ∧ _; refine ⟨fun _ => ?_, fun _ => ?_⟩))
      · refine call_pure2 hC (pressed_sem) rfl (PVleL_refl _) ?_
        rintro r rfl
        simp only [go_sem, Nat.reduceBEq]
        exact retQ_one rfl rfl
      · refine call_pure2 hC (pressed_sem) rfl (PVleL_refl _) ?_
        rintro r rfl
        simp only [go_sem, Nat.reduceBEq]
        exact retQ_one rfl rfl
      · refine call_pure2 hC (pressed_sem) rfl (PVleL_refl _) ?_
        rintro r rfl
        simp only [go_sem, Nat.reduceBEq]
        exact retQ_one rfl rfl
      · refine call_pure2 hC (pressed_sem) rfl (PVleL_refl _) ?_
        rintro r rfl
        simp only [go_sem, Nat.reduceBEq]
        exact retQ_one rfl rfl
      · refine call_pure2 hC (pressed_sem) rfl (PVleL_refl _) ?_
        rintro r rfl
        simp only [go_sem, Nat.reduceBEq]
        exact retQ_one rfl rfl
      · refine call_pure2 hC (pressed_sem) rfl (PVleL_refl _) ?_
        rintro r rfl
        simp only [go_sem, Nat.reduceBEq]
        exact retQ_one rfl rfl
      · refine call_pure2 hC (pressed_sem) rfl (PVleL_refl _) ?_
        rintro r rfl
        simp only [go_sem, Nat.reduceBEq]
        exact retQ_one rfl rfl
set_option maxRecDepth 100000 in
theorem Clash_row {l0 l1 : List PV} (T0 : Ty Try.prog 10 24 l0) (T1 : Ty Try.prog 10 25 l1) : SemC Try.prog 8 [argPV Try.prog 24 l0, argPV Try.prog 25 l1] (fun r => r = pb true) := by
  obtain ⟨b, rfl⟩ := ty_book T0
  obtain ⟨n0, n1, rfl⟩ := ty_two T1
  rw [argStruct Try.underlying24, argArray Try.underlying25]
  exact Clash_law .sh b n0 n1
end Go.Proofs.Ythibnlfbdbidjaa
namespace Go.Proofs.Ythibnlfbdbidjaa
open Go.RowKit
def ac52 : AC := (AC.seq (AC.ops [(AOp.mk (some 4) (AK.mv (AX.c (PV.val (Value.bool false)))) none 0 false true)]) (AC.seq (AC.seq (AC.ops [(AOp.mk (some 5) (AK.mv (AX.c (PV.val (Value.int IntKind.i64 0)))) none 0 false true)]) (AC.block 0 (AC.loop (AC.seq (AC.seq (AC.ops [(AOp.mk (some 7) (AK.mv (AX.t 5)) none 0 false true), (AOp.mk (some 8) (AK.mv (AX.t 0)) none 1 false true), (AOp.mk (some 9) (AK.len (AX.t 8)) none 2 false true), (AOp.mk (some 10) (AK.bin false BinOp.lss (AX.t 7) (AX.t 9)) none 3 false true)]) (AC.cond (AX.t 10) AC.skip (AC.exit 0))) (AC.seq (AC.block 1 (AC.seq (AC.ops [(AOp.mk (some 13) (AK.mv (AX.t 5)) none 0 false true), (AOp.mk (some 14) (AK.bin false BinOp.add (AX.t 13) (AX.c (PV.val (Value.int IntKind.i64 1)))) none 1 false true), (AOp.mk (some 6) (AK.mv (AX.t 14)) none 2 false true)]) (AC.block 2 (AC.loop (AC.seq (AC.seq (AC.ops [(AOp.mk (some 15) (AK.mv (AX.t 6)) none 0 false true), (AOp.mk (some 16) (AK.mv (AX.t 0)) none 1 false true), (AOp.mk (some 17) (AK.len (AX.t 16)) none 2 false true), (AOp.mk (some 18) (AK.bin false BinOp.lss (AX.t 15) (AX.t 17)) none 3 false true)]) (AC.cond (AX.t 18) AC.skip (AC.exit 2))) (AC.seq (AC.block 3 (AC.seq (AC.ops [(AOp.mk (some 21) (AK.mv (AX.t 1)) none 0 false true), (AOp.mk (some 22) (AK.mv (AX.t 5)) none 1 false true), (AOp.mk (some 23) (AK.call 42 [(AX.t 21), (AX.t 22)]) none 2 false true), (AOp.mk (some 24) (AK.bin false BinOp.lss (AX.t 23) (AX.c (PV.val (Value.int IntKind.i64 0)))) none 3 false true), (AOp.mk (some 25) (AK.mv (AX.t 24)) none 4 false true), (AOp.mk (some 26) (AK.mv (AX.t 1)) (some (25, true)) 5 false true), (AOp.mk (some 27) (AK.mv (AX.t 6)) (some (25, true)) 6 false true), (AOp.mk (some 28) (AK.call 42 [(AX.t 26), (AX.t 27)]) (some (25, true)) 7 false true), (AOp.mk (some 29) (AK.bin false BinOp.lss (AX.t 28) (AX.c (PV.val (Value.int IntKind.i64 0)))) (some (25, true)) 8 false true), (AOp.mk (some 30) (AK.pick (AX.t 25) (AX.t 29) (AX.c (PV.val (Value.bool false)))) none 9 false true), (AOp.mk (some 31) (AK.mv (AX.t 30)) none 10 false true), (AOp.mk (some 32) (AK.mv (AX.t 0)) (some (31, true)) 11 false true), (AOp.mk (some 33) (AK.mv (AX.t 5)) (some (31, true)) 12 false true), (AOp.mk (some 34) (AK.iadrS 1 (AX.t 32) (AX.t 33)) (some (31, true)) 13 false true), (AOp.mk (some 35) (AK.ld none (AX.t 34)) (some (31, true)) 14 false true), (AOp.mk (some 36) (AK.mv (AX.t 6)) (some (31, true)) 15 false true), (AOp.mk (some 37) (AK.iadrS 1 (AX.t 35) (AX.t 36)) (some (31, true)) 16 false true), (AOp.mk (some 38) (AK.ld none (AX.t 37)) (some (31, true)) 17 false true), (AOp.mk (some 39) (AK.bin false BinOp.gtr (AX.t 38) (AX.c (PV.val (Value.int IntKind.i64 0)))) (some (31, true)) 18 false true), (AOp.mk (some 40) (AK.pick (AX.t 31) (AX.t 39) (AX.c (PV.val (Value.bool false)))) none 19 false true)]) (AC.cond (AX.t 40) (AC.seq (AC.ops [(AOp.mk (some 4) (AK.mv (AX.c (PV.val (Value.bool false)))) none 0 false true)]) AC.ret) AC.skip))) (AC.ops [(AOp.mk (some 19) (AK.mv (AX.t 6)) none 0 false true), (AOp.mk (some 20) (AK.bin false BinOp.add (AX.t 19) (AX.c (PV.val (Value.int IntKind.i64 1)))) none 1 false true), (AOp.mk (some 6) (AK.mv (AX.t 20)) none 2 false true)]))))))) (AC.ops [(AOp.mk (some 11) (AK.mv (AX.t 5)) none 0 false true), (AOp.mk (some 12) (AK.bin false BinOp.add (AX.t 11) (AX.c (PV.val (Value.int IntKind.i64 1)))) none 1 false true), (AOp.mk (some 5) (AK.mv (AX.t 12)) none 2 false true)])))))) (AC.seq (AC.ops [(AOp.mk (some 4) (AK.mv (AX.c (PV.val (Value.bool true)))) none 0 false true)]) AC.ret)))
theorem ac52_ok : cCode Try.prog (fun _ => false) Try.f52.ntmps (Try.f52.body.getD .skip) = some ac52 := by kernel_rfl
def ac12 : AC := (AC.seq (AC.ops [(AOp.mk (some 2) (AK.box 2 (AX.t 0)) none 0 false true), (AOp.mk (some 4) (AK.mv (AX.c (PV.val (Value.bool false)))) none 1 false true)]) (AC.seq (AC.ops [(AOp.mk (some 13) (AK.ld (some 2) (AX.t 2)) none 0 false true), (AOp.mk (some 14) (AK.call 34 [(AX.t 13)]) none 1 false true), (AOp.mk (some 12) (AK.mv (AX.t 14)) none 2 false true), (AOp.mk (some 15) (AK.ext (AX.t 12) 0) none 3 false true), (AOp.mk (some 16) (AK.ext (AX.t 12) 1) none 4 false true), (AOp.mk (some 5) (AK.mv (AX.t 15)) none 5 false true), (AOp.mk (some 6) (AK.mv (AX.t 16)) none 6 false true)]) (AC.seq (AC.seq (AC.ops [(AOp.mk (some 17) (AK.ld (some 2) (AX.t 2)) none 0 false true), (AOp.mk (some 18) (AK.call 38 [(AX.t 17)]) none 1 false true), (AOp.mk (some 19) (AK.un UnOp.not (AX.t 18)) none 2 false true)]) (AC.cond (AX.t 19) (AC.seq (AC.ops [(AOp.mk (some 20) (AK.mv (AX.t 6)) none 0 false true), (AOp.mk (some 21) (AK.bin false BinOp.eql (AX.t 20) (AX.c (PV.val (Value.int IntKind.i64 70)))) none 1 false true), (AOp.mk (some 22) (AK.mv (AX.t 21)) none 2 false true), (AOp.mk (some 23) (AK.mv (AX.t 5)) (some (22, true)) 3 false true), (AOp.mk (some 24) (AK.len (AX.t 23)) (some (22, true)) 4 false true), (AOp.mk (some 25) (AK.bin false BinOp.eql (AX.t 24) (AX.c (PV.val (Value.int IntKind.i64 0)))) (some (22, true)) 5 false true), (AOp.mk (some 26) (AK.pick (AX.t 22) (AX.t 25) (AX.c (PV.val (Value.bool false)))) none 6 false true), (AOp.mk (some 27) (AK.mv (AX.t 26)) none 7 false true), (AOp.mk (some 28) (AK.call 25 []) (some (27, true)) 8 false true), (AOp.mk (some 29) (AK.pick (AX.t 27) (AX.t 28) (AX.c (PV.val (Value.bool false)))) none 9 false true), (AOp.mk (some 4) (AK.mv (AX.t 29)) none 10 false true)]) AC.ret) AC.skip)) (AC.seq (AC.ops [(AOp.mk (some 30) (AK.ld (some 2) (AX.t 2)) none 0 false true), (AOp.mk (some 31) (AK.call 47 [(AX.t 30)]) none 1 false true), (AOp.mk (some 7) (AK.mv (AX.t 31)) none 2 false true)]) (AC.seq (AC.ops [(AOp.mk (some 33) (AK.ld (some 2) (AX.t 2)) none 0 false true), (AOp.mk (some 34) (AK.call 30 [(AX.t 33)]) none 1 false true), (AOp.mk (some 32) (AK.mv (AX.t 34)) none 2 false true), (AOp.mk (some 35) (AK.ext (AX.t 32) 0) none 3 false true), (AOp.mk (some 36) (AK.ext (AX.t 32) 1) none 4 false true), (AOp.mk (some 37) (AK.ext (AX.t 32) 2) none 5 false true), (AOp.mk (some 8) (AK.mv (AX.t 35)) none 6 false true), (AOp.mk (some 9) (AK.mv (AX.t 36)) none 7 false true), (AOp.mk (some 10) (AK.mv (AX.t 37)) none 8 false true)]) (AC.seq (AC.seq (AC.ops [(AOp.mk (some 38) (AK.mv (AX.t 6)) none 0 false true), (AOp.mk (some 39) (AK.bin false BinOp.neq (AX.t 38) (AX.c (PV.val (Value.int IntKind.i64 0)))) none 1 false true), (AOp.mk (some 40) (AK.mv (AX.t 39)) none 2 false true), (AOp.mk (some 41) (AK.mv (AX.t 7)) (some (40, false)) 3 false true), (AOp.mk (some 42) (AK.len (AX.t 41)) (some (40, false)) 4 false true), (AOp.mk (some 43) (AK.fadr 1 (AX.t 2)) (some (40, false)) 5 false true), (AOp.mk (some 44) (AK.ld none (AX.t 43)) (some (40, false)) 6 false true), (AOp.mk (some 45) (AK.len (AX.t 44)) (some (40, false)) 7 false true), (AOp.mk (some 46) (AK.bin false BinOp.neq (AX.t 42) (AX.t 45)) (some (40, false)) 8 false true), (AOp.mk (some 47) (AK.pick (AX.t 40) (AX.c (PV.val (Value.bool true))) (AX.t 46)) none 9 false true), (AOp.mk (some 48) (AK.mv (AX.t 47)) none 10 false true), (AOp.mk (some 49) (AK.mv (AX.t 5)) (some (48, false)) 11 false true), (AOp.mk (some 50) (AK.mv (AX.t 7)) (some (48, false)) 12 false true), (AOp.mk (some 51) (AK.len (AX.t 50)) (some (48, false)) 13 false true), (AOp.mk (some 52) (AK.call 41 [(AX.t 49), (AX.t 51)]) (some (48, false)) 14 false true), (AOp.mk (some 53) (AK.un UnOp.not (AX.t 52)) (some (48, false)) 15 false true), (AOp.mk (some 54) (AK.pick (AX.t 48) (AX.c (PV.val (Value.bool true))) (AX.t 53)) none 16 false true), (AOp.mk (some 55) (AK.mv (AX.t 54)) none 17 false true), (AOp.mk (some 56) (AK.mv (AX.t 5)) (some (55, false)) 18 false true), (AOp.mk (some 57) (AK.len (AX.t 56)) (some (55, false)) 19 false true), (AOp.mk (some 58) (AK.bin false BinOp.eql (AX.t 57) (AX.c (PV.val (Value.int IntKind.i64 0)))) (some (55, false)) 20 false true), (AOp.mk (some 59) (AK.mv (AX.t 10)) (some (55, false)) 21 false true), (AOp.mk (some 60) (AK.bin false BinOp.eql (AX.t 59) (AX.c (PV.val (Value.int IntKind.i64 4)))) (some (55, false)) 22 false true), (AOp.mk (some 61) (AK.bin true BinOp.neq (AX.t 58) (AX.t 60)) (some (55, false)) 23 false true), (AOp.mk (some 62) (AK.pick (AX.t 55) (AX.c (PV.val (Value.bool true))) (AX.t 61)) none 24 false true), (AOp.mk (some 63) (AK.mv (AX.t 62)) none 25 false true), (AOp.mk (some 64) (AK.mv (AX.t 7)) (some (63, false)) 26 false true), (AOp.mk (some 65) (AK.mv (AX.t 5)) (some (63, false)) 27 false true), (AOp.mk (some 66) (AK.call 52 [(AX.t 64), (AX.t 65)]) (some (63, false)) 28 false true), (AOp.mk (some 67) (AK.un UnOp.not (AX.t 66)) (some (63, false)) 29 false true), (AOp.mk (some 68) (AK.pick (AX.t 63) (AX.c (PV.val (Value.bool true))) (AX.t 67)) none 30 false true)]) (AC.cond (AX.t 68) (AC.seq (AC.ops [(AOp.mk (some 4) (AK.mv (AX.c (PV.val (Value.bool false)))) none 0 false true)]) AC.ret) AC.skip)) (AC.seq (AC.ops [(AOp.mk (some 69) (AK.mv (AX.t 1)) none 0 false true), (AOp.mk (some 70) (AK.mv (AX.t 7)) none 1 false true), (AOp.mk (some 71) (AK.len (AX.t 70)) none 2 false true), (AOp.mk (some 72) (AK.bin false BinOp.shl (AX.c (PV.val (Value.int IntKind.i64 1))) (AX.t 71)) none 3 false true), (AOp.mk (some 73) (AK.call 46 [(AX.t 69), (AX.t 72)]) none 4 false true), (AOp.mk (some 74) (AK.mv (AX.t 7)) none 5 false true), (AOp.mk (some 75) (AK.len (AX.t 74)) none 6 false true), (AOp.mk (some 76) (AK.call 48 [(AX.t 73), (AX.t 75)]) none 7 false true), (AOp.mk (some 11) (AK.mv (AX.t 76)) none 8 false true)]) (AC.seq (AC.ops [(AOp.mk (some 77) (AK.mv (AX.t 11)) none 0 false true), (AOp.mk (some 78) (AK.mv (AX.t 5)) none 1 false true), (AOp.mk (some 79) (AK.call 53 [(AX.t 77), (AX.t 78)]) none 2 false true), (AOp.mk (some 80) (AK.un UnOp.not (AX.t 79)) none 3 false true), (AOp.mk (some 81) (AK.mv (AX.t 80)) none 4 false true), (AOp.mk (some 82) (AK.mv (AX.t 7)) (some (81, false)) 5 false true), (AOp.mk (some 83) (AK.mv (AX.t 11)) (some (81, false)) 6 false true), (AOp.mk (some 84) (AK.call 52 [(AX.t 82), (AX.t 83)]) (some (81, false)) 7 false true), (AOp.mk (some 85) (AK.un UnOp.not (AX.t 84)) (some (81, false)) 8 false true), (AOp.mk (some 86) (AK.pick (AX.t 81) (AX.c (PV.val (Value.bool true))) (AX.t 85)) none 9 false true), (AOp.mk (some 87) (AK.mv (AX.t 86)) none 10 false true), (AOp.mk (some 88) (AK.call 25 []) (some (87, true)) 11 false true), (AOp.mk (some 89) (AK.pick (AX.t 87) (AX.t 88) (AX.c (PV.val (Value.bool false)))) none 12 false true), (AOp.mk (some 4) (AK.mv (AX.t 89)) none 13 false true)]) AC.ret))))))))
theorem ac12_ok : cCode Try.prog (fun _ => false) Try.f12.ntmps (Try.f12.body.getD .skip) = some ac12 := by kernel_rfl
theorem apart_sem {b : DBook} (ho : okBook b) (l : List Int) : Sem1 52 [.sl .sh 1 (rowsC (kindsL b b.horses.length)), pis l] (pb (ridP b l)) := by
  have h6 := ho.2.1
  have hkl : (kindsL b b.horses.length).length = b.horses.length := kindsL_len ..
  have hrg := fun p q => same_range ho p q
  refine semC_of_exec' mixed Try.func52 (by kernel_rfl) (by kernel_rfl) ac52_ok 2 rfl (by decide) [(.tmp 4)] (by kernel_rfl) ?_
  intro hr C hC hI
  unfold ac52
  simp only [go_sem]
  refine loop_k b.horses.length (fun i => ∀ i' q : Nat, i' < i → i' < q → q < b.horses.length → leftP b l i' q = false) [0, 1] (fun i => [(5, .p (pi i))]) (fun i' q h => absurd h (by omega)) rfl ⟨rfl, by simp, by simp⟩ (by simp [wkT, look, AV.lo]) ?_
  rintro i ⟨hi, hok⟩
  simp only [go_sem, Nat.reduceBEq, List.length_map, hkl]
  refine ⟨fun h5 => ?_, fun h5 => ?_⟩
  · have hi2 : i < b.horses.length := by omega
    simp only [go_sem, wrap_succ (k := i) (by omega)]
    refine loop_k (b.horses.length - (i + 1)) (fun q => ∀ x : Nat, i < x → x < i + 1 + q → leftP b l i x = false) [0, 1, 5] (fun q => [(6, .p (pi ((i + 1 + q : Nat) : Int)))]) (fun x h1 h2 => absurd h1 (by omega)) rfl ⟨rfl, by simp, by simp⟩ (by simp [wkT, look, AV.lo]) ?_
    rintro q ⟨hq, hok2⟩
    simp only [go_sem, Nat.reduceBEq, List.length_map, hkl]
    refine ⟨fun h6 => ?_, fun h6 => ?_⟩
    · have hq2 : i + 1 + q < b.horses.length := by omega
      have hnx : IntKind.i64.wrap (((i + 1 + q : Nat) : Int) + 1) = ((i + 1 + (q + 1) : Nat) : Int) := wrap_succ (by omega)
      have hlp : leftP b l i (i + 1 + q) = (!decide ((i : Int) ∈ l) && !decide (((i + 1 + q : Nat) : Int) ∈ l) && decide (sameI b i (i + 1 + q) ≠ 0)) := rfl
      have hr := hrg i (i + 1 + q)
      have hstep : leftP b l i (i + 1 + q) = false → ∀ x : Nat, i < x → x < i + 1 + (q + 1) → leftP b l i x = false := fun hf x h1 h2 => by
        by_cases e : x = i + 1 + q
        · rw [e]; exact hf
        · exact hok2 x h1 (by omega)
      refine call_pure2 hC (Find_sem l i) rfl (PVleL_refl _) ?_
      rintro r ⟨i1, rfl, hi1⟩
      simp only [go_sem, Nat.reduceBEq, hnx]
      refine ⟨fun h7 => ?_, fun h7 => ?_⟩
      · have hn1 := hi1.1 h7
        refine call_pure2 hC (Find_sem l ((i + 1 + q : Nat) : Int)) rfl (PVleL_refl _) ?_
        rintro r ⟨i2, rfl, hi2b⟩
        simp only [go_sem, Nat.reduceBEq, hnx, kinds_at hi2, kind_at hq2 (show i + 1 + q ≠ i by omega)]
        refine ⟨fun h8 => ⟨fun h9 => ?_, fun h9 => ?_⟩, fun h8 => ?_⟩
        · have hn2 := hi2b.1 h8
          have hf : leftP b l i (i + 1 + q) = true := by
            rw [hlp, decide_eq_false hn1, decide_eq_false hn2, decide_eq_true (show sameI b i (i + 1 + q) ≠ 0 by omega)]; rfl
          have hrid : ridP b l = false := by
            rw [Bool.eq_false_iff]
            intro e
            rw [rid_iff.1 e i (i + 1 + q) (by omega) hq2] at hf
            cases hf
          rw [hrid]
          exact retQ_one rfl rfl
        · have hf : leftP b l i (i + 1 + q) = false := by
            rw [hlp, decide_eq_false (show ¬ sameI b i (i + 1 + q) ≠ 0 by omega), Bool.and_false]
          exact ⟨⟨q + 1, by omega, hstep hf⟩, by simp only; omega, by simp [Wk, wkT, wkL, look, AV.lo]⟩
        · have hm : ((i + 1 + q : Nat) : Int) ∈ l := Decidable.not_not.1 fun h => h8 (hi2b.2 h)
          have hf : leftP b l i (i + 1 + q) = false := by
            rw [hlp, decide_eq_true hm]
            simp
          exact ⟨⟨q + 1, by omega, hstep hf⟩, by simp only; omega, by simp [Wk, wkT, wkL, look, AV.lo]⟩
      · have hm : (i : Int) ∈ l := Decidable.not_not.1 fun h => h7 (hi1.2 h)
        have hf : leftP b l i (i + 1 + q) = false := by
          rw [hlp, decide_eq_true hm]
          simp
        exact ⟨⟨q + 1, by omega, hstep hf⟩, by simp only; omega, by simp [Wk, wkT, wkL, look, AV.lo]⟩
    · simp only [go_sem, wrap_succ (k := i) (by omega)]
      refine ⟨⟨i + 1, hi2, fun i' x h1 h2 h3 => ?_⟩, by simp only; omega, by simp [Wk, wkT, wkL, look, AV.lo]⟩
      by_cases e : i' = i
      · subst e; exact hok2 x h2 (by omega)
      · exact hok i' x (by omega) h2 h3
  · have hrid : ridP b l = true := rid_iff.2 fun i' q h1 h2 => hok i' q (by omega) h1 h2
    rw [hrid]
    exact retQ_one rfl rfl
theorem Drop_bad (k : SK) {b : DBook} (ho : ¬ okBook b) : Sem1 34 [.agg (bookC k b)] (.tup [pis [], pi 70]) :=
  (Drop_sem k b).mono fun _ e => e.trans (by rw [if_neg ho])
theorem Drop_ok (k : SK) {b : DBook} (ho : okBook b) : Sem1 34 [.agg (bookC k b)] (.tup [pis (dropI b), pi 0]) :=
  (Drop_sem k b).mono fun _ e => e.trans (by rw [if_pos ho])
theorem listI_grows (x : Int) (m : Nat) : growsI (listI x m) m := by
  refine ⟨listI_inc x m, fun y hy => ?_⟩
  unfold listI at hy
  obtain ⟨i, hi, rfl⟩ := List.mem_map.1 hy
  have := List.mem_range.1 (List.mem_filter.1 hi).1
  omega
set_option maxRecDepth 100000 in
theorem Drop_law (k : SK) (b : DBook) (n : Int) : Sem1 12 [.agg (bookC k b), pi n] (pb true) := by
  by_cases ho : okBook b
  rotate_left
  · refine semC_of_exec' mixed Try.func12 (by kernel_rfl) (by kernel_rfl) ac12_ok 2 rfl (by decide) [(.tmp 4)] (by kernel_rfl) ?_
    intro hr C hC hI
    unfold ac12
    simp only [go_sem, Nat.reduceBEq, Nat.reduceAdd]
    refine call_pure2 hC (Drop_bad k ho) rfl (PVleL_refl _) ?_
    rintro r rfl
    simp only [go_sem, Nat.reduceBEq, Nat.reduceAdd]
    refine call_pure2 hC (sound_sem k b) rfl (PVleL_refl _) ?_
    rintro r rfl
    simp only [go_sem, Nat.reduceBEq, Nat.reduceAdd, decide_true, List.length_nil, Int.natCast_zero]
    refine ⟨fun _ => ?_, fun h => absurd h ho⟩
    refine call_pure2 hC (pressed_sem) rfl (PVleL_refl _) ?_
    rintro r rfl
    simp only [go_sem, Nat.reduceBEq]
    exact retQ_one rfl rfl
  obtain ⟨h1, h8, hn⟩ := okR ho
  have h6 := ho.2.1
  obtain ⟨x, y, e, hce, hc⟩ := twoE_first ho fun i j => decide (sameI b i j ≠ 0)
  have hC1 := (Clash_sem k b).mono fun _ e => e.trans hce
  have hks := kinds_sem k ho
  have hkl : (kindsL b b.horses.length).length = b.horses.length := kindsL_len ..
  obtain ⟨g1, g2, g3⟩ := drop_facts b
  have hnil := drop_nil b
  have hD := Drop_ok k ho
  have hap := apart_sem ho (dropI b)
  rw [g2] at hap
  obtain ⟨d, hd⟩ : ∃ d, dropI b = d := ⟨_, rfl⟩
  rw [hd] at g1 g3 hnil hD hap
  have hee : decide ((d.length : Int) = 0) = decide (e = 4) := by
    refine decide_eq_decide.2 ⟨fun h => ?_, fun h => ?_⟩
    · have hd0 : d = [] := List.eq_nil_of_length_eq_zero (by omega)
      rcases hc.one with h4 | h0
      · exact h4
      · obtain ⟨i, q, -, -, h3, h4, h5, -⟩ := hc.some h0
        have := hnil.1 hd0 i q h3 h4
        simp at h5; omega
    · obtain ⟨-, -, h3⟩ := hc.none h
      rw [hnil.2 fun i q h4 h5 => by have := h3 i q h4 h5; simpa using this]
      rfl
  refine semC_of_exec' mixed Try.func12 (by kernel_rfl) (by kernel_rfl) ac12_ok 2 rfl (by decide) [(.tmp 4)] (by kernel_rfl) ?_
  intro hr C hC hI
  unfold ac12
  simp only [go_sem, Nat.reduceBEq, Nat.reduceAdd]
  refine call_pure2 hC (hD) rfl (PVleL_refl _) ?_
  rintro r rfl
  simp only [go_sem, Nat.reduceBEq, Nat.reduceAdd]
  refine call_pure2 hC (sound_sem k b) rfl (PVleL_refl _) ?_
  rintro r rfl
  simp only [go_sem, Nat.reduceBEq, Nat.reduceAdd, decide_false, Int.reduceEq]
  refine ⟨fun h => absurd ho h, fun _ => ?_⟩
  refine call_pure2 hC (hks) rfl (PVleL_refl _) ?_
  rintro r rfl
  simp only [go_sem, Nat.reduceBEq, Nat.reduceAdd]
  refine call_pure2 hC (hC1) rfl (PVleL_refl _) ?_
  rintro r rfl
  simp only [go_sem, Nat.reduceBEq, List.length_map, hkl, decide_false, not_true_eq_false]
  refine call_pure2 hC (Grows_sem d b.horses.length) rfl (PVleL_refl _) ?_
  rintro r ⟨t, rfl, ht⟩
  obtain rfl : t = true := ht.2 g1
  simp only [go_sem, Nat.reduceBEq, decide_false, not_true_eq_false, List.length_map, hee]
  refine call_pure2 hC (hap) rfl (PVleL_refl _) ?_
  rintro r rfl
  simp only [go_sem, Nat.reduceBEq, List.length_map, hkl, bin_shl (show ¬ (b.horses.length : Int) < 0 by omega)]
  refine call_pure2 hC (Round_sem ..) rfl (PVleL_refl _) ?_
  rintro r rfl
  simp only [go_sem, Nat.reduceBEq, List.length_map, hkl]
  refine call_pure2 hC (List_sem _ b.horses.length (by omega)) rfl (PVleL_refl _) ?_
  rintro r rfl
  simp only [go_sem, Nat.reduceBEq]
  refine call_pure2 hC (Shorter_sem ..) rfl (PVleL_refl _) ?_
  rintro r rfl
  simp only [go_sem, Nat.reduceBEq]
  obtain ⟨X, hX⟩ : ∃ X, rndI n (IntKind.i64.wrap (1 * 2 ^ min ((b.horses.length : Int)).toNat 64)) = X := ⟨_, rfl⟩
  rw [hX]
  have g4 := g3 (listI X b.horses.length) (listI_grows ..)
  have hap2 := apart_sem ho (listI X b.horses.length)
  cases hsh : shortB (listI X b.horses.length) d
  · simp only [go_sem, Nat.reduceBEq]
    refine call_pure2 hC (pressed_sem) rfl (PVleL_refl _) ?_
    rintro r rfl
    simp only [go_sem, Nat.reduceBEq]
    exact retQ_one rfl rfl
  · rw [g4 hsh] at hap2
    simp only [go_sem, Nat.reduceBEq]
    refine call_pure2 hC (hap2) rfl (PVleL_refl _) ?_
    rintro r rfl
    simp only [go_sem, Nat.reduceBEq]
    refine call_pure2 hC (pressed_sem) rfl (PVleL_refl _) ?_
    rintro r rfl
    simp only [go_sem, Nat.reduceBEq]
    exact retQ_one rfl rfl
set_option maxRecDepth 100000 in
theorem Drop_row {l0 l1 : List PV} (T0 : Ty Try.prog 10 24 l0) (T1 : Ty Try.prog 10 3 l1) : SemC Try.prog 12 [argPV Try.prog 24 l0, argPV Try.prog 3 l1] (fun r => r = pb true) := by
  obtain ⟨b, rfl⟩ := ty_book T0
  obtain ⟨n, rfl⟩ := tyInt uInt T1
  rw [argStruct Try.underlying24, argInt uInt]
  exact Drop_law .sh b n
end Go.Proofs.Ythibnlfbdbidjaa
