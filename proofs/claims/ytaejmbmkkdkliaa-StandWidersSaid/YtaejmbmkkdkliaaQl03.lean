/- StandMore. StandSign. -/
import Derived.Test.YtaejmbmkkdkliaaQl02
namespace Go.Proofs.Ytaejmbmkkdkliaa
open Go.RowKit
def ac10 : AC := (AC.seq (AC.ops [(AOp.mk (some 3) (AK.box 10 (AX.t 0)) none 0 false true), (AOp.mk (some 4) (AK.box 2 (AX.t 1)) none 1 false true), (AOp.mk (some 5) (AK.box 2 (AX.t 2)) none 2 false true), (AOp.mk (some 6) (AK.mv (AX.c (PV.val (Value.bool false)))) none 3 false true)]) (AC.seq (AC.seq (AC.ops [(AOp.mk (some 24) (AK.ld (some 10) (AX.t 3)) none 0 false true), (AOp.mk (some 25) (AK.call 38 [(AX.t 24)]) none 1 false true), (AOp.mk (some 26) (AK.un UnOp.not (AX.t 25)) none 2 false true), (AOp.mk (some 27) (AK.mv (AX.t 26)) none 3 false true), (AOp.mk (some 28) (AK.fadr 9 (AX.t 3)) (some (27, false)) 4 false true), (AOp.mk (some 29) (AK.ld none (AX.t 28)) (some (27, false)) 5 false true), (AOp.mk (some 30) (AK.len (AX.t 29)) (some (27, false)) 6 false true), (AOp.mk (some 31) (AK.bin false BinOp.eql (AX.t 30) (AX.c (PV.val (Value.int IntKind.i64 5)))) (some (27, false)) 7 false true), (AOp.mk (some 32) (AK.pick (AX.t 27) (AX.c (PV.val (Value.bool true))) (AX.t 31)) none 8 false true)]) (AC.cond (AX.t 32) (AC.seq (AC.ops [(AOp.mk (some 33) (AK.call 24 []) none 0 false true), (AOp.mk (some 6) (AK.mv (AX.t 33)) none 1 false true)]) AC.ret) AC.skip)) (AC.seq (AC.ops [(AOp.mk (some 34) (AK.iadrA 1 2 (AX.t 5) (AX.c (PV.val (Value.int IntKind.i64 0)))) none 0 true false), (AOp.mk (some 35) (AK.ld none (AX.t 34)) none 1 true false), (AOp.mk (some 36) (AK.fadr 8 (AX.t 3)) none 2 true false), (AOp.mk (some 37) (AK.ld none (AX.t 36)) none 3 true false), (AOp.mk (some 40) (AK.iadrA 1 2 (AX.t 5) (AX.c (PV.val (Value.int IntKind.i64 1)))) none 6 true false), (AOp.mk (some 41) (AK.ld none (AX.t 40)) none 7 true false), (AOp.mk (some 42) (AK.fadr 7 (AX.t 3)) none 8 true false), (AOp.mk (some 43) (AK.ld none (AX.t 42)) none 9 true false), (AOp.mk (some 44) (AK.bin false BinOp.mul (AX.c (PV.val (Value.int IntKind.i64 2))) (AX.t 43)) none 10 true false), (AOp.mk (some 45) (AK.bin false BinOp.add (AX.t 44) (AX.c (PV.val (Value.int IntKind.i64 1)))) none 11 true false), (AOp.mk (some 47) (AK.fadr 7 (AX.t 3)) none 13 true false), (AOp.mk (some 48) (AK.ld none (AX.t 47)) none 14 true false), (AOp.mk (some 38) (AK.call 41 [(AX.t 35), (AX.t 37)]) none 4 false false), (AOp.mk (some 39) (AK.bin false BinOp.add (AX.c (PV.val (Value.int IntKind.i64 1))) (AX.t 38)) none 5 true false), (AOp.mk (some 46) (AK.call 41 [(AX.t 41), (AX.t 45)]) none 12 false false), (AOp.mk (some 49) (AK.bin false BinOp.sub (AX.t 46) (AX.t 48)) none 15 true false), (AOp.mk (some 7) (AK.mv (AX.t 39)) none 16 true false), (AOp.mk (some 8) (AK.mv (AX.t 49)) none 17 true true)]) (AC.seq (AC.ops [(AOp.mk (some 50) (AK.ld (some 10) (AX.t 3)) none 0 false true), (AOp.mk (some 9) (AK.new (PV.agg [(PV.val (Value.int IntKind.i64 0)), (PV.val (Value.int IntKind.i64 0)), (PV.val (Value.int IntKind.i64 0)), (PV.val (Value.int IntKind.i64 0)), (PV.sl SK.full 0 []), (PV.val (Value.int IntKind.i64 0)), (PV.val (Value.int IntKind.i64 0)), (PV.val (Value.int IntKind.i64 0)), (PV.val (Value.int IntKind.i64 0)), (PV.sl SK.full 0 [])])) none 1 false true), (AOp.mk none (AK.st 10 (AX.t 9) (AX.t 50)) none 2 false true)]) (AC.seq (AC.ops [(AOp.mk (some 52) (AK.fadr 9 (AX.t 3)) none 1 true false), (AOp.mk (some 53) (AK.ld none (AX.t 52)) none 2 true false), (AOp.mk (some 55) (AK.iadrA 1 2 (AX.t 4) (AX.c (PV.val (Value.int IntKind.i64 0)))) none 4 true false), (AOp.mk (some 56) (AK.ld none (AX.t 55)) none 5 true false), (AOp.mk (some 57) (AK.fadr 8 (AX.t 3)) none 6 true false), (AOp.mk (some 58) (AK.ld none (AX.t 57)) none 7 true false), (AOp.mk (some 61) (AK.iadrA 1 2 (AX.t 4) (AX.c (PV.val (Value.int IntKind.i64 1)))) none 10 true false), (AOp.mk (some 62) (AK.ld none (AX.t 61)) none 11 true false), (AOp.mk (some 63) (AK.fadr 7 (AX.t 3)) none 12 true false), (AOp.mk (some 64) (AK.ld none (AX.t 63)) none 13 true false), (AOp.mk (some 65) (AK.bin false BinOp.mul (AX.c (PV.val (Value.int IntKind.i64 2))) (AX.t 64)) none 14 true false), (AOp.mk (some 66) (AK.bin false BinOp.add (AX.t 65) (AX.c (PV.val (Value.int IntKind.i64 1)))) none 15 true false), (AOp.mk (some 68) (AK.fadr 7 (AX.t 3)) none 17 true false), (AOp.mk (some 69) (AK.ld none (AX.t 68)) none 18 true false), (AOp.mk (some 71) (AK.iadrA 1 2 (AX.t 4) (AX.c (PV.val (Value.int IntKind.i64 0)))) none 20 true false), (AOp.mk (some 72) (AK.ld none (AX.t 71)) none 21 true false), (AOp.mk (some 73) (AK.bin false BinOp.rem (AX.t 72) (AX.c (PV.val (Value.int IntKind.i64 2)))) none 22 true false), (AOp.mk (some 74) (AK.bin false BinOp.eql (AX.t 73) (AX.c (PV.val (Value.int IntKind.i64 0)))) none 23 true false), (AOp.mk (some 51) (AK.bslice false 65 3 0 [(PV.val (Value.int IntKind.i64 0)), (PV.val (Value.int IntKind.i64 0)), (PV.val (Value.bool false))] []) none 0 false false), (AOp.mk (some 54) (AK.app false 65 3 24 [(PV.val (Value.int IntKind.i64 0)), (PV.val (Value.int IntKind.i64 0)), (PV.val (Value.bool false))] (AX.t 51) (AX.t 53)) none 3 false false), (AOp.mk (some 59) (AK.call 41 [(AX.t 56), (AX.t 58)]) none 8 false false), (AOp.mk (some 60) (AK.bin false BinOp.add (AX.c (PV.val (Value.int IntKind.i64 1))) (AX.t 59)) none 9 true false), (AOp.mk (some 67) (AK.call 41 [(AX.t 62), (AX.t 66)]) none 16 false false), (AOp.mk (some 70) (AK.bin false BinOp.sub (AX.t 67) (AX.t 69)) none 19 true false), (AOp.mk (some 75) (AK.call 47 [(AX.t 60), (AX.t 70), (AX.t 74)]) none 24 false false), (AOp.mk (some 76) (AK.bslice false 65 3 1 [(PV.val (Value.int IntKind.i64 0)), (PV.val (Value.int IntKind.i64 0)), (PV.val (Value.bool false))] [(0, (3, (AX.t 75)))]) none 25 false false), (AOp.mk (some 77) (AK.app false 65 3 24 [(PV.val (Value.int IntKind.i64 0)), (PV.val (Value.int IntKind.i64 0)), (PV.val (Value.bool false))] (AX.t 54) (AX.t 76)) none 26 false false), (AOp.mk (some 78) (AK.fadr 9 (AX.t 9)) none 27 true false), (AOp.mk none (AK.st 1 (AX.t 78) (AX.t 77)) none 28 false true)]) (AC.seq (AC.ops [(AOp.mk (some 80) (AK.ld (some 10) (AX.t 3)) none 0 false true), (AOp.mk (some 81) (AK.mv (AX.t 7)) none 1 false true), (AOp.mk (some 82) (AK.mv (AX.t 8)) none 2 false true), (AOp.mk (some 83) (AK.call 20 [(AX.t 80), (AX.t 81), (AX.t 82)]) none 3 false true), (AOp.mk (some 79) (AK.mv (AX.t 83)) none 4 false true), (AOp.mk (some 84) (AK.ext (AX.t 79) 0) none 5 false true), (AOp.mk (some 85) (AK.ext (AX.t 79) 1) none 6 false true), (AOp.mk (some 10) (AK.mv (AX.t 84)) none 7 false true), (AOp.mk (some 11) (AK.mv (AX.t 85)) none 8 false true)]) (AC.seq (AC.seq (AC.ops [(AOp.mk (some 86) (AK.mv (AX.t 11)) none 0 false true), (AOp.mk (some 87) (AK.bin false BinOp.neq (AX.t 86) (AX.c (PV.val (Value.int IntKind.i64 0)))) none 1 false true)]) (AC.cond (AX.t 87) (AC.seq (AC.ops [(AOp.mk (some 89) (AK.ld (some 10) (AX.t 9)) none 0 false true), (AOp.mk (some 90) (AK.mv (AX.t 7)) none 1 false true), (AOp.mk (some 91) (AK.mv (AX.t 8)) none 2 false true), (AOp.mk (some 92) (AK.call 20 [(AX.t 89), (AX.t 90), (AX.t 91)]) none 3 false true), (AOp.mk (some 88) (AK.mv (AX.t 92)) none 4 false true), (AOp.mk (some 93) (AK.ext (AX.t 88) 0) none 5 false true), (AOp.mk (some 94) (AK.ext (AX.t 88) 1) none 6 false true), (AOp.mk (some 12) (AK.mv (AX.t 93)) none 7 false true), (AOp.mk (some 13) (AK.mv (AX.t 94)) none 8 false true)]) (AC.seq (AC.ops [(AOp.mk (some 95) (AK.mv (AX.t 11)) none 0 false true), (AOp.mk (some 96) (AK.bin false BinOp.eql (AX.t 95) (AX.c (PV.val (Value.int IntKind.i64 22)))) none 1 false true), (AOp.mk (some 97) (AK.mv (AX.t 96)) none 2 false true), (AOp.mk (some 98) (AK.mv (AX.t 13)) (some (97, true)) 3 false true), (AOp.mk (some 99) (AK.mv (AX.t 11)) (some (97, true)) 4 false true), (AOp.mk (some 100) (AK.bin false BinOp.eql (AX.t 98) (AX.t 99)) (some (97, true)) 5 false true), (AOp.mk (some 101) (AK.pick (AX.t 97) (AX.t 100) (AX.c (PV.val (Value.bool false)))) none 6 false true), (AOp.mk (some 102) (AK.mv (AX.t 101)) none 7 false true), (AOp.mk (some 103) (AK.call 24 []) (some (102, true)) 8 false true), (AOp.mk (some 104) (AK.pick (AX.t 102) (AX.t 103) (AX.c (PV.val (Value.bool false)))) none 9 false true), (AOp.mk (some 6) (AK.mv (AX.t 104)) none 10 false true)]) AC.ret)) AC.skip)) (AC.seq (AC.ops [(AOp.mk (some 106) (AK.ld (some 10) (AX.t 9)) none 0 false true), (AOp.mk (some 107) (AK.mv (AX.t 7)) none 1 false true), (AOp.mk (some 108) (AK.mv (AX.t 8)) none 2 false true), (AOp.mk (some 109) (AK.call 20 [(AX.t 106), (AX.t 107), (AX.t 108)]) none 3 false true), (AOp.mk (some 105) (AK.mv (AX.t 109)) none 4 false true), (AOp.mk (some 110) (AK.ext (AX.t 105) 0) none 5 false true), (AOp.mk (some 111) (AK.ext (AX.t 105) 1) none 6 false true), (AOp.mk (some 14) (AK.mv (AX.t 110)) none 7 false true), (AOp.mk (some 15) (AK.mv (AX.t 111)) none 8 false true)]) (AC.seq (AC.seq (AC.ops [(AOp.mk (some 112) (AK.mv (AX.t 15)) none 0 false true), (AOp.mk (some 113) (AK.bin false BinOp.neq (AX.t 112) (AX.c (PV.val (Value.int IntKind.i64 0)))) none 1 false true)]) (AC.cond (AX.t 113) (AC.seq (AC.ops [(AOp.mk (some 114) (AK.mv (AX.t 15)) none 0 false true), (AOp.mk (some 115) (AK.bin false BinOp.eql (AX.t 114) (AX.c (PV.val (Value.int IntKind.i64 22)))) none 1 false true), (AOp.mk (some 116) (AK.mv (AX.t 115)) none 2 false true), (AOp.mk (some 117) (AK.call 24 []) (some (116, true)) 3 false true), (AOp.mk (some 118) (AK.pick (AX.t 116) (AX.t 117) (AX.c (PV.val (Value.bool false)))) none 4 false true), (AOp.mk (some 6) (AK.mv (AX.t 118)) none 5 false true)]) AC.ret) AC.skip)) (AC.seq (AC.ops [(AOp.mk (some 120) (AK.ld (some 10) (AX.t 3)) none 0 false true), (AOp.mk (some 121) (AK.mv (AX.t 7)) none 1 false true), (AOp.mk (some 122) (AK.mv (AX.t 8)) none 2 false true), (AOp.mk (some 123) (AK.call 22 [(AX.t 120), (AX.t 121), (AX.t 122)]) none 3 false true), (AOp.mk (some 119) (AK.mv (AX.t 123)) none 4 false true), (AOp.mk (some 124) (AK.ext (AX.t 119) 0) none 5 false true), (AOp.mk (some 125) (AK.ext (AX.t 119) 1) none 6 false true), (AOp.mk (some 16) (AK.new (PV.agg [(PV.val (Value.int IntKind.i64 0)), (PV.val (Value.int IntKind.i64 0))])) none 7 false true), (AOp.mk none (AK.st 2 (AX.t 16) (AX.t 124)) none 8 false true), (AOp.mk (some 17) (AK.mv (AX.t 125)) none 9 false true)]) (AC.seq (AC.ops [(AOp.mk (some 127) (AK.ld (some 10) (AX.t 9)) none 0 false true), (AOp.mk (some 128) (AK.mv (AX.t 7)) none 1 false true), (AOp.mk (some 129) (AK.mv (AX.t 8)) none 2 false true), (AOp.mk (some 130) (AK.call 22 [(AX.t 127), (AX.t 128), (AX.t 129)]) none 3 false true), (AOp.mk (some 126) (AK.mv (AX.t 130)) none 4 false true), (AOp.mk (some 131) (AK.ext (AX.t 126) 0) none 5 false true), (AOp.mk (some 132) (AK.ext (AX.t 126) 1) none 6 false true), (AOp.mk (some 18) (AK.new (PV.agg [(PV.val (Value.int IntKind.i64 0)), (PV.val (Value.int IntKind.i64 0))])) none 7 false true), (AOp.mk none (AK.st 2 (AX.t 18) (AX.t 131)) none 8 false true), (AOp.mk (some 19) (AK.mv (AX.t 132)) none 9 false true)]) (AC.seq (AC.ops [(AOp.mk (some 134) (AK.ld (some 10) (AX.t 3)) none 0 false true), (AOp.mk (some 135) (AK.mv (AX.t 7)) none 1 false true), (AOp.mk (some 136) (AK.call 25 [(AX.t 134), (AX.t 135)]) none 2 false true), (AOp.mk (some 133) (AK.mv (AX.t 136)) none 3 false true), (AOp.mk (some 137) (AK.ext (AX.t 133) 0) none 4 false true), (AOp.mk (some 138) (AK.ext (AX.t 133) 1) none 5 false true), (AOp.mk (some 20) (AK.mv (AX.t 137)) none 6 false true), (AOp.mk (some 21) (AK.mv (AX.t 138)) none 7 false true)]) (AC.seq (AC.ops [(AOp.mk (some 140) (AK.ld (some 10) (AX.t 9)) none 0 false true), (AOp.mk (some 141) (AK.mv (AX.t 7)) none 1 false true), (AOp.mk (some 142) (AK.call 25 [(AX.t 140), (AX.t 141)]) none 2 false true), (AOp.mk (some 139) (AK.mv (AX.t 142)) none 3 false true), (AOp.mk (some 143) (AK.ext (AX.t 139) 0) none 4 false true), (AOp.mk (some 144) (AK.ext (AX.t 139) 1) none 5 false true), (AOp.mk (some 22) (AK.mv (AX.t 143)) none 6 false true), (AOp.mk (some 23) (AK.mv (AX.t 144)) none 7 false true)]) (AC.seq (AC.ops [(AOp.mk (some 145) (AK.mv (AX.t 17)) none 0 false true), (AOp.mk (some 146) (AK.bin false BinOp.eql (AX.t 145) (AX.c (PV.val (Value.int IntKind.i64 0)))) none 1 false true), (AOp.mk (some 147) (AK.mv (AX.t 146)) none 2 false true), (AOp.mk (some 148) (AK.mv (AX.t 19)) (some (147, true)) 3 false true), (AOp.mk (some 149) (AK.bin false BinOp.eql (AX.t 148) (AX.c (PV.val (Value.int IntKind.i64 0)))) (some (147, true)) 4 false true), (AOp.mk (some 150) (AK.pick (AX.t 147) (AX.t 149) (AX.c (PV.val (Value.bool false)))) none 5 false true), (AOp.mk (some 151) (AK.mv (AX.t 150)) none 6 false true), (AOp.mk (some 152) (AK.mv (AX.t 21)) (some (151, true)) 7 false true), (AOp.mk (some 153) (AK.bin false BinOp.eql (AX.t 152) (AX.c (PV.val (Value.int IntKind.i64 0)))) (some (151, true)) 8 false true), (AOp.mk (some 154) (AK.pick (AX.t 151) (AX.t 153) (AX.c (PV.val (Value.bool false)))) none 9 false true), (AOp.mk (some 155) (AK.mv (AX.t 154)) none 10 false true), (AOp.mk (some 156) (AK.mv (AX.t 23)) (some (155, true)) 11 false true), (AOp.mk (some 157) (AK.bin false BinOp.eql (AX.t 156) (AX.c (PV.val (Value.int IntKind.i64 0)))) (some (155, true)) 12 false true), (AOp.mk (some 158) (AK.pick (AX.t 155) (AX.t 157) (AX.c (PV.val (Value.bool false)))) none 13 false true), (AOp.mk (some 159) (AK.mv (AX.t 158)) none 14 false true), (AOp.mk (some 160) (AK.mv (AX.t 10)) (some (159, true)) 15 false true), (AOp.mk (some 161) (AK.bin false BinOp.eql (AX.t 160) (AX.c (PV.val (Value.int IntKind.i64 1)))) (some (159, true)) 16 false true), (AOp.mk (some 162) (AK.mv (AX.t 161)) (some (159, true)) 17 false true), (AOp.mk (some 163) (AK.mv (AX.t 14)) (some (162, false)) 18 false true), (AOp.mk (some 164) (AK.mv (AX.t 10)) (some (162, false)) 19 false true), (AOp.mk (some 165) (AK.bin false BinOp.eql (AX.t 163) (AX.t 164)) (some (162, false)) 20 false true), (AOp.mk (some 166) (AK.pick (AX.t 162) (AX.c (PV.val (Value.bool true))) (AX.t 165)) (some (159, true)) 21 false true), (AOp.mk (some 167) (AK.pick (AX.t 159) (AX.t 166) (AX.c (PV.val (Value.bool false)))) none 22 false true), (AOp.mk (some 168) (AK.mv (AX.t 167)) none 23 false true), (AOp.mk (some 169) (AK.fadr 0 (AX.t 18)) (some (168, true)) 24 false true), (AOp.mk (some 170) (AK.ld none (AX.t 169)) (some (168, true)) 25 false true), (AOp.mk (some 171) (AK.fadr 1 (AX.t 16)) (some (168, true)) 26 false true), (AOp.mk (some 172) (AK.ld none (AX.t 171)) (some (168, true)) 27 false true), (AOp.mk (some 173) (AK.bin false BinOp.mul (AX.t 170) (AX.t 172)) (some (168, true)) 28 false true), (AOp.mk (some 174) (AK.fadr 0 (AX.t 16)) (some (168, true)) 29 false true), (AOp.mk (some 175) (AK.ld none (AX.t 174)) (some (168, true)) 30 false true), (AOp.mk (some 176) (AK.fadr 1 (AX.t 18)) (some (168, true)) 31 false true), (AOp.mk (some 177) (AK.ld none (AX.t 176)) (some (168, true)) 32 false true), (AOp.mk (some 178) (AK.bin false BinOp.mul (AX.t 175) (AX.t 177)) (some (168, true)) 33 false true), (AOp.mk (some 179) (AK.bin false BinOp.geq (AX.t 173) (AX.t 178)) (some (168, true)) 34 false true), (AOp.mk (some 180) (AK.pick (AX.t 168) (AX.t 179) (AX.c (PV.val (Value.bool false)))) none 35 false true), (AOp.mk (some 181) (AK.mv (AX.t 180)) none 36 false true), (AOp.mk (some 182) (AK.mv (AX.t 22)) (some (181, true)) 37 false true), (AOp.mk (some 183) (AK.mv (AX.t 182)) (some (181, true)) 38 false true), (AOp.mk (some 184) (AK.mv (AX.t 20)) (some (183, false)) 39 false true), (AOp.mk (some 185) (AK.un UnOp.not (AX.t 184)) (some (183, false)) 40 false true), (AOp.mk (some 186) (AK.pick (AX.t 183) (AX.c (PV.val (Value.bool true))) (AX.t 185)) (some (181, true)) 41 false true), (AOp.mk (some 187) (AK.pick (AX.t 181) (AX.t 186) (AX.c (PV.val (Value.bool false)))) none 42 false true), (AOp.mk (some 188) (AK.mv (AX.t 187)) none 43 false true), (AOp.mk (some 189) (AK.call 24 []) (some (188, true)) 44 false true), (AOp.mk (some 190) (AK.pick (AX.t 188) (AX.t 189) (AX.c (PV.val (Value.bool false)))) none 45 false true), (AOp.mk (some 6) (AK.mv (AX.t 190)) none 46 false true)]) AC.ret))))))))))))))
theorem ac10_ok : cCode Try.prog (fun _ => false) Try.f10.ntmps (Try.f10.body.getD .skip) = some ac10 := by kernel_rfl
theorem more_ok {b : SBook} (ho : okBook b) (h4 : b.trials.length ≤ 4) {t : STrial} (ht : okTrial b t) : okBook (moreB b t) := by
  obtain ⟨h1, h2, h3, -, h5, h6⟩ := ho
  refine ⟨h1, h2, h3, ?_, h5, fun u hu => ?_⟩
  · unfold moreB
    simp only [List.length_append, List.length_cons, List.length_nil]
    omega
  · unfold moreB at hu
    simp only [List.mem_append, List.mem_singleton] at hu
    rcases hu with hu | rfl
    · exact h6 u hu
    · exact ht
theorem more_answer {b : SBook} {t : STrial} {w n : Int} (hne : loadsI (moreB b t) ≠ []) : answerI b (loadsI b) w n = 1 ∨ answerI (moreB b t) (loadsI (moreB b t)) w n = answerI b (loadsI b) w n := by
  have hsub := more_loads b t
  unfold answerI
  by_cases h0 : countI b (loadsI b) w n = 0
  · right
    have h1 : countI (moreB b t) (loadsI (moreB b t)) w n = 0 := count_zero.2 fun l hl => count_zero.1 h0 l (hsub l hl)
    rw [if_pos h0, if_pos h1]
  · by_cases h2 : countI b (loadsI b) w n = (loadsI b).length
    · right
      have h3 : countI (moreB b t) (loadsI (moreB b t)) w n = (loadsI (moreB b t)).length := count_all.2 fun l hl => count_all.1 h2 l (hsub l hl)
      have h4 : 0 < (loadsI (moreB b t)).length := List.length_pos_iff.2 hne
      rw [if_neg h0, if_pos h2, if_neg (by omega), if_pos h3]
    · left
      rw [if_neg h0, if_neg h2]
theorem more_safe {b : SBook} (hl : 0 ≤ b.lean) {t : STrial} {w : Int} (h : safeI b (loadsI b) w = true) : safeI (moreB b t) (loadsI (moreB b t)) w = true := by
  rw [safeI_iff hl] at h
  exact (safeI_iff (b := moreB b t) hl).2 fun n h1 h2 l hl => h n h1 h2 l (more_loads b t l hl)
theorem seat_pos {b : SBook} (hb : Fit b) {w n : Int} (hw : 1 ≤ w) : ∀ l ∈ loadsI b, 1 ≤ (seatB b l w n).w := fun l hl => by
  have := loadsI_pos hb l hl
  show 1 ≤ l.w + w
  omega
theorem more_margin {b : SBook} (hb : Fit b) {t : STrial} {w n : Int} (hw : 1 ≤ w) (hne : loadsI (moreB b t) ≠ []) :
    (lmI b w n (loadsI b)).2.1 * (lmI (moreB b t) w n (loadsI (moreB b t))).2.2 ≤ (lmI (moreB b t) w n (loadsI (moreB b t))).2.1 * (lmI b w n (loadsI b)).2.2 := by
  have hsub := more_loads b t
  have hne2 : loadsI b ≠ [] := by
    obtain ⟨l, hl⟩ := List.exists_mem_of_ne_nil _ hne
    exact List.ne_nil_of_mem (hsub l hl)
  obtain ⟨-, -, h3⟩ := lmI_least (n := n) (seat_pos hb hw) hne2
  obtain ⟨-, ⟨l, hl, e⟩, -⟩ := lmI_least (b := moreB b t) (w := w) (n := n) (ls := loadsI (moreB b t)) (fun l hl => seat_pos hb hw l (hsub l hl)) hne
  rw [e]
  exact h3 l (hsub l hl)
set_option maxRecDepth 100000 in
theorem StandMore_law (b : SBook) (m0 m1 n0 n1 : Int) : Sem1 10 [.agg (bookC .sh .sh b), .agg [pi m0, pi m1], .agg [pi n0, pi n1]] (pb true) := by
  have e10 : iadrAS 1 2 (.loc 1 0) (.p (pi 0)) = some (.loc 1 0) := rfl
  have e11 : iadrAS 1 2 (.loc 1 0) (.p (pi 1)) = some (.loc 1 1) := rfl
  have e20 : iadrAS 1 2 (.loc 2 0) (.p (pi 0)) = some (.loc 2 0) := rfl
  have e21 : iadrAS 1 2 (.loc 2 0) (.p (pi 1)) = some (.loc 2 1) := rfl
  refine semC_of_exec' mixed Try.func10 (by kernel_rfl) (by kernel_rfl) ac10_ok 3 rfl (by decide) [(.tmp 6)] (by kernel_rfl) ?_
  intro hr C hC hI
  unfold ac10
  simp only [go_sem, Nat.reduceBEq, Nat.reduceAdd]
  refine call_pure2 hC (sound_sem ..) rfl (PVleL_refl _) ?_
  rintro r rfl
  simp only [go_sem, Nat.reduceBEq, List.length_map, e20, e21]
  refine ⟨fun ho => ⟨fun h4 => ?_, fun h4 => ?_⟩, fun _ => ?_⟩
  · refine call_pure2 hC (stood_sem) rfl (PVleL_refl _) ?_
    rintro r rfl
    simp only [go_sem, Nat.reduceBEq]
    exact retQ_one rfl rfl
  rotate_left
  · refine call_pure2 hC (stood_sem) rfl (PVleL_refl _) ?_
    rintro r rfl
    simp only [go_sem, Nat.reduceBEq]
    exact retQ_one rfl rfl
  have hg := ok_rng ho
  have ht4 : b.trials.length ≤ 4 := by have := ho.2.2.2.1; omega
  have r1 := rndI_range (n := n0) (m := b.limit) (by omega)
  have r2 := rndI_range (n := n1) (m := 2 * b.lean + 1) (by omega)
  have r3 := rndI_range (n := m0) (m := b.limit) (by omega)
  have r4 := rndI_range (n := m1) (m := 2 * b.lean + 1) (by omega)
  obtain ⟨w, hw⟩ : ∃ w, 1 + rndI n0 b.limit = w := ⟨_, rfl⟩
  obtain ⟨v, hv⟩ : ∃ v, rndI n1 (2 * b.lean + 1) - b.lean = v := ⟨_, rfl⟩
  obtain ⟨tw, htw⟩ : ∃ w, 1 + rndI m0 b.limit = w := ⟨_, rfl⟩
  obtain ⟨tn, htn⟩ : ∃ v, rndI m1 (2 * b.lean + 1) - b.lean = v := ⟨_, rfl⟩
  have hwr : 1 ≤ w ∧ w ≤ b.limit := by omega
  have hvr : -b.lean ≤ v ∧ v ≤ b.lean := by omega
  refine call_pure2 hC (Round_sem n0 b.limit) rfl (PVleL_refl _) ?_
  rintro r rfl
  simp only [go_sem, Nat.reduceBEq, hw, wrap_id (n := w) (by omega) (by omega), wrap_id (n := 2 * b.lean) (by omega) (by omega), wrap_id (n := 2 * b.lean + 1) (by omega) (by omega)]
  refine call_pure2 hC (Round_sem n1 (2 * b.lean + 1)) rfl (PVleL_refl _) ?_
  rintro r rfl
  simp only [go_sem, Nat.reduceBEq, Nat.reduceAdd, hv, wrap_id (n := v) (by omega) (by omega), e10, e11, putCells, bin_rem (k := .i64) (a := m0) (b := 2) (by decide), wrap_id (n := 2 * b.lean) (by omega) (by omega), wrap_id (n := 2 * b.lean + 1) (by omega) (by omega)]
  refine ⟨by rw [List.length_map]; omega, fun t1 _ => ?_⟩
  refine call_pure2 hC (Round_sem m0 b.limit) rfl (PVleL_refl _) ?_
  rintro r rfl
  simp only [go_sem, Nat.reduceBEq, htw, wrap_id (n := tw) (by omega) (by omega)]
  refine call_pure2 hC (Round_sem m1 (2 * b.lean + 1)) rfl (PVleL_refl _) ?_
  rintro r rfl
  simp only [go_sem, Nat.reduceBEq, htn, wrap_id (n := tn) (by omega) (by omega)]
  obtain ⟨tb, htb⟩ : ∃ tb, decide (m0.tmod 2 = 0) = tb := ⟨_, rfl⟩
  obtain ⟨T, hT⟩ : ∃ T : STrial, (⟨tw, tn, tb⟩ : STrial) = T := ⟨_, rfl⟩
  have he : List.map trialC b.trials ++ [[pi tw, pi tn, pb tb]] = (b.trials ++ [T]).map trialC := by rw [← hT]; simp [trialC]
  have hokx : okBook (moreB b T) := more_ok ho ht4 (by rw [← hT]; exact ⟨by simp only; omega, by simp only; omega⟩)
  rw [htb]
  refine call_pure2 hC (tried_sem tw tn tb) rfl (PVleL_refl _) ?_
  rintro r rfl
  simp only [go_sem, Nat.reduceBEq, Nat.reduceAdd, Nat.reduceLeDiff, Nat.reduceEqDiff]
  refine ⟨by rw [List.length_map]; omega, fun t2 _ => ?_⟩
  simp only [he]
  by_cases hF : truthL b = []
  · have hFx : truthL (moreB b T) = [] := by rw [more_truthL, hF]; rfl
    refine call_pure2 hC (Tips_F ho hF hwr hvr) rfl (PVleL_refl _) ?_
    rintro r rfl
    simp only [go_sem, Nat.reduceBEq, Nat.reduceAdd, decide_true, not_false_eq_true, Int.reduceEq]
    refine call_pure2 hC (Tips_F (k := .sh) (k2 := .own t2 65 3) hokx hFx hwr hvr) rfl (PVleL_refl _) ?_
    rintro r rfl
    simp only [go_sem, Nat.reduceBEq, decide_true]
    refine call_pure2 hC (stood_sem) rfl (PVleL_refl _) ?_
    rintro r rfl
    simp only [go_sem, Nat.reduceBEq]
    exact retQ_one rfl rfl
  refine call_pure2 hC (Tips_T ho hF hwr hvr) rfl (PVleL_refl _) ?_
  rintro r rfl
  simp only [go_sem, Nat.reduceBEq, Nat.reduceAdd, decide_false, not_true_eq_false]
  by_cases hFx : truthL (moreB b T) = []
  · refine call_pure2 hC (Tips_F (k := .sh) (k2 := .own t2 65 3) hokx hFx hwr hvr) rfl (PVleL_refl _) ?_
    rintro r rfl
    simp only [go_sem, Nat.reduceBEq, decide_true, not_false_eq_true, Int.reduceEq]
    refine call_pure2 hC (stood_sem) rfl (PVleL_refl _) ?_
    rintro r rfl
    simp only [go_sem, Nat.reduceBEq]
    exact retQ_one rfl rfl
  have hne : loadsI (moreB b T) ≠ [] := by unfold loadsI; simpa using hFx
  have hsm := lmI_b (w := w) (n := v) ho.fit.small (by omega) (by omega) (loadsI b) (loadsI_ok ho.fit)
  have hsx := lmI_b (w := w) (n := v) hokx.fit.small (by omega) (by omega) (loadsI (moreB b T)) (loadsI_ok hokx.fit)
  have hmar := more_margin (n := v) ho.fit hwr.1 hne
  have hans := more_answer (w := w) (n := v) hne
  have hsaf : safeI b (loadsI b) w = true → safeI (moreB b T) (loadsI (moreB b T)) w = true := more_safe hg.2.2.1
  refine call_pure2 hC (Tips_T (k := .sh) (k2 := .own t2 65 3) hokx hFx hwr hvr) rfl (PVleL_refl _) ?_
  rintro r rfl
  simp only [go_sem, Nat.reduceBEq, Nat.reduceAdd, decide_false, not_true_eq_false]
  have hM1 := Margin_T (k := .sh) (k2 := .sh) ho hF hwr hvr
  have hM2 := Margin_T (k := .sh) (k2 := .own t2 65 3) hokx hFx hwr hvr
  have hS1 := Safe_T (k := .sh) (k2 := .sh) ho hF hwr
  have hS2 := Safe_T (k := .sh) (k2 := .own t2 65 3) hokx hFx hwr
  obtain ⟨P, hP⟩ : ∃ P, (lmI b w v (loadsI b)).2 = P := ⟨_, rfl⟩
  obtain ⟨X, hX⟩ : ∃ X, (lmI (moreB b T) w v (loadsI (moreB b T))).2 = X := ⟨_, rfl⟩
  rw [hP] at hM1 hsm hmar
  rw [hX] at hM2 hsx hmar
  obtain ⟨⟨p1, p2⟩, p3, p4⟩ := hsm
  obtain ⟨⟨x1, x2⟩, x3, x4⟩ := hsx
  have k1 := mulb (a := X.1) (b := P.2) 1000000000 1000000 (by omega) (by omega)
  have k2 := mulb (a := P.1) (b := X.2) 1000000000 1000000 (by omega) (by omega)
  refine call_pure2 hC (hM1) rfl (PVleL_refl _) ?_
  rintro r rfl
  simp only [go_sem, Nat.reduceBEq, Nat.reduceAdd, putCells]
  refine call_pure2 hC hM2 rfl (PVleL_refl _) ?_
  rintro r rfl
  simp only [go_sem, Nat.reduceBEq, Nat.reduceAdd, putCells]
  refine call_pure2 hC (hS1) rfl (PVleL_refl _) ?_
  rintro r rfl
  simp only [go_sem, Nat.reduceBEq, Nat.reduceAdd]
  refine call_pure2 hC hS2 rfl (PVleL_refl _) ?_
  rintro r rfl
  obtain ⟨a1, ha1⟩ : ∃ a, answerI b (loadsI b) w v = a := ⟨_, rfl⟩
  obtain ⟨a2, ha2⟩ : ∃ a, answerI (moreB b T) (loadsI (moreB b T)) w v = a := ⟨_, rfl⟩
  rw [ha1, ha2] at hans
  obtain ⟨s1, hs1⟩ : ∃ a, safeI b (loadsI b) w = a := ⟨_, rfl⟩
  obtain ⟨s2, hs2⟩ : ∃ a, safeI (moreB b T) (loadsI (moreB b T)) w = a := ⟨_, rfl⟩
  rw [hs1, hs2] at hsaf
  rw [ha1, ha2, hs1, hs2]
  have hs12 : s2 = true ∨ (s2 = false ∧ s1 = false) := by
    cases s1
    · cases s2
      · exact .inr ⟨rfl, rfl⟩
      · exact .inl rfl
    · exact .inl (hsaf rfl)
  clear hs1 hs2 hsaf
  rcases hs12 with rfl | ⟨rfl, rfl⟩
  all_goals
    simp only [go_sem, Nat.reduceBEq, decide_true, wrap_id (n := X.1 * P.2) (by omega) (by omega), wrap_id (n := P.1 * X.2) (by omega) (by omega), decide_eq_true hmar]
    repeat' (first | (exfalso; omega) | (guard_target =~ _ ∧ _; refine ⟨fun _ => ?_, fun _ => ?_⟩))
    all_goals
      refine call_pure2 hC stood_sem rfl (PVleL_refl _) ?_
      rintro r rfl
      simp only [go_sem, Nat.reduceBEq]
      exact retQ_one rfl rfl
set_option maxRecDepth 100000 in
theorem StandMore_row {l0 l1 l2 : List PV} (T0 : Ty Try.prog 10 25 l0) (T1 : Ty Try.prog 10 26 l1) (T2 : Ty Try.prog 10 26 l2) : SemC Try.prog 10 [argPV Try.prog 25 l0, argPV Try.prog 26 l1, argPV Try.prog 26 l2] (fun r => r = pb true) := by
  obtain ⟨b, rfl⟩ := ty_book T0
  obtain ⟨m0, m1, rfl⟩ := ty_two T1
  obtain ⟨n0, n1, rfl⟩ := ty_two T2
  rw [argStruct Try.underlying25, argArray Try.underlying26, argArray Try.underlying26]
  exact StandMore_law b m0 m1 n0 n1
end Go.Proofs.Ytaejmbmkkdkliaa
namespace Go.Proofs.Ytaejmbmkkdkliaa
open Go.RowKit
def ac8 : AC := (AC.seq (AC.ops [(AOp.mk (some 2) (AK.box 10 (AX.t 0)) none 0 false true), (AOp.mk (some 3) (AK.box 2 (AX.t 1)) none 1 false true), (AOp.mk (some 4) (AK.mv (AX.c (PV.val (Value.bool false)))) none 2 false true)]) (AC.seq (AC.seq (AC.ops [(AOp.mk (some 18) (AK.ld (some 10) (AX.t 2)) none 0 false true), (AOp.mk (some 19) (AK.call 38 [(AX.t 18)]) none 1 false true), (AOp.mk (some 20) (AK.un UnOp.not (AX.t 19)) none 2 false true)]) (AC.cond (AX.t 20) (AC.seq (AC.ops [(AOp.mk (some 21) (AK.call 24 []) none 0 false true), (AOp.mk (some 4) (AK.mv (AX.t 21)) none 1 false true)]) AC.ret) AC.skip)) (AC.seq (AC.ops [(AOp.mk (some 22) (AK.iadrA 1 2 (AX.t 3) (AX.c (PV.val (Value.int IntKind.i64 0)))) none 0 true false), (AOp.mk (some 23) (AK.ld none (AX.t 22)) none 1 true false), (AOp.mk (some 24) (AK.fadr 8 (AX.t 2)) none 2 true false), (AOp.mk (some 25) (AK.ld none (AX.t 24)) none 3 true false), (AOp.mk (some 28) (AK.iadrA 1 2 (AX.t 3) (AX.c (PV.val (Value.int IntKind.i64 1)))) none 6 true false), (AOp.mk (some 29) (AK.ld none (AX.t 28)) none 7 true false), (AOp.mk (some 30) (AK.fadr 7 (AX.t 2)) none 8 true false), (AOp.mk (some 31) (AK.ld none (AX.t 30)) none 9 true false), (AOp.mk (some 32) (AK.bin false BinOp.mul (AX.c (PV.val (Value.int IntKind.i64 2))) (AX.t 31)) none 10 true false), (AOp.mk (some 33) (AK.bin false BinOp.add (AX.t 32) (AX.c (PV.val (Value.int IntKind.i64 1)))) none 11 true false), (AOp.mk (some 35) (AK.fadr 7 (AX.t 2)) none 13 true false), (AOp.mk (some 36) (AK.ld none (AX.t 35)) none 14 true false), (AOp.mk (some 26) (AK.call 41 [(AX.t 23), (AX.t 25)]) none 4 false false), (AOp.mk (some 27) (AK.bin false BinOp.add (AX.c (PV.val (Value.int IntKind.i64 1))) (AX.t 26)) none 5 true false), (AOp.mk (some 34) (AK.call 41 [(AX.t 29), (AX.t 33)]) none 12 false false), (AOp.mk (some 37) (AK.bin false BinOp.sub (AX.t 34) (AX.t 36)) none 15 true false), (AOp.mk (some 5) (AK.mv (AX.t 27)) none 16 true false), (AOp.mk (some 6) (AK.mv (AX.t 37)) none 17 true true)]) (AC.seq (AC.ops [(AOp.mk (some 39) (AK.ld (some 10) (AX.t 2)) none 0 false true), (AOp.mk (some 40) (AK.mv (AX.t 5)) none 1 false true), (AOp.mk (some 41) (AK.mv (AX.t 6)) none 2 false true), (AOp.mk (some 42) (AK.call 20 [(AX.t 39), (AX.t 40), (AX.t 41)]) none 3 false true), (AOp.mk (some 38) (AK.mv (AX.t 42)) none 4 false true), (AOp.mk (some 43) (AK.ext (AX.t 38) 0) none 5 false true), (AOp.mk (some 44) (AK.ext (AX.t 38) 1) none 6 false true), (AOp.mk (some 7) (AK.mv (AX.t 43)) none 7 false true), (AOp.mk (some 8) (AK.mv (AX.t 44)) none 8 false true)]) (AC.seq (AC.ops [(AOp.mk (some 46) (AK.ld (some 10) (AX.t 2)) none 0 false true), (AOp.mk (some 47) (AK.mv (AX.t 5)) none 1 false true), (AOp.mk (some 48) (AK.mv (AX.t 6)) none 2 false true), (AOp.mk (some 49) (AK.call 22 [(AX.t 46), (AX.t 47), (AX.t 48)]) none 3 false true), (AOp.mk (some 45) (AK.mv (AX.t 49)) none 4 false true), (AOp.mk (some 50) (AK.ext (AX.t 45) 0) none 5 false true), (AOp.mk (some 51) (AK.ext (AX.t 45) 1) none 6 false true), (AOp.mk (some 9) (AK.new (PV.agg [(PV.val (Value.int IntKind.i64 0)), (PV.val (Value.int IntKind.i64 0))])) none 7 false true), (AOp.mk none (AK.st 2 (AX.t 9) (AX.t 50)) none 8 false true), (AOp.mk (some 10) (AK.mv (AX.t 51)) none 9 false true)]) (AC.seq (AC.ops [(AOp.mk (some 53) (AK.ld (some 10) (AX.t 2)) none 0 false true), (AOp.mk (some 54) (AK.mv (AX.t 5)) none 1 false true), (AOp.mk (some 55) (AK.call 25 [(AX.t 53), (AX.t 54)]) none 2 false true), (AOp.mk (some 52) (AK.mv (AX.t 55)) none 3 false true), (AOp.mk (some 56) (AK.ext (AX.t 52) 0) none 4 false true), (AOp.mk (some 57) (AK.ext (AX.t 52) 1) none 5 false true), (AOp.mk (some 11) (AK.mv (AX.t 56)) none 6 false true), (AOp.mk (some 12) (AK.mv (AX.t 57)) none 7 false true)]) (AC.seq (AC.seq (AC.ops [(AOp.mk (some 58) (AK.mv (AX.t 10)) none 0 false true), (AOp.mk (some 59) (AK.mv (AX.t 8)) none 1 false true), (AOp.mk (some 60) (AK.bin false BinOp.neq (AX.t 58) (AX.t 59)) none 2 false true), (AOp.mk (some 61) (AK.mv (AX.t 60)) none 3 false true), (AOp.mk (some 62) (AK.mv (AX.t 12)) (some (61, false)) 4 false true), (AOp.mk (some 63) (AK.mv (AX.t 8)) (some (61, false)) 5 false true), (AOp.mk (some 64) (AK.bin false BinOp.neq (AX.t 62) (AX.t 63)) (some (61, false)) 6 false true), (AOp.mk (some 65) (AK.pick (AX.t 61) (AX.c (PV.val (Value.bool true))) (AX.t 64)) none 7 false true), (AOp.mk (some 66) (AK.mv (AX.t 65)) none 8 false true), (AOp.mk (some 67) (AK.mv (AX.t 8)) (some (66, false)) 9 false true), (AOp.mk (some 68) (AK.bin false BinOp.neq (AX.t 67) (AX.c (PV.val (Value.int IntKind.i64 0)))) (some (66, false)) 10 false true), (AOp.mk (some 69) (AK.pick (AX.t 66) (AX.c (PV.val (Value.bool true))) (AX.t 68)) none 11 false true)]) (AC.cond (AX.t 69) (AC.seq (AC.ops [(AOp.mk (some 70) (AK.mv (AX.t 10)) none 0 false true), (AOp.mk (some 71) (AK.mv (AX.t 8)) none 1 false true), (AOp.mk (some 72) (AK.bin false BinOp.eql (AX.t 70) (AX.t 71)) none 2 false true), (AOp.mk (some 73) (AK.mv (AX.t 72)) none 3 false true), (AOp.mk (some 74) (AK.mv (AX.t 12)) (some (73, true)) 4 false true), (AOp.mk (some 75) (AK.mv (AX.t 8)) (some (73, true)) 5 false true), (AOp.mk (some 76) (AK.bin false BinOp.eql (AX.t 74) (AX.t 75)) (some (73, true)) 6 false true), (AOp.mk (some 77) (AK.pick (AX.t 73) (AX.t 76) (AX.c (PV.val (Value.bool false)))) none 7 false true), (AOp.mk (some 78) (AK.mv (AX.t 77)) none 8 false true), (AOp.mk (some 79) (AK.mv (AX.t 8)) (some (78, true)) 9 false true), (AOp.mk (some 80) (AK.bin false BinOp.eql (AX.t 79) (AX.c (PV.val (Value.int IntKind.i64 22)))) (some (78, true)) 10 false true), (AOp.mk (some 81) (AK.pick (AX.t 78) (AX.t 80) (AX.c (PV.val (Value.bool false)))) none 11 false true), (AOp.mk (some 82) (AK.mv (AX.t 81)) none 12 false true), (AOp.mk (some 83) (AK.mv (AX.t 7)) (some (82, true)) 13 false true), (AOp.mk (some 84) (AK.bin false BinOp.eql (AX.t 83) (AX.c (PV.val (Value.int IntKind.i64 0)))) (some (82, true)) 14 false true), (AOp.mk (some 85) (AK.pick (AX.t 82) (AX.t 84) (AX.c (PV.val (Value.bool false)))) none 15 false true), (AOp.mk (some 86) (AK.mv (AX.t 85)) none 16 false true), (AOp.mk (some 87) (AK.ld (some 2) (AX.t 9)) (some (86, true)) 17 false true), (AOp.mk (some 88) (AK.build [(PV.val (Value.int IntKind.i64 0)), (PV.val (Value.int IntKind.i64 0))] []) (some (86, true)) 18 false true), (AOp.mk (some 89) (AK.eqs [CK.i, CK.i] false (AX.t 87) (AX.t 88)) (some (86, true)) 19 false true), (AOp.mk (some 90) (AK.pick (AX.t 86) (AX.t 89) (AX.c (PV.val (Value.bool false)))) none 20 false true), (AOp.mk (some 91) (AK.mv (AX.t 90)) none 21 false true), (AOp.mk (some 92) (AK.mv (AX.t 11)) (some (91, true)) 22 false true), (AOp.mk (some 93) (AK.un UnOp.not (AX.t 92)) (some (91, true)) 23 false true), (AOp.mk (some 94) (AK.pick (AX.t 91) (AX.t 93) (AX.c (PV.val (Value.bool false)))) none 24 false true), (AOp.mk (some 95) (AK.mv (AX.t 94)) none 25 false true), (AOp.mk (some 96) (AK.call 24 []) (some (95, true)) 26 false true), (AOp.mk (some 97) (AK.pick (AX.t 95) (AX.t 96) (AX.c (PV.val (Value.bool false)))) none 27 false true), (AOp.mk (some 4) (AK.mv (AX.t 97)) none 28 false true)]) AC.ret) AC.skip)) (AC.seq (AC.seq (AC.ops [(AOp.mk (some 98) (AK.mv (AX.t 7)) none 0 false true), (AOp.mk (some 99) (AK.bin false BinOp.gtr (AX.t 98) (AX.c (PV.val (Value.int IntKind.i64 0)))) none 1 false true), (AOp.mk (some 100) (AK.fadr 0 (AX.t 9)) none 2 false true), (AOp.mk (some 101) (AK.ld none (AX.t 100)) none 3 false true), (AOp.mk (some 102) (AK.bin false BinOp.lss (AX.t 101) (AX.c (PV.val (Value.int IntKind.i64 0)))) none 4 false true), (AOp.mk (some 103) (AK.bin true BinOp.neq (AX.t 99) (AX.t 102)) none 5 false true), (AOp.mk (some 104) (AK.mv (AX.t 103)) none 6 false true), (AOp.mk (some 105) (AK.fadr 1 (AX.t 9)) (some (104, false)) 7 false true), (AOp.mk (some 106) (AK.ld none (AX.t 105)) (some (104, false)) 8 false true), (AOp.mk (some 107) (AK.call 43 [(AX.t 106), (AX.c (PV.val (Value.int IntKind.i64 1))), (AX.c (PV.val (Value.int IntKind.i64 500)))]) (some (104, false)) 9 false true), (AOp.mk (some 108) (AK.un UnOp.not (AX.t 107)) (some (104, false)) 10 false true), (AOp.mk (some 109) (AK.pick (AX.t 104) (AX.c (PV.val (Value.bool true))) (AX.t 108)) none 11 false true), (AOp.mk (some 110) (AK.mv (AX.t 109)) none 12 false true), (AOp.mk (some 111) (AK.fadr 0 (AX.t 9)) (some (110, false)) 13 false true), (AOp.mk (some 112) (AK.ld none (AX.t 111)) (some (110, false)) 14 false true), (AOp.mk (some 113) (AK.bin false BinOp.eql (AX.t 112) (AX.c (PV.val (Value.int IntKind.i64 0)))) (some (110, false)) 15 false true), (AOp.mk (some 114) (AK.mv (AX.t 113)) (some (110, false)) 16 false true), (AOp.mk (some 115) (AK.fadr 1 (AX.t 9)) (some (114, true)) 17 false true), (AOp.mk (some 116) (AK.ld none (AX.t 115)) (some (114, true)) 18 false true), (AOp.mk (some 117) (AK.bin false BinOp.neq (AX.t 116) (AX.c (PV.val (Value.int IntKind.i64 1)))) (some (114, true)) 19 false true), (AOp.mk (some 118) (AK.pick (AX.t 114) (AX.t 117) (AX.c (PV.val (Value.bool false)))) (some (110, false)) 20 false true), (AOp.mk (some 119) (AK.pick (AX.t 110) (AX.c (PV.val (Value.bool true))) (AX.t 118)) none 21 false true)]) (AC.cond (AX.t 119) (AC.seq (AC.ops [(AOp.mk (some 4) (AK.mv (AX.c (PV.val (Value.bool false)))) none 0 false true)]) AC.ret) AC.skip)) (AC.seq (AC.seq (AC.ops [(AOp.mk (some 13) (AK.mv (AX.c (PV.val (Value.int IntKind.i64 2)))) none 0 false true)]) (AC.block 0 (AC.loop (AC.seq (AC.seq (AC.ops [(AOp.mk (some 120) (AK.mv (AX.t 13)) none 0 false true), (AOp.mk (some 121) (AK.fadr 1 (AX.t 9)) none 1 false true), (AOp.mk (some 122) (AK.ld none (AX.t 121)) none 2 false true), (AOp.mk (some 123) (AK.bin false BinOp.leq (AX.t 120) (AX.t 122)) none 3 false true)]) (AC.cond (AX.t 123) AC.skip (AC.exit 0))) (AC.seq (AC.block 1 (AC.seq (AC.ops [(AOp.mk (some 126) (AK.fadr 0 (AX.t 9)) none 0 false true), (AOp.mk (some 127) (AK.ld none (AX.t 126)) none 1 false true), (AOp.mk (some 128) (AK.mv (AX.t 13)) none 2 false true), (AOp.mk (some 129) (AK.bin false BinOp.rem (AX.t 127) (AX.t 128)) none 3 false true), (AOp.mk (some 130) (AK.bin false BinOp.eql (AX.t 129) (AX.c (PV.val (Value.int IntKind.i64 0)))) none 4 false true), (AOp.mk (some 131) (AK.mv (AX.t 130)) none 5 false true), (AOp.mk (some 132) (AK.fadr 1 (AX.t 9)) (some (131, true)) 6 false true), (AOp.mk (some 133) (AK.ld none (AX.t 132)) (some (131, true)) 7 false true), (AOp.mk (some 134) (AK.mv (AX.t 13)) (some (131, true)) 8 false true), (AOp.mk (some 135) (AK.bin false BinOp.rem (AX.t 133) (AX.t 134)) (some (131, true)) 9 false true), (AOp.mk (some 136) (AK.bin false BinOp.eql (AX.t 135) (AX.c (PV.val (Value.int IntKind.i64 0)))) (some (131, true)) 10 false true), (AOp.mk (some 137) (AK.pick (AX.t 131) (AX.t 136) (AX.c (PV.val (Value.bool false)))) none 11 false true)]) (AC.cond (AX.t 137) (AC.seq (AC.ops [(AOp.mk (some 4) (AK.mv (AX.c (PV.val (Value.bool false)))) none 0 false true)]) AC.ret) AC.skip))) (AC.ops [(AOp.mk (some 124) (AK.mv (AX.t 13)) none 0 false true), (AOp.mk (some 125) (AK.bin false BinOp.add (AX.t 124) (AX.c (PV.val (Value.int IntKind.i64 1)))) none 1 false true), (AOp.mk (some 13) (AK.mv (AX.t 125)) none 2 false true)])))))) (AC.seq (AC.ops [(AOp.mk (some 14) (AK.mv (AX.c (PV.val (Value.bool true)))) none 0 false true)]) (AC.seq (AC.seq (AC.ops [(AOp.mk (some 138) (AK.fadr 7 (AX.t 2)) none 0 false true), (AOp.mk (some 139) (AK.ld none (AX.t 138)) none 1 false true), (AOp.mk (some 140) (AK.un UnOp.neg (AX.t 139)) none 2 false true), (AOp.mk (some 15) (AK.mv (AX.t 140)) none 3 false true)]) (AC.block 2 (AC.loop (AC.seq (AC.seq (AC.ops [(AOp.mk (some 141) (AK.mv (AX.t 15)) none 0 false true), (AOp.mk (some 142) (AK.fadr 7 (AX.t 2)) none 1 false true), (AOp.mk (some 143) (AK.ld none (AX.t 142)) none 2 false true), (AOp.mk (some 144) (AK.bin false BinOp.leq (AX.t 141) (AX.t 143)) none 3 false true)]) (AC.cond (AX.t 144) AC.skip (AC.exit 2))) (AC.seq (AC.block 3 (AC.seq (AC.ops [(AOp.mk (some 148) (AK.ld (some 10) (AX.t 2)) none 0 false true), (AOp.mk (some 149) (AK.mv (AX.t 5)) none 1 false true), (AOp.mk (some 150) (AK.mv (AX.t 15)) none 2 false true), (AOp.mk (some 151) (AK.call 20 [(AX.t 148), (AX.t 149), (AX.t 150)]) none 3 false true), (AOp.mk (some 147) (AK.mv (AX.t 151)) none 4 false true), (AOp.mk (some 152) (AK.ext (AX.t 147) 0) none 5 false true), (AOp.mk (some 153) (AK.ext (AX.t 147) 1) none 6 false true), (AOp.mk (some 16) (AK.mv (AX.t 152)) none 7 false true), (AOp.mk (some 17) (AK.mv (AX.t 153)) none 8 false true)]) (AC.seq (AC.seq (AC.ops [(AOp.mk (some 154) (AK.mv (AX.t 17)) none 0 false true), (AOp.mk (some 155) (AK.bin false BinOp.neq (AX.t 154) (AX.c (PV.val (Value.int IntKind.i64 0)))) none 1 false true)]) (AC.cond (AX.t 155) (AC.seq (AC.ops [(AOp.mk (some 4) (AK.mv (AX.c (PV.val (Value.bool false)))) none 0 false true)]) AC.ret) AC.skip)) (AC.ops [(AOp.mk (some 156) (AK.mv (AX.t 14)) none 0 false true), (AOp.mk (some 157) (AK.mv (AX.t 156)) none 1 false true), (AOp.mk (some 158) (AK.mv (AX.t 16)) (some (157, true)) 2 false true), (AOp.mk (some 159) (AK.bin false BinOp.eql (AX.t 158) (AX.c (PV.val (Value.int IntKind.i64 0)))) (some (157, true)) 3 false true), (AOp.mk (some 160) (AK.pick (AX.t 157) (AX.t 159) (AX.c (PV.val (Value.bool false)))) none 4 false true), (AOp.mk (some 14) (AK.mv (AX.t 160)) none 5 false true)])))) (AC.ops [(AOp.mk (some 145) (AK.mv (AX.t 15)) none 0 false true), (AOp.mk (some 146) (AK.bin false BinOp.add (AX.t 145) (AX.c (PV.val (Value.int IntKind.i64 1)))) none 1 false true), (AOp.mk (some 15) (AK.mv (AX.t 146)) none 2 false true)])))))) (AC.seq (AC.ops [(AOp.mk (some 161) (AK.mv (AX.t 11)) none 0 false true), (AOp.mk (some 162) (AK.mv (AX.t 14)) none 1 false true), (AOp.mk (some 163) (AK.bin true BinOp.eql (AX.t 161) (AX.t 162)) none 2 false true), (AOp.mk (some 164) (AK.mv (AX.t 163)) none 3 false true), (AOp.mk (some 165) (AK.call 24 []) (some (164, true)) 4 false true), (AOp.mk (some 166) (AK.pick (AX.t 164) (AX.t 165) (AX.c (PV.val (Value.bool false)))) none 5 false true), (AOp.mk (some 4) (AK.mv (AX.t 166)) none 6 false true)]) AC.ret))))))))))))
theorem ac8_ok : cCode Try.prog (fun _ => false) Try.f8.ntmps (Try.f8.body.getD .skip) = some ac8 := by kernel_rfl
theorem lm_facts {b : SBook} (ho : okBook b) (hT : truthL b ≠ []) {w n : Int} (hw : 1 ≤ w ∧ w ≤ 60) : (((lmI b w n (loadsI b)).2.1 < 0) ↔ ¬ holdsI b (loadsI b) w n) ∧ (1 ≤ (lmI b w n (loadsI b)).2.2 ∧ (lmI b w n (loadsI b)).2.2 ≤ 500) ∧ Int.gcd (lmI b w n (loadsI b)).2.1 (lmI b w n (loadsI b)).2.2 = 1 := by
  have hne : loadsI b ≠ [] := by unfold loadsI; simpa using hT
  have hsp := seat_pos (n := n) ho.fit hw.1
  obtain ⟨-, ⟨l0, hl0, e⟩, h3⟩ := lmI_least hsp hne
  obtain ⟨g, g1, g2, g3, g4, g5⟩ := margin_facts b l0 w n (hsp l0 hl0)
  have h4 := loadsI_400 ho.fit l0 hl0
  rw [← e] at g2 g3 g4 g5
  refine ⟨⟨fun h hh => ?_, fun h => ?_⟩, ⟨g4, ?_⟩, g5⟩
  · exact hh l0 hl0 ((margin_neg (hsp l0 hl0)).1 (by rw [← e]; exact h))
  · obtain ⟨l, hl, ht⟩ : ∃ l ∈ loadsI b, tipsI b l w n := by
      refine Classical.byContradiction fun hn => h fun l hl ht => hn ⟨l, hl, ht⟩
    obtain ⟨g', q1, q2, q3, q4, q5⟩ := margin_facts b l w n (hsp l hl)
    have h5 := (margin_neg (hsp l hl)).2 ht
    have h6 := h3 l hl
    have h7 : (marginI b l w n).1 * (lmI b w n (loadsI b)).2.2 < 0 := Int.mul_neg_of_neg_of_pos h5 (by omega)
    exact (sign_mul q4).1 (by omega)
  · have h5 : (seatB b l0 w n).w = l0.w + w := rfl
    have h6 : (lmI b w n (loadsI b)).2.2 * 1 ≤ (lmI b w n (loadsI b)).2.2 * g := Int.mul_le_mul_of_nonneg_left g1 (by omega)
    unfold SLoad.ok at h4
    omega
theorem gcd_tmods {a c d : Int} (h : Int.gcd a c = 1) (hd : 2 ≤ d) : ¬ (a.tmod d = 0 ∧ c.tmod d = 0) := by
  rintro ⟨h1, h2⟩
  have := Int.dvd_coe_gcd (Int.dvd_of_tmod_eq_zero h1) (Int.dvd_of_tmod_eq_zero h2)
  rw [h] at this
  have := Int.le_of_dvd (by omega) this
  omega
theorem gcd_zero_one {c : Int} (h : Int.gcd 0 c = 1) (hc : 1 ≤ c) : c = 1 := by
  rw [Int.gcd_zero_left] at h
  omega
def nvI (b : SBook) (w : Int) (j : Nat) : Bool := (List.range j).all fun q => decide (countI b (loadsI b) w (q - b.lean) = 0)
theorem nv_succ (b : SBook) (w : Int) (j : Nat) : nvI b w (j + 1) = (nvI b w j && decide (answerI b (loadsI b) w (j - b.lean) = 0)) := by
  unfold nvI
  rw [List.range_succ, List.all_append]
  simp only [List.all_cons, List.all_nil, Bool.and_true]
  congr 1
  exact decide_eq_decide.2 (by rw [answer_holds, count_zero])
set_option maxRecDepth 100000 in
theorem StandSign_law (b : SBook) (n0 n1 : Int) : Sem1 8 [.agg (bookC .sh .sh b), .agg [pi n0, pi n1]] (pb true) := by
  have e10 : iadrAS 1 2 (.loc 1 0) (.p (pi 0)) = some (.loc 1 0) := rfl
  have e11 : iadrAS 1 2 (.loc 1 0) (.p (pi 1)) = some (.loc 1 1) := rfl
  refine semC_of_exec' mixed Try.func8 (by kernel_rfl) (by kernel_rfl) ac8_ok 2 rfl (by decide) [(.tmp 4)] (by kernel_rfl) ?_
  intro hr C hC hI
  unfold ac8
  simp only [go_sem, Nat.reduceBEq, Nat.reduceAdd]
  refine call_pure2 hC (sound_sem ..) rfl (PVleL_refl _) ?_
  rintro r rfl
  simp only [go_sem, Nat.reduceBEq, e10, e11]
  refine ⟨fun _ => ?_, fun ho => ?_⟩
  · refine call_pure2 hC (stood_sem) rfl (PVleL_refl _) ?_
    rintro r rfl
    simp only [go_sem, Nat.reduceBEq]
    exact retQ_one rfl rfl
  have hg := ok_rng ho
  have r1 := rndI_range (n := n0) (m := b.limit) (by omega)
  have r2 := rndI_range (n := n1) (m := 2 * b.lean + 1) (by omega)
  obtain ⟨w, hw⟩ : ∃ w, 1 + rndI n0 b.limit = w := ⟨_, rfl⟩
  obtain ⟨v, hv⟩ : ∃ v, rndI n1 (2 * b.lean + 1) - b.lean = v := ⟨_, rfl⟩
  have hwr : 1 ≤ w ∧ w ≤ b.limit := by omega
  have hvr : -b.lean ≤ v ∧ v ≤ b.lean := by omega
  simp only [go_sem, wrap_id (n := 2 * b.lean) (by omega) (by omega), wrap_id (n := 2 * b.lean + 1) (by omega) (by omega)]
  refine call_pure2 hC (Round_sem n0 b.limit) rfl (PVleL_refl _) ?_
  rintro r rfl
  simp only [go_sem, Nat.reduceBEq, hw, wrap_id (n := w) (by omega) (by omega)]
  refine call_pure2 hC (Round_sem n1 (2 * b.lean + 1)) rfl (PVleL_refl _) ?_
  rintro r rfl
  simp only [go_sem, Nat.reduceBEq, Nat.reduceAdd, hv, wrap_id (n := v) (by omega) (by omega)]
  by_cases hT : truthL b = []
  · refine call_pure2 hC (Tips_F ho hT hwr hvr) rfl (PVleL_refl _) ?_
    rintro r rfl
    simp only [go_sem, Nat.reduceBEq, Nat.reduceAdd]
    refine call_pure2 hC (Margin_F ho hT hwr hvr) rfl (PVleL_refl _) ?_
    rintro r rfl
    simp only [go_sem, Nat.reduceBEq, Nat.reduceAdd, putCells]
    refine call_pure2 hC (Safe_F ho hT hwr) rfl (PVleL_refl _) ?_
    rintro r rfl
    simp only [go_sem, Nat.reduceBEq, Nat.reduceAdd, decide_true, decide_false, not_true_eq_false, Bool.true_and, not_false_eq_true, Int.reduceEq]
    refine call_pure2 hC (stood_sem) rfl (PVleL_refl _) ?_
    rintro r rfl
    simp only [go_sem, Nat.reduceBEq]
    exact retQ_one rfl rfl
  obtain ⟨f1, f2, f3⟩ := lm_facts (n := v) ho hT (w := w) (by omega)
  have hM := Margin_T (k := .sh) (k2 := .sh) ho hT hwr hvr
  have hsm := lmI_b (w := w) (n := v) ho.fit.small (by omega) (by omega) (loadsI b) (loadsI_ok ho.fit)
  obtain ⟨P, hP⟩ : ∃ P, (lmI b w v (loadsI b)).2 = P := ⟨_, rfl⟩
  rw [hP] at f1 f2 f3 hM hsm
  obtain ⟨⟨p1, p2⟩, p3, p4⟩ := hsm
  have hsgn : decide (0 < answerI b (loadsI b) w v) = decide (P.1 < 0) := by
    refine decide_eq_decide.2 ?_
    rw [f1, ← answer_holds]
    have := answer_rng b (loadsI b) w v
    omega
  have hP0 : P.1 = 0 → P.2 = 1 := fun h => gcd_zero_one (by rw [← h]; exact f3) f2.1
  obtain ⟨s, hs⟩ : ∃ s, safeI b (loadsI b) w = s := ⟨_, rfl⟩
  refine call_pure2 hC (Tips_T ho hT hwr hvr) rfl (PVleL_refl _) ?_
  rintro r rfl
  simp only [go_sem, Nat.reduceBEq, Nat.reduceAdd]
  refine call_pure2 hC (hM) rfl (PVleL_refl _) ?_
  rintro r rfl
  simp only [go_sem, Nat.reduceBEq, Nat.reduceAdd, putCells]
  refine call_pure2 hC (Safe_T ho hT hwr) rfl (PVleL_refl _) ?_
  rintro r rfl
  simp only [go_sem, Nat.reduceBEq, decide_false, not_true_eq_false, hsgn, hs]
  refine call_pure2 hC (In_sem P.2 1 500) rfl (PVleL_refl _) ?_
  rintro r rfl
  simp only [go_sem, Nat.reduceBEq, decide_eq_true f2]
  repeat' (first | (exfalso; omega) | (guard_target =~ _ ∧ _; refine ⟨fun _ => ?_, fun _ => ?_⟩))
  all_goals
    refine loop_nat (P.2 - 1).toNat (fun _ => True) (fun (j : Nat) => ⟨[(13, .p (pi (j + 2))), (11, .p (pb s)), (9, .loc 2 0), (5, .p (pi w)), (2, .loc 0 0)], [.cells ((bookC .sh .sh b).map .p), .cells [.p (pi n0), .p (pi n1)], .cells [.p (pi P.1), .p (pi P.2)]], [], some [], 0⟩) trivial (by simp [Wk, wkT, wkL, look, AV.lo, AV.lo.loL]) ?_
    rintro j ⟨hj, -⟩
    simp only [go_sem, Nat.reduceBEq]
    refine ⟨fun h5 => ?_, fun h5 => ?_⟩
    · have hgt := gcd_tmods (d := (j : Int) + 2) f3 (by omega)
      have hnx : IntKind.i64.wrap ((j : Int) + 2 + 1) = ((j + 1 : Nat) : Int) + 2 := by rw [wrap_id (by omega) (by omega)]; omega
      simp only [go_sem, Nat.reduceBEq, bin_rem (k := .i64) (a := P.1) (b := (j : Int) + 2) (by omega), bin_rem (k := .i64) (a := P.2) (b := (j : Int) + 2) (by omega), hnx]
      refine ⟨fun h6 => ⟨fun h7 => absurd ⟨h6, h7⟩ hgt, fun h7 => ?_⟩, fun h6 => ?_⟩
      · exact ⟨⟨j + 1, by omega, trivial⟩, by simp only; omega, by simp [Wk, wkT, wkL, look, AV.lo, AV.lo.loL]⟩
      · exact ⟨⟨j + 1, by omega, trivial⟩, by simp only; omega, by simp [Wk, wkT, wkL, look, AV.lo, AV.lo.loL]⟩
    · have hz : IntKind.i64.wrap (0 - b.lean) = ((0 : Nat) : Int) - b.lean := by rw [wrap_id (by omega) (by omega)]; omega
      simp only [go_sem, hz]
      refine loop_nat (2 * b.lean + 1).toNat (fun _ => True) (fun (j : Nat) => ⟨[(15, .p (pi (j - b.lean))), (14, .p (pb (nvI b w j))), (11, .p (pb s)), (5, .p (pi w)), (2, .loc 0 0)], [.cells ((bookC .sh .sh b).map .p)], [], some [], 0⟩) trivial (by simp [Wk, wkT, wkL, look, AV.lo, AV.lo.loL, nvI]) ?_
      rintro i ⟨hi, -⟩
      have hns := nv_succ b w i
      obtain ⟨m, hm⟩ : ∃ m, (i : Int) - b.lean = m := ⟨_, rfl⟩
      have hnx : IntKind.i64.wrap (m + 1) = ((i + 1 : Nat) : Int) - b.lean := by rw [wrap_id (by omega) (by omega)]; omega
      obtain ⟨nv, hnv⟩ : ∃ nv, nvI b w i = nv := ⟨_, rfl⟩
      rw [hm, hnv] at hns
      simp only [hm, hnv]
      simp only [go_sem, Nat.reduceBEq, Nat.reduceAdd]
      refine ⟨fun h6 => ?_, fun h6 => ?_⟩
      · refine call_pure2 hC (Tips_T ho hT (n := m) hwr (by omega)) rfl (PVleL_refl _) ?_
        rintro r rfl
        simp only [go_sem, Nat.reduceBEq, decide_false, not_true_eq_false]
        cases nv
        · simp only [go_sem, Nat.reduceBEq, hnx]
          rw [Bool.false_and] at hns
          exact ⟨⟨i + 1, by omega, trivial⟩, by simp only; omega, by simp [Wk, wkT, wkL, look, AV.lo, AV.lo.loL, hns]⟩
        · simp only [go_sem, Nat.reduceBEq, hnx]
          rw [Bool.true_and] at hns
          exact ⟨⟨i + 1, by omega, trivial⟩, by simp only; omega, by simp [Wk, wkT, wkL, look, AV.lo, AV.lo.loL, hns]⟩
      · have hii : i = (2 * b.lean + 1).toNat := by omega
        have hsn : s = nv := by rw [← hs, ← hnv, hii]; rfl
        subst hsn
        simp only [go_sem, decide_true, not_true_eq_false, false_implies, true_implies]
        refine call_pure2 hC (stood_sem) rfl (PVleL_refl _) ?_
        rintro r rfl
        simp only [go_sem, Nat.reduceBEq]
        exact retQ_one rfl rfl
set_option maxRecDepth 100000 in
theorem StandSign_row {l0 l1 : List PV} (T0 : Ty Try.prog 10 25 l0) (T1 : Ty Try.prog 10 26 l1) : SemC Try.prog 8 [argPV Try.prog 25 l0, argPV Try.prog 26 l1] (fun r => r = pb true) := by
  obtain ⟨b, rfl⟩ := ty_book T0
  obtain ⟨n0, n1, rfl⟩ := ty_two T1
  rw [argStruct Try.underlying25, argArray Try.underlying26]
  exact StandSign_law b n0 n1
end Go.Proofs.Ytaejmbmkkdkliaa
