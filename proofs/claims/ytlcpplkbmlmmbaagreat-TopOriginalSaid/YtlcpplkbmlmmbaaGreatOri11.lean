/- Contracts of the reference of mend: which books are valid. Contracts through the layers: the example, which books there are, and sets of lists. Contracts of the reference of mend: all that a job can cost. Contracts of the reference of mend: spans. Mathematics through the layers: a horse that nobody mended. -/
import Derived.Test.YtlcpplkbmlmmbaaGreatOri10
import Derived.Test.YtlcpplkbmlmmbaaGreatOri05
import Derived.Test.YtlcpplkbmlmmbaaGreatOri09
namespace Go.Proofs.YtlcpplkbmlmmbaaGreat.Mk.Me
open Go.RowKit Ls
def ac62 : AC := (AC.seq (AC.ops [(AOp.mk (some 1) (AK.box 4 (AX.t 0)) none 0 false true), (AOp.mk (some 2) (AK.mv (AX.c (PV.val (Value.int IntKind.i64 0)))) none 1 false true)]) (AC.seq (AC.ops [(AOp.mk (some 3) (AK.fadr 0 (AX.t 1)) none 0 false true), (AOp.mk (some 4) (AK.ld none (AX.t 3)) none 1 false true), (AOp.mk (some 5) (AK.iadrS 1 (AX.t 4) (AX.c (PV.val (Value.int IntKind.i64 0)))) none 2 false true), (AOp.mk (some 6) (AK.ld none (AX.t 5)) none 3 false true), (AOp.mk (some 7) (AK.len (AX.t 6)) none 4 false true), (AOp.mk (some 2) (AK.mv (AX.t 7)) none 5 false true)]) AC.ret))
theorem ac62_ok : cCode Tryz.prog (fun _ => false) Tryz.f62.ntmps (Tryz.f62.body.getD .skip) = some ac62 := by kernel_rfl
def ac55 : AC := (AC.seq (AC.ops [(AOp.mk (some 2) (AK.box 8 (AX.t 0)) none 0 false true), (AOp.mk (some 4) (AK.mv (AX.c (PV.val (Value.bool false)))) none 1 false true)]) (AC.seq (AC.ops [(AOp.mk (some 5) (AK.mv (AX.t 1)) none 0 false true), (AOp.mk (some 6) (AK.fadr 4 (AX.t 2)) none 1 false true), (AOp.mk (some 7) (AK.ld none (AX.t 6)) none 2 false true), (AOp.mk (some 8) (AK.len (AX.t 7)) none 3 false true), (AOp.mk (some 9) (AK.bin false BinOp.sub (AX.t 8) (AX.c (PV.val (Value.int IntKind.i64 1)))) none 4 false true), (AOp.mk (some 10) (AK.call 60 [(AX.t 5), (AX.c (PV.val (Value.int IntKind.i64 0))), (AX.t 9)]) none 5 false true), (AOp.mk (some 4) (AK.mv (AX.t 10)) none 6 false true)]) AC.ret))
def ac61 : AC := (AC.seq (AC.ops [(AOp.mk (some 2) (AK.box 6 (AX.t 0)) none 0 false true), (AOp.mk (some 4) (AK.mv (AX.c (PV.val (Value.bool false)))) none 1 false true)]) (AC.seq (AC.ops [(AOp.mk (some 5) (AK.fadr 0 (AX.t 2)) none 0 false true), (AOp.mk (some 6) (AK.ld none (AX.t 5)) none 1 false true), (AOp.mk (some 7) (AK.mv (AX.t 1)) none 2 false true), (AOp.mk (some 8) (AK.bin false BinOp.sub (AX.t 7) (AX.c (PV.val (Value.int IntKind.i64 1)))) none 3 false true), (AOp.mk (some 9) (AK.call 60 [(AX.t 6), (AX.c (PV.val (Value.int IntKind.i64 0))), (AX.t 8)]) none 4 false true), (AOp.mk (some 10) (AK.mv (AX.t 9)) none 5 false true), (AOp.mk (some 11) (AK.fadr 1 (AX.t 2)) (some (10, true)) 6 false true), (AOp.mk (some 12) (AK.ld (some 2) (AX.t 11)) (some (10, true)) 7 false true), (AOp.mk (some 13) (AK.call 74 [(AX.t 12), (AX.c (PV.val (Value.int IntKind.i64 0))), (AX.c (PV.val (Value.int IntKind.i64 20)))]) (some (10, true)) 8 false true), (AOp.mk (some 14) (AK.pick (AX.t 10) (AX.t 13) (AX.c (PV.val (Value.bool false)))) none 9 false true), (AOp.mk (some 15) (AK.mv (AX.t 14)) none 10 false true), (AOp.mk (some 16) (AK.fadr 1 (AX.t 2)) (some (15, true)) 11 false true), (AOp.mk (some 17) (AK.fadr 1 (AX.t 16)) (some (15, true)) 12 false true), (AOp.mk (some 18) (AK.ld none (AX.t 17)) (some (15, true)) 13 false true), (AOp.mk (some 19) (AK.fadr 1 (AX.t 2)) (some (15, true)) 14 false true), (AOp.mk (some 20) (AK.fadr 0 (AX.t 19)) (some (15, true)) 15 false true), (AOp.mk (some 21) (AK.ld none (AX.t 20)) (some (15, true)) 16 false true), (AOp.mk (some 22) (AK.bin false BinOp.sub (AX.t 18) (AX.t 21)) (some (15, true)) 17 false true), (AOp.mk (some 23) (AK.bin false BinOp.leq (AX.t 22) (AX.c (PV.val (Value.int IntKind.i64 3)))) (some (15, true)) 18 false true), (AOp.mk (some 24) (AK.pick (AX.t 15) (AX.t 23) (AX.c (PV.val (Value.bool false)))) none 19 false true), (AOp.mk (some 25) (AK.mv (AX.t 24)) none 20 false true), (AOp.mk (some 26) (AK.fadr 3 (AX.t 2)) (some (25, true)) 21 false true), (AOp.mk (some 27) (AK.ld (some 2) (AX.t 26)) (some (25, true)) 22 false true), (AOp.mk (some 28) (AK.call 74 [(AX.t 27), (AX.c (PV.val (Value.int IntKind.i64 0))), (AX.c (PV.val (Value.int IntKind.i64 99)))]) (some (25, true)) 23 false true), (AOp.mk (some 29) (AK.pick (AX.t 25) (AX.t 28) (AX.c (PV.val (Value.bool false)))) none 24 false true), (AOp.mk (some 30) (AK.mv (AX.t 29)) none 25 false true), (AOp.mk (some 31) (AK.fadr 3 (AX.t 2)) (some (30, true)) 26 false true), (AOp.mk (some 32) (AK.fadr 1 (AX.t 31)) (some (30, true)) 27 false true), (AOp.mk (some 33) (AK.ld none (AX.t 32)) (some (30, true)) 28 false true), (AOp.mk (some 34) (AK.fadr 3 (AX.t 2)) (some (30, true)) 29 false true), (AOp.mk (some 35) (AK.fadr 0 (AX.t 34)) (some (30, true)) 30 false true), (AOp.mk (some 36) (AK.ld none (AX.t 35)) (some (30, true)) 31 false true), (AOp.mk (some 37) (AK.bin false BinOp.sub (AX.t 33) (AX.t 36)) (some (30, true)) 32 false true), (AOp.mk (some 38) (AK.bin false BinOp.leq (AX.t 37) (AX.c (PV.val (Value.int IntKind.i64 4)))) (some (30, true)) 33 false true), (AOp.mk (some 39) (AK.pick (AX.t 30) (AX.t 38) (AX.c (PV.val (Value.bool false)))) none 34 false true), (AOp.mk (some 40) (AK.mv (AX.t 39)) none 35 false true), (AOp.mk (some 41) (AK.fadr 5 (AX.t 2)) (some (40, true)) 36 false true), (AOp.mk (some 42) (AK.ld none (AX.t 41)) (some (40, true)) 37 false true), (AOp.mk (some 43) (AK.call 60 [(AX.t 42), (AX.c (PV.val (Value.int IntKind.i64 (-1)))), (AX.c (PV.val (Value.int IntKind.i64 999)))]) (some (40, true)) 38 false true), (AOp.mk (some 44) (AK.pick (AX.t 40) (AX.t 43) (AX.c (PV.val (Value.bool false)))) none 39 false true), (AOp.mk (some 4) (AK.mv (AX.t 44)) none 40 false true)]) AC.ret))
def ac100 : AC := (AC.seq (AC.ops [(AOp.mk (some 3) (AK.box 8 (AX.t 0)) none 0 false true), (AOp.mk (some 6) (AK.mv (AX.c (PV.val (Value.int IntKind.i64 0)))) none 1 false true)]) (AC.seq (AC.seq (AC.ops [(AOp.mk (some 8) (AK.fadr 4 (AX.t 3)) none 0 false true), (AOp.mk (some 9) (AK.ld none (AX.t 8)) none 1 false true), (AOp.mk (some 10) (AK.mv (AX.t 1)) none 2 false true), (AOp.mk (some 11) (AK.iadrS 6 (AX.t 9) (AX.t 10)) none 3 false true), (AOp.mk (some 12) (AK.fadr 5 (AX.t 11)) none 4 false true), (AOp.mk (some 13) (AK.ld none (AX.t 12)) none 5 false true), (AOp.mk (some 7) (AK.mv (AX.t 13)) none 6 false true)]) (AC.seq (AC.ops [(AOp.mk (some 14) (AK.mv (AX.t 7)) none 0 false true), (AOp.mk (some 15) (AK.bin false BinOp.geq (AX.t 14) (AX.c (PV.val (Value.int IntKind.i64 0)))) none 1 false true)]) (AC.cond (AX.t 15) (AC.seq (AC.ops [(AOp.mk (some 16) (AK.mv (AX.t 2)) none 0 false true), (AOp.mk (some 17) (AK.mv (AX.t 7)) none 1 false true), (AOp.mk (some 18) (AK.mx false [(AX.t 16), (AX.t 17)]) none 2 false true), (AOp.mk (some 6) (AK.mv (AX.t 18)) none 3 false true)]) AC.ret) AC.skip))) (AC.seq (AC.ops [(AOp.mk (some 19) (AK.mv (AX.t 2)) none 0 false true), (AOp.mk (some 6) (AK.mv (AX.t 19)) none 1 false true)]) AC.ret)))
def ac14 : AC := (AC.seq (AC.ops [(AOp.mk (some 1) (AK.box 8 (AX.t 0)) none 0 false true), (AOp.mk (some 2) (AK.mv (AX.c (PV.val (Value.int IntKind.i64 0)))) none 1 false true)]) (AC.seq (AC.ops [(AOp.mk (some 7) (AK.fadr 0 (AX.t 1)) none 0 false true), (AOp.mk (some 8) (AK.ld (some 4) (AX.t 7)) none 1 false true), (AOp.mk (some 9) (AK.call 59 [(AX.t 8)]) none 2 false true), (AOp.mk (some 10) (AK.bin false BinOp.eql (AX.t 9) (AX.c (PV.val (Value.int IntKind.i64 0)))) none 3 false true), (AOp.mk (some 11) (AK.mv (AX.t 10)) none 4 false true), (AOp.mk (some 12) (AK.fadr 4 (AX.t 1)) (some (11, true)) 5 false true), (AOp.mk (some 13) (AK.ld none (AX.t 12)) (some (11, true)) 6 false true), (AOp.mk (some 14) (AK.len (AX.t 13)) (some (11, true)) 7 false true), (AOp.mk (some 15) (AK.call 60 [(AX.t 14), (AX.c (PV.val (Value.int IntKind.i64 1))), (AX.c (PV.val (Value.int IntKind.i64 4)))]) (some (11, true)) 8 false true), (AOp.mk (some 16) (AK.pick (AX.t 11) (AX.t 15) (AX.c (PV.val (Value.bool false)))) none 9 false true), (AOp.mk (some 17) (AK.mv (AX.t 16)) none 10 false true), (AOp.mk (some 18) (AK.fadr 5 (AX.t 1)) (some (17, true)) 11 false true), (AOp.mk (some 19) (AK.ld none (AX.t 18)) (some (17, true)) 12 false true), (AOp.mk (some 20) (AK.call 60 [(AX.t 19), (AX.c (PV.val (Value.int IntKind.i64 0))), (AX.c (PV.val (Value.int IntKind.i64 20)))]) (some (17, true)) 13 false true), (AOp.mk (some 21) (AK.pick (AX.t 17) (AX.t 20) (AX.c (PV.val (Value.bool false)))) none 14 false true), (AOp.mk (some 22) (AK.mv (AX.t 21)) none 15 false true), (AOp.mk (some 23) (AK.fadr 6 (AX.t 1)) (some (22, true)) 16 false true), (AOp.mk (some 24) (AK.ld none (AX.t 23)) (some (22, true)) 17 false true), (AOp.mk (some 25) (AK.len (AX.t 24)) (some (22, true)) 18 false true), (AOp.mk (some 26) (AK.fadr 0 (AX.t 1)) (some (22, true)) 19 false true), (AOp.mk (some 27) (AK.fadr 0 (AX.t 26)) (some (22, true)) 20 false true), (AOp.mk (some 28) (AK.ld none (AX.t 27)) (some (22, true)) 21 false true), (AOp.mk (some 29) (AK.len (AX.t 28)) (some (22, true)) 22 false true), (AOp.mk (some 30) (AK.bin false BinOp.eql (AX.t 25) (AX.t 29)) (some (22, true)) 23 false true), (AOp.mk (some 31) (AK.pick (AX.t 22) (AX.t 30) (AX.c (PV.val (Value.bool false)))) none 24 false true), (AOp.mk (some 32) (AK.mv (AX.t 31)) none 25 false true), (AOp.mk (some 33) (AK.fadr 7 (AX.t 1)) (some (32, true)) 26 false true), (AOp.mk (some 34) (AK.ld none (AX.t 33)) (some (32, true)) 27 false true), (AOp.mk (some 35) (AK.len (AX.t 34)) (some (32, true)) 28 false true), (AOp.mk (some 36) (AK.call 60 [(AX.t 35), (AX.c (PV.val (Value.int IntKind.i64 1))), (AX.c (PV.val (Value.int IntKind.i64 4)))]) (some (32, true)) 29 false true), (AOp.mk (some 37) (AK.pick (AX.t 32) (AX.t 36) (AX.c (PV.val (Value.bool false)))) none 30 false true), (AOp.mk (some 3) (AK.mv (AX.t 37)) none 31 false true)]) (AC.seq (AC.seq (AC.ops [(AOp.mk (some 4) (AK.mv (AX.c (PV.val (Value.int IntKind.i64 0)))) none 0 false true)]) (AC.block 0 (AC.loop (AC.seq (AC.seq (AC.ops [(AOp.mk (some 38) (AK.mv (AX.t 3)) none 0 false true), (AOp.mk (some 39) (AK.mv (AX.t 38)) none 1 false true), (AOp.mk (some 40) (AK.mv (AX.t 4)) (some (39, true)) 2 false true), (AOp.mk (some 41) (AK.fadr 4 (AX.t 1)) (some (39, true)) 3 false true), (AOp.mk (some 42) (AK.ld none (AX.t 41)) (some (39, true)) 4 false true), (AOp.mk (some 43) (AK.len (AX.t 42)) (some (39, true)) 5 false true), (AOp.mk (some 44) (AK.bin false BinOp.lss (AX.t 40) (AX.t 43)) (some (39, true)) 6 false true), (AOp.mk (some 45) (AK.pick (AX.t 39) (AX.t 44) (AX.c (PV.val (Value.bool false)))) none 7 false true)]) (AC.cond (AX.t 45) AC.skip (AC.exit 0))) (AC.seq (AC.block 1 (AC.ops [(AOp.mk (some 48) (AK.fadr 4 (AX.t 1)) none 0 true false), (AOp.mk (some 49) (AK.ld none (AX.t 48)) none 1 true false), (AOp.mk (some 50) (AK.mv (AX.t 4)) none 2 true false), (AOp.mk (some 51) (AK.iadrS 6 (AX.t 49) (AX.t 50)) none 3 true false), (AOp.mk (some 52) (AK.ld (some 6) (AX.t 51)) none 4 true false), (AOp.mk (some 53) (AK.fadr 0 (AX.t 1)) none 5 true false), (AOp.mk (some 54) (AK.ld (some 4) (AX.t 53)) none 6 true false), (AOp.mk (some 55) (AK.call 62 [(AX.t 54)]) none 7 false false), (AOp.mk (some 56) (AK.call 61 [(AX.t 52), (AX.t 55)]) none 8 false true), (AOp.mk (some 3) (AK.mv (AX.t 56)) none 9 true true)])) (AC.ops [(AOp.mk (some 46) (AK.mv (AX.t 4)) none 0 false true), (AOp.mk (some 47) (AK.bin false BinOp.add (AX.t 46) (AX.c (PV.val (Value.int IntKind.i64 1)))) none 1 false true), (AOp.mk (some 4) (AK.mv (AX.t 47)) none 2 false true)])))))) (AC.seq (AC.seq (AC.ops [(AOp.mk (some 5) (AK.mv (AX.c (PV.val (Value.int IntKind.i64 0)))) none 0 false true)]) (AC.block 2 (AC.loop (AC.seq (AC.seq (AC.ops [(AOp.mk (some 57) (AK.mv (AX.t 3)) none 0 false true), (AOp.mk (some 58) (AK.mv (AX.t 57)) none 1 false true), (AOp.mk (some 59) (AK.mv (AX.t 5)) (some (58, true)) 2 false true), (AOp.mk (some 60) (AK.fadr 6 (AX.t 1)) (some (58, true)) 3 false true), (AOp.mk (some 61) (AK.ld none (AX.t 60)) (some (58, true)) 4 false true), (AOp.mk (some 62) (AK.len (AX.t 61)) (some (58, true)) 5 false true), (AOp.mk (some 63) (AK.bin false BinOp.lss (AX.t 59) (AX.t 62)) (some (58, true)) 6 false true), (AOp.mk (some 64) (AK.pick (AX.t 58) (AX.t 63) (AX.c (PV.val (Value.bool false)))) none 7 false true)]) (AC.cond (AX.t 64) AC.skip (AC.exit 2))) (AC.seq (AC.block 3 (AC.ops [(AOp.mk (some 67) (AK.fadr 6 (AX.t 1)) none 0 false true), (AOp.mk (some 68) (AK.ld none (AX.t 67)) none 1 false true), (AOp.mk (some 69) (AK.mv (AX.t 5)) none 2 false true), (AOp.mk (some 70) (AK.iadrS 1 (AX.t 68) (AX.t 69)) none 3 false true), (AOp.mk (some 71) (AK.ld none (AX.t 70)) none 4 false true), (AOp.mk (some 72) (AK.call 60 [(AX.t 71), (AX.c (PV.val (Value.int IntKind.i64 0))), (AX.c (PV.val (Value.int IntKind.i64 50)))]) none 5 false true), (AOp.mk (some 3) (AK.mv (AX.t 72)) none 6 false true)])) (AC.ops [(AOp.mk (some 65) (AK.mv (AX.t 5)) none 0 false true), (AOp.mk (some 66) (AK.bin false BinOp.add (AX.t 65) (AX.c (PV.val (Value.int IntKind.i64 1)))) none 1 false true), (AOp.mk (some 5) (AK.mv (AX.t 66)) none 2 false true)])))))) (AC.seq (AC.ops [(AOp.mk (some 73) (AK.mv (AX.t 3)) none 0 false true), (AOp.mk (some 74) (AK.mv (AX.t 73)) none 1 false true), (AOp.mk (some 75) (AK.fadr 7 (AX.t 1)) (some (74, true)) 2 false true), (AOp.mk (some 76) (AK.ld none (AX.t 75)) (some (74, true)) 3 false true), (AOp.mk (some 77) (AK.iadrS 1 (AX.t 76) (AX.c (PV.val (Value.int IntKind.i64 0)))) (some (74, true)) 4 false true), (AOp.mk (some 78) (AK.ld none (AX.t 77)) (some (74, true)) 5 false true), (AOp.mk (some 79) (AK.bin false BinOp.eql (AX.t 78) (AX.c (PV.val (Value.int IntKind.i64 1)))) (some (74, true)) 6 false true), (AOp.mk (some 80) (AK.pick (AX.t 74) (AX.t 79) (AX.c (PV.val (Value.bool false)))) none 7 false true), (AOp.mk (some 3) (AK.mv (AX.t 80)) none 8 false true)]) (AC.seq (AC.seq (AC.ops [(AOp.mk (some 6) (AK.mv (AX.c (PV.val (Value.int IntKind.i64 1)))) none 0 false true)]) (AC.block 4 (AC.loop (AC.seq (AC.seq (AC.ops [(AOp.mk (some 81) (AK.mv (AX.t 3)) none 0 false true), (AOp.mk (some 82) (AK.mv (AX.t 81)) none 1 false true), (AOp.mk (some 83) (AK.mv (AX.t 6)) (some (82, true)) 2 false true), (AOp.mk (some 84) (AK.fadr 7 (AX.t 1)) (some (82, true)) 3 false true), (AOp.mk (some 85) (AK.ld none (AX.t 84)) (some (82, true)) 4 false true), (AOp.mk (some 86) (AK.len (AX.t 85)) (some (82, true)) 5 false true), (AOp.mk (some 87) (AK.bin false BinOp.lss (AX.t 83) (AX.t 86)) (some (82, true)) 6 false true), (AOp.mk (some 88) (AK.pick (AX.t 82) (AX.t 87) (AX.c (PV.val (Value.bool false)))) none 7 false true)]) (AC.cond (AX.t 88) AC.skip (AC.exit 4))) (AC.seq (AC.block 5 (AC.ops [(AOp.mk (some 91) (AK.fadr 7 (AX.t 1)) none 0 true false), (AOp.mk (some 92) (AK.ld none (AX.t 91)) none 1 true false), (AOp.mk (some 93) (AK.mv (AX.t 6)) none 2 true false), (AOp.mk (some 94) (AK.iadrS 1 (AX.t 92) (AX.t 93)) none 3 true false), (AOp.mk (some 95) (AK.ld none (AX.t 94)) none 4 true false), (AOp.mk (some 96) (AK.fadr 7 (AX.t 1)) none 5 true false), (AOp.mk (some 97) (AK.ld none (AX.t 96)) none 6 true false), (AOp.mk (some 98) (AK.mv (AX.t 6)) none 7 true false), (AOp.mk (some 99) (AK.bin false BinOp.sub (AX.t 98) (AX.c (PV.val (Value.int IntKind.i64 1)))) none 8 true false), (AOp.mk (some 100) (AK.iadrS 1 (AX.t 97) (AX.t 99)) none 9 true false), (AOp.mk (some 101) (AK.ld none (AX.t 100)) none 10 true false), (AOp.mk (some 102) (AK.bin false BinOp.add (AX.t 101) (AX.c (PV.val (Value.int IntKind.i64 1)))) none 11 true false), (AOp.mk (some 103) (AK.call 60 [(AX.t 95), (AX.t 102), (AX.c (PV.val (Value.int IntKind.i64 240)))]) none 12 false true), (AOp.mk (some 3) (AK.mv (AX.t 103)) none 13 true true)])) (AC.ops [(AOp.mk (some 89) (AK.mv (AX.t 6)) none 0 false true), (AOp.mk (some 90) (AK.bin false BinOp.add (AX.t 89) (AX.c (PV.val (Value.int IntKind.i64 1)))) none 1 false true), (AOp.mk (some 6) (AK.mv (AX.t 90)) none 2 false true)])))))) (AC.seq (AC.seq (AC.ops [(AOp.mk (some 104) (AK.mv (AX.t 3)) none 0 false true), (AOp.mk (some 105) (AK.un UnOp.not (AX.t 104)) none 1 false true)]) (AC.cond (AX.t 105) (AC.seq (AC.ops [(AOp.mk (some 2) (AK.mv (AX.c (PV.val (Value.int IntKind.i64 80)))) none 0 false true)]) AC.ret) AC.skip)) (AC.seq (AC.ops [(AOp.mk (some 2) (AK.mv (AX.c (PV.val (Value.int IntKind.i64 0)))) none 0 false true)]) AC.ret))))))))
theorem rkinds_sem (k k2 : SK) {b : MBook} (hz : 0 < b.makers.length) : Sem1 62 [.agg (bookC k k2 b)] (pi (nK b)) := by
  have hfl : b.makers[0].length = nK b := by
    unfold nK
    rw [List.getD_eq_getElem?_getD, List.getElem?_eq_getElem hz]
    rfl
  have e0 : iadrS' 1 (.p (.sl k 1 (rowsC b.makers))) (.p (pi 0)) = some (.p (.ptr [pis b.makers[0]] 0)) := iadr_map (f := fun h => [pis h]) (kd := k) (sz := 1) hz
  refine semC_of_exec' mixed Tryz.func62 (by kernel_rfl) (by kernel_rfl) ac62_ok 1 rfl (by decide) [(.tmp 2)] (by kernel_rfl) ?_
  intro hr C hC hI
  unfold ac62
  simp only [go_sem, Nat.reduceBEq, Nat.reduceAdd, e0, List.length_map, hfl]
  exact retQ_one rfl rfl
end Go.Proofs.YtlcpplkbmlmmbaaGreat.Mk.Me
namespace Go.Proofs.YtlcpplkbmlmmbaaGreat.Mk.Me
open Go.RowKit Ls
def ac43 : AC := (AC.seq (AC.ops [(AOp.mk (some 2) (AK.mv (AX.c (PV.val (Value.int IntKind.i64 0)))) none 0 false true)]) (AC.seq (AC.ops [(AOp.mk (some 3) (AK.mv (AX.c (PV.val (Value.int IntKind.i64 0)))) none 0 false true)]) (AC.seq (AC.seq (AC.ops [(AOp.mk (some 4) (AK.mv (AX.c (PV.val (Value.int IntKind.i64 0)))) none 0 false true)]) (AC.block 0 (AC.loop (AC.seq (AC.seq (AC.ops [(AOp.mk (some 5) (AK.mv (AX.t 4)) none 0 false true), (AOp.mk (some 6) (AK.mv (AX.t 0)) none 1 false true), (AOp.mk (some 7) (AK.len (AX.t 6)) none 2 false true), (AOp.mk (some 8) (AK.bin false BinOp.lss (AX.t 5) (AX.t 7)) none 3 false true)]) (AC.cond (AX.t 8) AC.skip (AC.exit 0))) (AC.seq (AC.block 1 (AC.ops [(AOp.mk (some 11) (AK.mv (AX.t 3)) none 0 false true), (AOp.mk (some 12) (AK.mv (AX.t 0)) none 1 false true), (AOp.mk (some 13) (AK.mv (AX.t 4)) none 2 false true), (AOp.mk (some 14) (AK.iadrS 1 (AX.t 12) (AX.t 13)) none 3 false true), (AOp.mk (some 15) (AK.ld none (AX.t 14)) none 4 false true), (AOp.mk (some 16) (AK.bin false BinOp.shl (AX.c (PV.val (Value.int IntKind.i64 1))) (AX.t 15)) none 5 false true), (AOp.mk (some 17) (AK.bin false BinOp.or (AX.t 11) (AX.t 16)) none 6 false true), (AOp.mk (some 3) (AK.mv (AX.t 17)) none 7 false true)])) (AC.ops [(AOp.mk (some 9) (AK.mv (AX.t 4)) none 0 false true), (AOp.mk (some 10) (AK.bin false BinOp.add (AX.t 9) (AX.c (PV.val (Value.int IntKind.i64 1)))) none 1 false true), (AOp.mk (some 4) (AK.mv (AX.t 10)) none 2 false true)])))))) (AC.seq (AC.ops [(AOp.mk (some 18) (AK.mv (AX.t 3)) none 0 false true), (AOp.mk (some 2) (AK.mv (AX.t 18)) none 1 false true)]) AC.ret))))
def ac76 : AC := (AC.seq (AC.ops [(AOp.mk (some 0) (AK.new (PV.agg [(PV.sl SK.full 0 []), (PV.sl SK.full 0 []), (PV.val (Value.int IntKind.i64 0)), (PV.val (Value.int IntKind.i64 0)), (PV.sl SK.full 0 []), (PV.val (Value.int IntKind.i64 0)), (PV.sl SK.full 0 []), (PV.sl SK.full 0 [])])) none 0 false true)]) (AC.seq (AC.ops [(AOp.mk (some 1) (AK.bslice false 3 1 1 [(PV.val (Value.int IntKind.i64 0))] [(0, (1, (AX.c (PV.val (Value.int IntKind.i64 1)))))]) none 0 false true), (AOp.mk (some 2) (AK.bslice false 3 1 1 [(PV.val (Value.int IntKind.i64 0))] [(0, (1, (AX.c (PV.val (Value.int IntKind.i64 2)))))]) none 1 false true), (AOp.mk (some 3) (AK.bslice false 27 1 2 [(PV.sl SK.full 0 [])] [(0, (1, (AX.t 1))), (1, (1, (AX.t 2)))]) none 2 false true), (AOp.mk (some 4) (AK.build [(PV.sl SK.full 0 []), (PV.sl SK.full 0 []), (PV.val (Value.int IntKind.i64 0)), (PV.val (Value.int IntKind.i64 0))] [(0, (1, (AX.t 3)))]) none 3 false true), (AOp.mk (some 5) (AK.bslice false 3 1 2 [(PV.val (Value.int IntKind.i64 0))] [(0, (1, (AX.c (PV.val (Value.int IntKind.i64 0))))), (1, (1, (AX.c (PV.val (Value.int IntKind.i64 5)))))]) none 4 false true), (AOp.mk (some 6) (AK.bslice false 3 1 1 [(PV.val (Value.int IntKind.i64 0))] [(0, (1, (AX.c (PV.val (Value.int IntKind.i64 1)))))]) none 5 false true), (AOp.mk (some 7) (AK.call 36 [(AX.c (PV.val (Value.int IntKind.i64 1))), (AX.c (PV.val (Value.int IntKind.i64 2)))]) none 6 false true), (AOp.mk (some 8) (AK.call 34 [(AX.c (PV.val (Value.int IntKind.i64 3)))]) none 7 false true), (AOp.mk (some 9) (AK.build [(PV.val (Value.int IntKind.i64 0)), (PV.val (Value.int IntKind.i64 0)), (PV.val (Value.int IntKind.i64 0)), (PV.val (Value.int IntKind.i64 0)), (PV.val (Value.int IntKind.i64 0)), (PV.val (Value.int IntKind.i64 0))] [(1, (2, (AX.t 7))), (3, (2, (AX.t 8))), (5, (1, (AX.c (PV.val (Value.int IntKind.i64 8)))))]) none 8 false true), (AOp.mk (some 10) (AK.bslice false 51 6 1 [(PV.val (Value.int IntKind.i64 0)), (PV.val (Value.int IntKind.i64 0)), (PV.val (Value.int IntKind.i64 0)), (PV.val (Value.int IntKind.i64 0)), (PV.val (Value.int IntKind.i64 0)), (PV.val (Value.int IntKind.i64 0))] [(0, (6, (AX.t 9)))]) none 9 false true), (AOp.mk (some 11) (AK.build [(PV.sl SK.full 0 []), (PV.sl SK.full 0 []), (PV.val (Value.int IntKind.i64 0)), (PV.val (Value.int IntKind.i64 0)), (PV.sl SK.full 0 []), (PV.val (Value.int IntKind.i64 0)), (PV.sl SK.full 0 []), (PV.sl SK.full 0 [])] [(0, (4, (AX.t 4))), (5, (1, (AX.c (PV.val (Value.int IntKind.i64 2))))), (6, (1, (AX.t 5))), (7, (1, (AX.t 6))), (4, (1, (AX.t 10)))]) none 10 false true), (AOp.mk none (AK.st 8 (AX.t 0) (AX.t 11)) none 11 false true)]) AC.ret))
theorem ac76_ok : cCode Tryz.prog (fun _ => false) Tryz.f76.ntmps (Tryz.f76.body.getD .skip) = some ac76 := by kernel_rfl
def ac40 : AC := (AC.seq (AC.ops [(AOp.mk (some 0) (AK.mv (AX.c (PV.val (Value.bool false)))) none 0 false true)]) (AC.seq (AC.ops [(AOp.mk (some 12) (AK.call 76 []) none 0 false true), (AOp.mk (some 13) (AK.fld 0 (some 4) (AX.t 12)) none 1 false true), (AOp.mk (some 14) (AK.call 41 [(AX.t 13)]) none 2 false true), (AOp.mk (some 11) (AK.mv (AX.t 14)) none 3 false true), (AOp.mk (some 15) (AK.ext (AX.t 11) 0) none 4 false true), (AOp.mk (some 16) (AK.ext (AX.t 11) 1) none 5 false true), (AOp.mk (some 1) (AK.mv (AX.t 15)) none 6 false true), (AOp.mk (some 2) (AK.mv (AX.t 16)) none 7 false true)]) (AC.seq (AC.ops [(AOp.mk (some 18) (AK.call 76 []) none 0 false true), (AOp.mk (some 19) (AK.call 22 [(AX.t 18)]) none 1 false true), (AOp.mk (some 17) (AK.mv (AX.t 19)) none 2 false true), (AOp.mk (some 20) (AK.ext (AX.t 17) 0) none 3 false true), (AOp.mk (some 21) (AK.ext (AX.t 17) 1) none 4 false true), (AOp.mk (some 3) (AK.new (PV.agg [(PV.val (Value.int IntKind.i64 0)), (PV.val (Value.int IntKind.i64 0))])) none 5 false true), (AOp.mk none (AK.st 2 (AX.t 3) (AX.t 20)) none 6 false true), (AOp.mk (some 4) (AK.mv (AX.t 21)) none 7 false true)]) (AC.seq (AC.ops [(AOp.mk (some 23) (AK.call 76 []) none 0 false true), (AOp.mk (some 24) (AK.call 26 [(AX.t 23), (AX.c (PV.val (Value.int IntKind.i64 8)))]) none 1 false true), (AOp.mk (some 22) (AK.mv (AX.t 24)) none 2 false true), (AOp.mk (some 25) (AK.ext (AX.t 22) 0) none 3 false true), (AOp.mk (some 26) (AK.ext (AX.t 22) 1) none 4 false true), (AOp.mk (some 5) (AK.mv (AX.t 25)) none 5 false true), (AOp.mk (some 6) (AK.mv (AX.t 26)) none 6 false true)]) (AC.seq (AC.ops [(AOp.mk (some 28) (AK.call 76 []) none 0 false true), (AOp.mk (some 29) (AK.call 15 [(AX.t 28)]) none 1 false true), (AOp.mk (some 27) (AK.mv (AX.t 29)) none 2 false true), (AOp.mk (some 30) (AK.ext (AX.t 27) 0) none 3 false true), (AOp.mk (some 31) (AK.ext (AX.t 27) 1) none 4 false true), (AOp.mk (some 7) (AK.new (PV.agg [(PV.val (Value.int IntKind.i64 0)), (PV.val (Value.int IntKind.i64 0))])) none 5 false true), (AOp.mk none (AK.st 2 (AX.t 7) (AX.t 30)) none 6 false true), (AOp.mk (some 8) (AK.mv (AX.t 31)) none 7 false true)]) (AC.seq (AC.ops [(AOp.mk (some 33) (AK.call 76 []) none 0 false true), (AOp.mk (some 34) (AK.fld 0 (some 4) (AX.t 33)) none 1 false true), (AOp.mk (some 35) (AK.call 77 [(AX.t 34), (AX.c (PV.val (Value.int IntKind.i64 0)))]) none 2 false true), (AOp.mk (some 32) (AK.mv (AX.t 35)) none 3 false true), (AOp.mk (some 36) (AK.ext (AX.t 32) 0) none 4 false true), (AOp.mk (some 37) (AK.ext (AX.t 32) 1) none 5 false true), (AOp.mk (some 9) (AK.mv (AX.t 36)) none 6 false true), (AOp.mk (some 10) (AK.mv (AX.t 37)) none 7 false true)]) (AC.seq (AC.ops [(AOp.mk (some 38) (AK.mv (AX.t 2)) none 0 true true), (AOp.mk (some 39) (AK.bin false BinOp.eql (AX.t 38) (AX.c (PV.val (Value.int IntKind.i64 0)))) none 1 true true), (AOp.mk (some 40) (AK.mv (AX.t 39)) none 2 true true), (AOp.mk (some 41) (AK.mv (AX.t 4)) (some (40, true)) 3 true true), (AOp.mk (some 42) (AK.bin false BinOp.eql (AX.t 41) (AX.c (PV.val (Value.int IntKind.i64 0)))) (some (40, true)) 4 true true), (AOp.mk (some 43) (AK.pick (AX.t 40) (AX.t 42) (AX.c (PV.val (Value.bool false)))) none 5 true true), (AOp.mk (some 44) (AK.mv (AX.t 43)) none 6 true true), (AOp.mk (some 45) (AK.mv (AX.t 6)) (some (44, true)) 7 true true), (AOp.mk (some 46) (AK.bin false BinOp.eql (AX.t 45) (AX.c (PV.val (Value.int IntKind.i64 0)))) (some (44, true)) 8 true true), (AOp.mk (some 47) (AK.pick (AX.t 44) (AX.t 46) (AX.c (PV.val (Value.bool false)))) none 9 true true), (AOp.mk (some 48) (AK.mv (AX.t 47)) none 10 true true), (AOp.mk (some 49) (AK.mv (AX.t 8)) (some (48, true)) 11 true true), (AOp.mk (some 50) (AK.bin false BinOp.eql (AX.t 49) (AX.c (PV.val (Value.int IntKind.i64 0)))) (some (48, true)) 12 true true), (AOp.mk (some 51) (AK.pick (AX.t 48) (AX.t 50) (AX.c (PV.val (Value.bool false)))) none 13 true true), (AOp.mk (some 52) (AK.mv (AX.t 51)) none 14 true true), (AOp.mk (some 53) (AK.mv (AX.t 10)) (some (52, true)) 15 true true), (AOp.mk (some 54) (AK.bin false BinOp.eql (AX.t 53) (AX.c (PV.val (Value.int IntKind.i64 0)))) (some (52, true)) 16 true true), (AOp.mk (some 55) (AK.pick (AX.t 52) (AX.t 54) (AX.c (PV.val (Value.bool false)))) none 17 true true), (AOp.mk (some 56) (AK.mv (AX.t 55)) none 18 true true), (AOp.mk (some 57) (AK.mv (AX.t 1)) (some (56, true)) 19 true false), (AOp.mk (some 58) (AK.bslice false 3 1 2 [(PV.val (Value.int IntKind.i64 0))] [(0, (1, (AX.c (PV.val (Value.int IntKind.i64 0))))), (1, (1, (AX.c (PV.val (Value.int IntKind.i64 1)))))]) (some (56, true)) 20 false true), (AOp.mk (some 59) (AK.call 28 [(AX.t 57), (AX.t 58)]) (some (56, true)) 21 false true), (AOp.mk (some 60) (AK.pick (AX.t 56) (AX.t 59) (AX.c (PV.val (Value.bool false)))) none 22 true true), (AOp.mk (some 61) (AK.mv (AX.t 60)) none 23 true true), (AOp.mk (some 62) (AK.ld (some 2) (AX.t 3)) (some (61, true)) 24 true false), (AOp.mk (some 63) (AK.call 36 [(AX.c (PV.val (Value.int IntKind.i64 5))), (AX.c (PV.val (Value.int IntKind.i64 8)))]) (some (61, true)) 25 false false), (AOp.mk (some 64) (AK.eqs [CK.i, CK.i] false (AX.t 62) (AX.t 63)) (some (61, true)) 26 true true), (AOp.mk (some 65) (AK.pick (AX.t 61) (AX.t 64) (AX.c (PV.val (Value.bool false)))) none 27 true true), (AOp.mk (some 66) (AK.mv (AX.t 65)) none 28 true true), (AOp.mk (some 67) (AK.mv (AX.t 5)) (some (66, true)) 29 true false), (AOp.mk (some 68) (AK.bslice false 3 1 1 [(PV.val (Value.int IntKind.i64 0))] [(0, (1, (AX.c (PV.val (Value.int IntKind.i64 1)))))]) (some (66, true)) 30 false true), (AOp.mk (some 69) (AK.call 28 [(AX.t 67), (AX.t 68)]) (some (66, true)) 31 false true), (AOp.mk (some 70) (AK.pick (AX.t 66) (AX.t 69) (AX.c (PV.val (Value.bool false)))) none 32 true true), (AOp.mk (some 71) (AK.mv (AX.t 70)) none 33 true true), (AOp.mk (some 72) (AK.ld (some 2) (AX.t 7)) (some (71, true)) 34 true false), (AOp.mk (some 73) (AK.call 36 [(AX.c (PV.val (Value.int IntKind.i64 0))), (AX.c (PV.val (Value.int IntKind.i64 4)))]) (some (71, true)) 35 false false), (AOp.mk (some 74) (AK.eqs [CK.i, CK.i] false (AX.t 72) (AX.t 73)) (some (71, true)) 36 true true), (AOp.mk (some 75) (AK.pick (AX.t 71) (AX.t 74) (AX.c (PV.val (Value.bool false)))) none 37 true true), (AOp.mk (some 76) (AK.mv (AX.t 75)) none 38 true true), (AOp.mk (some 77) (AK.mv (AX.t 9)) (some (76, true)) 39 true false), (AOp.mk (some 78) (AK.bslice false 3 1 2 [(PV.val (Value.int IntKind.i64 0))] [(0, (1, (AX.c (PV.val (Value.int IntKind.i64 0))))), (1, (1, (AX.c (PV.val (Value.int IntKind.i64 1)))))]) (some (76, true)) 40 false true), (AOp.mk (some 79) (AK.call 28 [(AX.t 77), (AX.t 78)]) (some (76, true)) 41 false true), (AOp.mk (some 80) (AK.pick (AX.t 76) (AX.t 79) (AX.c (PV.val (Value.bool false)))) none 42 true true), (AOp.mk (some 0) (AK.mv (AX.t 80)) none 43 true true)]) AC.ret)))))))
theorem ac40_ok : cCode Tryz.prog (fun _ => false) Tryz.f40.ntmps (Tryz.f40.body.getD .skip) = some ac40 := by kernel_rfl
def ac39 : AC := (AC.seq (AC.ops [(AOp.mk (some 1) (AK.box 8 (AX.t 0)) none 0 false true), (AOp.mk (some 2) (AK.mv (AX.c (PV.val (Value.bool false)))) none 1 false true)]) (AC.seq (AC.ops [(AOp.mk (some 6) (AK.ld (some 8) (AX.t 1)) none 0 false true), (AOp.mk (some 7) (AK.call 13 [(AX.t 6)]) none 1 false true), (AOp.mk (some 8) (AK.bin false BinOp.eql (AX.t 7) (AX.c (PV.val (Value.int IntKind.i64 0)))) none 2 false true), (AOp.mk (some 9) (AK.mv (AX.t 8)) none 3 false true), (AOp.mk (some 10) (AK.fadr 0 (AX.t 1)) (some (9, true)) 4 false true), (AOp.mk (some 11) (AK.ld (some 4) (AX.t 10)) (some (9, true)) 5 false true), (AOp.mk (some 12) (AK.call 73 [(AX.t 11)]) (some (9, true)) 6 false true), (AOp.mk (some 13) (AK.bin false BinOp.eql (AX.t 12) (AX.c (PV.val (Value.int IntKind.i64 0)))) (some (9, true)) 7 false true), (AOp.mk (some 14) (AK.pick (AX.t 9) (AX.t 13) (AX.c (PV.val (Value.bool false)))) none 8 false true), (AOp.mk (some 15) (AK.mv (AX.t 14)) none 9 false true), (AOp.mk (some 16) (AK.fadr 0 (AX.t 1)) (some (15, true)) 10 false true), (AOp.mk (some 17) (AK.fadr 0 (AX.t 16)) (some (15, true)) 11 false true), (AOp.mk (some 18) (AK.ld none (AX.t 17)) (some (15, true)) 12 false true), (AOp.mk (some 19) (AK.len (AX.t 18)) (some (15, true)) 13 false true), (AOp.mk (some 20) (AK.call 60 [(AX.t 19), (AX.c (PV.val (Value.int IntKind.i64 1))), (AX.c (PV.val (Value.int IntKind.i64 5)))]) (some (15, true)) 14 false true), (AOp.mk (some 21) (AK.pick (AX.t 15) (AX.t 20) (AX.c (PV.val (Value.bool false)))) none 15 false true), (AOp.mk (some 22) (AK.mv (AX.t 21)) none 16 false true), (AOp.mk (some 23) (AK.fadr 6 (AX.t 1)) (some (22, true)) 17 false true), (AOp.mk (some 24) (AK.ld none (AX.t 23)) (some (22, true)) 18 false true), (AOp.mk (some 25) (AK.len (AX.t 24)) (some (22, true)) 19 false true), (AOp.mk (some 26) (AK.fadr 0 (AX.t 1)) (some (22, true)) 20 false true), (AOp.mk (some 27) (AK.fadr 0 (AX.t 26)) (some (22, true)) 21 false true), (AOp.mk (some 28) (AK.ld none (AX.t 27)) (some (22, true)) 22 false true), (AOp.mk (some 29) (AK.len (AX.t 28)) (some (22, true)) 23 false true), (AOp.mk (some 30) (AK.bin false BinOp.eql (AX.t 25) (AX.t 29)) (some (22, true)) 24 false true), (AOp.mk (some 31) (AK.pick (AX.t 22) (AX.t 30) (AX.c (PV.val (Value.bool false)))) none 25 false true), (AOp.mk (some 32) (AK.mv (AX.t 31)) none 26 false true), (AOp.mk (some 33) (AK.fadr 4 (AX.t 1)) (some (32, true)) 27 false true), (AOp.mk (some 34) (AK.ld none (AX.t 33)) (some (32, true)) 28 false true), (AOp.mk (some 35) (AK.len (AX.t 34)) (some (32, true)) 29 false true), (AOp.mk (some 36) (AK.call 60 [(AX.t 35), (AX.c (PV.val (Value.int IntKind.i64 1))), (AX.c (PV.val (Value.int IntKind.i64 4)))]) (some (32, true)) 30 false true), (AOp.mk (some 37) (AK.pick (AX.t 32) (AX.t 36) (AX.c (PV.val (Value.bool false)))) none 31 false true), (AOp.mk (some 3) (AK.mv (AX.t 37)) none 32 false true)]) (AC.seq (AC.seq (AC.ops [(AOp.mk (some 4) (AK.mv (AX.c (PV.val (Value.int IntKind.i64 0)))) none 0 false true)]) (AC.block 0 (AC.loop (AC.seq (AC.seq (AC.ops [(AOp.mk (some 38) (AK.mv (AX.t 3)) none 0 false true), (AOp.mk (some 39) (AK.mv (AX.t 38)) none 1 false true), (AOp.mk (some 40) (AK.mv (AX.t 4)) (some (39, true)) 2 false true), (AOp.mk (some 41) (AK.fadr 4 (AX.t 1)) (some (39, true)) 3 false true), (AOp.mk (some 42) (AK.ld none (AX.t 41)) (some (39, true)) 4 false true), (AOp.mk (some 43) (AK.len (AX.t 42)) (some (39, true)) 5 false true), (AOp.mk (some 44) (AK.bin false BinOp.lss (AX.t 40) (AX.t 43)) (some (39, true)) 6 false true), (AOp.mk (some 45) (AK.pick (AX.t 39) (AX.t 44) (AX.c (PV.val (Value.bool false)))) none 7 false true)]) (AC.cond (AX.t 45) AC.skip (AC.exit 0))) (AC.seq (AC.block 1 (AC.seq (AC.ops [(AOp.mk (some 48) (AK.fadr 4 (AX.t 1)) none 0 false true), (AOp.mk (some 49) (AK.ld none (AX.t 48)) none 1 false true), (AOp.mk (some 50) (AK.mv (AX.t 4)) none 2 false true), (AOp.mk (some 51) (AK.iadrS 6 (AX.t 49) (AX.t 50)) none 3 false true), (AOp.mk (some 52) (AK.ld (some 6) (AX.t 51)) none 4 false true), (AOp.mk (some 5) (AK.new (PV.agg [(PV.val (Value.int IntKind.i64 0)), (PV.val (Value.int IntKind.i64 0)), (PV.val (Value.int IntKind.i64 0)), (PV.val (Value.int IntKind.i64 0)), (PV.val (Value.int IntKind.i64 0)), (PV.val (Value.int IntKind.i64 0))])) none 5 false true), (AOp.mk none (AK.st 6 (AX.t 5) (AX.t 52)) none 6 false true)]) (AC.ops [(AOp.mk (some 53) (AK.fadr 1 (AX.t 5)) none 0 false true), (AOp.mk (some 54) (AK.ld (some 2) (AX.t 53)) none 1 false true), (AOp.mk (some 55) (AK.call 74 [(AX.t 54), (AX.c (PV.val (Value.int IntKind.i64 0))), (AX.c (PV.val (Value.int IntKind.i64 20)))]) none 2 false true), (AOp.mk (some 56) (AK.mv (AX.t 55)) none 3 false true), (AOp.mk (some 57) (AK.fadr 3 (AX.t 5)) (some (56, true)) 4 false true), (AOp.mk (some 58) (AK.ld (some 2) (AX.t 57)) (some (56, true)) 5 false true), (AOp.mk (some 59) (AK.call 74 [(AX.t 58), (AX.c (PV.val (Value.int IntKind.i64 0))), (AX.c (PV.val (Value.int IntKind.i64 99)))]) (some (56, true)) 6 false true), (AOp.mk (some 60) (AK.pick (AX.t 56) (AX.t 59) (AX.c (PV.val (Value.bool false)))) none 7 false true), (AOp.mk (some 3) (AK.mv (AX.t 60)) none 8 false true)]))) (AC.ops [(AOp.mk (some 46) (AK.mv (AX.t 4)) none 0 false true), (AOp.mk (some 47) (AK.bin false BinOp.add (AX.t 46) (AX.c (PV.val (Value.int IntKind.i64 1)))) none 1 false true), (AOp.mk (some 4) (AK.mv (AX.t 47)) none 2 false true)])))))) (AC.seq (AC.ops [(AOp.mk (some 61) (AK.mv (AX.t 3)) none 0 false true), (AOp.mk (some 2) (AK.mv (AX.t 61)) none 1 false true)]) AC.ret))))
theorem ac39_ok : cCode Tryz.prog (fun _ => false) Tryz.f39.ntmps (Tryz.f39.body.getD .skip) = some ac39 := by kernel_rfl
def setOf (l : List Nat) : Nat := l.foldl (fun s m => s ||| 2 ^ m) 0
def coltB : EBook := ⟨⟨[[1], [2]], [], 0, 0⟩, [⟨0, 1, 2, 3, 3, 8⟩], 2, [0, 5], [1]⟩
abbrev colK : KS := ⟨.full, .sh, .full, .full, .full⟩
theorem colt_sem : Sem1 76 [] (.agg (ebC colK coltB)) := by
  refine semC_of_exec' mixed Tryz.func76 (by kernel_rfl) (by kernel_rfl) ac76_ok 0 rfl (by decide) [(.cell 0 29)] (by kernel_rfl) ?_
  intro hr C hC hI
  unfold ac76
  simp only [go_sem, Nat.reduceBEq, Nat.reduceAdd, Nat.reduceLeDiff, putCells]
  refine call_pure2 hC (From_sem ..) rfl (PVleL_refl _) ?_
  rintro r rfl
  simp only [go_sem]
  refine call_pure2 hC (One_sem ..) rfl (PVleL_refl _) ?_
  rintro r rfl
  simp only [go_sem, Nat.reduceBEq, Nat.reduceAdd, Nat.reduceLeDiff]
  refine retQ_cell_le (n := some 8) (by kernel_rfl) rfl ?_ rfl
  exact PVle.agg (show PVleL [_, _, _, _, _, _, _, _] [_, _, _, _, _, _, _, _] from ⟨PVle.rowsK (show PVleR [_, _] [_, _] from ⟨⟨PVle.sh _ _ _, trivial⟩, ⟨PVle.sh _ _ _, trivial⟩, trivial⟩), PVle.nil _ _ _, PVle.refl _, PVle.refl _, PVle.refl _, PVle.refl _, PVle.refl _, PVle.refl _, trivial⟩)
abbrev cB : PV := .agg (ebC colK coltB)
theorem cv_who : Sem1 41 [.agg (bookC .full .sh coltB.mb)] (.tup [pis [0, 1], pi 0]) := (Mk.Who_sem .full .sh coltB.mb).mono fun _ h => h.trans (by kernel_rfl)
theorem cv_bill : Sem1 22 [cB] (.tup [psp 5 8, pi 0]) := (Bill_sem colK coltB).mono fun _ h => h.trans (by kernel_rfl)
theorem cv_whose : Sem1 26 [cB, pi 8] (.tup [pis [1], pi 0]) := (Whose_sem colK coltB 8).mono fun _ h => h.trans (by kernel_rfl)
theorem cv_loss : Sem1 15 [cB] (.tup [psp 0 4, pi 0]) := (Loss_sem colK coltB).mono fun _ h => h.trans (by kernel_rfl)
theorem cv_values : Sem1 77 [.agg (bookC .full .sh coltB.mb), pi 0] (.tup [pis [0, 1], pi 0]) := (Mk.Values_sem .full .sh coltB.mb 0).mono fun _ h => h.trans (by kernel_rfl)
set_option maxRecDepth 20000 in
theorem paid08_sem : Sem1 40 [] (pb true) := by
  have x1 := cv_who
  have x2 := cv_bill
  have x3 := cv_whose
  have x4 := cv_loss
  have x5 := cv_values
  have y0 := colt_sem
  refine semC_of_exec' mixed Tryz.func40 (by kernel_rfl) (by kernel_rfl) ac40_ok 0 rfl (by decide) [(.tmp 0)] (by kernel_rfl) ?_
  intro hr C hC hI
  unfold ac40
  simp only [go_sem]
  refine call_pure2 hC (y0) rfl (PVleL_refl _) ?_
  rintro r rfl
  simp only [go_sem, Nat.reduceBEq, Nat.reduceAdd, Nat.reduceLeDiff]
  refine call_pure2 hC (x1) rfl (PVleL_refl _) ?_
  rintro r rfl
  simp only [go_sem, Nat.reduceBEq]
  refine call_pure2 hC (y0) rfl (PVleL_refl _) ?_
  rintro r rfl
  simp only [go_sem, Nat.reduceBEq]
  refine call_pure2 hC (x2) rfl (PVleL_refl _) ?_
  rintro r rfl
  simp only [go_sem, Nat.reduceBEq, Nat.reduceAdd, putCells]
  refine call_pure2 hC (y0) rfl (PVleL_refl _) ?_
  rintro r rfl
  simp only [go_sem, Nat.reduceBEq]
  refine call_pure2 hC (x3) rfl (PVleL_refl _) ?_
  rintro r rfl
  simp only [go_sem, Nat.reduceBEq]
  refine call_pure2 hC (y0) rfl (PVleL_refl _) ?_
  rintro r rfl
  simp only [go_sem, Nat.reduceBEq]
  refine call_pure2 hC (x4) rfl (PVleL_refl _) ?_
  rintro r rfl
  simp only [go_sem, Nat.reduceBEq, Nat.reduceAdd, putCells]
  refine call_pure2 hC (y0) rfl (PVleL_refl _) ?_
  rintro r rfl
  simp only [go_sem, Nat.reduceBEq, Nat.reduceAdd, Nat.reduceLeDiff]
  refine call_pure2 hC (x5) rfl (PVleL_refl _) ?_
  rintro r rfl
  simp only [go_sem, Nat.reduceBEq, Nat.reduceAdd, Nat.reduceLeDiff, putCells, decide_true]
  refine call_pure2 hC (Equal_sem [0, 1] [0, 1]) rfl ⟨PVle.refl _, PVle.sh _ _ _, trivial⟩ ?_
  rintro r rfl
  simp only [go_sem, Nat.reduceBEq, Nat.reduceAdd, decide_true, Bool.false_eq_true]
  refine call_pure2 hC (From_sem 5 8) rfl (PVleL_refl _) ?_
  rintro r rfl
  simp only [go_sem, Nat.reduceBEq, putCells, decide_true, Bool.true_and]
  refine call_pure2 hC (Equal_sem [1] [1]) rfl ⟨PVle.refl _, PVle.sh _ _ _, trivial⟩ ?_
  rintro r rfl
  simp only [go_sem, Nat.reduceBEq, Nat.reduceAdd, decide_true, Bool.false_eq_true]
  refine call_pure2 hC (From_sem 0 4) rfl (PVleL_refl _) ?_
  rintro r rfl
  simp only [go_sem, Nat.reduceBEq, Nat.reduceAdd, Nat.reduceLeDiff, putCells, decide_true, Bool.true_and]
  refine call_pure2 hC (Equal_sem [0, 1] [0, 1]) rfl ⟨PVle.refl _, PVle.sh _ _ _, trivial⟩ ?_
  rintro r rfl
  simp only [go_sem, Nat.reduceBEq, decide_true]
  exact retQ_one rfl rfl
theorem small08_sem (κ : KS) (b : EBook) : Sem1 39 [.agg (ebC κ b)] (pb (decide (okE b))) := by
  by_cases ho : okE b
  rotate_left
  · rw [decide_eq_false ho]
    refine semC_of_exec' mixed Tryz.func39 (by kernel_rfl) (by kernel_rfl) ac39_ok 1 rfl (by decide) [(.tmp 2)] (by kernel_rfl) ?_
    intro hr C hC hI
    unfold ac39
    simp only [go_sem, Nat.reduceBEq, Nat.reduceAdd]
    refine call_pure2 hC (Check_sem κ b) rfl (PVleL_refl _) ?_
    rintro r rfl
    simp only [go_sem, Nat.reduceBEq, if_neg ho, decide_false, Int.reduceEq]
    refine loop_k 0 (fun _ => True) [1] (fun i => [(3, .p (pb false)), (4, .p (pi 0))]) trivial rfl ⟨rfl, by simp, by simp⟩ (by simp [wkT, look, AV.lo]) ?_
    rintro i -
    simp only [go_sem, Nat.reduceBEq]
    exact retQ_one rfl rfl
  rw [decide_eq_true ho]
  obtain ⟨hm, hj, hx, hjs, hxs, hr, hcs⟩ := id ho
  have h1 := hm.1.1
  have hxe : (b.extra.length : Int) = b.mb.makers.length := by omega
  refine semC_of_exec' mixed Tryz.func39 (by kernel_rfl) (by kernel_rfl) ac39_ok 1 rfl (by decide) [(.tmp 2)] (by kernel_rfl) ?_
  intro hr C hC hI
  unfold ac39
  simp only [go_sem, Nat.reduceBEq, Nat.reduceAdd]
  refine call_pure2 hC (Check_sem κ b) rfl (PVleL_refl _) ?_
  rintro r rfl
  simp only [go_sem, Nat.reduceBEq, Nat.reduceAdd, Nat.reduceLeDiff, if_pos ho, decide_true]
  refine call_pure2 hC (Mk.Check_sem κ.a κ.b b.mb) rfl (PVleL_refl _) ?_
  rintro r rfl
  simp only [go_sem, Nat.reduceBEq, if_pos hm, List.length_map, decide_true]
  refine call_pure2 hC (In_sem ..) rfl (PVleL_refl _) ?_
  rintro r rfl
  simp only [go_sem, Nat.reduceBEq, decide_eq_true (show (1 : Int) ≤ b.mb.makers.length ∧ (b.mb.makers.length : Int) ≤ 5 by omega), List.length_map, eq_true hxe, decide_true]
  refine call_pure2 hC (In_sem ..) rfl (PVleL_refl _) ?_
  rintro r rfl
  simp only [go_sem, Nat.reduceBEq, decide_eq_true (show (1 : Int) ≤ b.jobs.length ∧ (b.jobs.length : Int) ≤ 4 by omega)]
  refine loop_k b.jobs.length (fun _ => True) [1] (fun i => [(3, .p (pb true)), (4, .p (pi i))]) trivial rfl ⟨rfl, by simp, by simp⟩ (by simp [wkT, look, AV.lo]) ?_
  rintro i ⟨hi, -⟩
  simp only [go_sem, Nat.reduceBEq, List.length_map]
  refine ⟨fun c5 => ?_, fun c5 => ?_⟩
  · have hi2 : i < b.jobs.length := by omega
    obtain ⟨⟨q1, q2⟩, q3, q4, q5⟩ := hjs _ (List.getElem_mem hi2)
    have ei := iadr_map (f := jobC) (kd := κ.c) (sz := 6) hi2
    simp only [go_sem, Nat.reduceBEq, Nat.reduceAdd, Nat.reduceLeDiff, ei, putCells]
    refine call_pure2 hC (Ordered_sem b.jobs[i].hl b.jobs[i].hh 0 20) rfl (PVleL_refl _) ?_
    rintro _ rfl
    simp only [go_sem, Nat.reduceBEq, Nat.reduceAdd, Nat.reduceLeDiff, decide_eq_true (show 0 ≤ b.jobs[i].hl ∧ b.jobs[i].hl ≤ b.jobs[i].hh ∧ b.jobs[i].hh ≤ 20 by omega)]
    refine call_pure2 hC (Ordered_sem b.jobs[i].pl b.jobs[i].ph 0 99) rfl (PVleL_refl _) ?_
    rintro _ rfl
    simp only [go_sem, Nat.reduceBEq, decide_eq_true (show 0 ≤ b.jobs[i].pl ∧ b.jobs[i].pl ≤ b.jobs[i].ph ∧ b.jobs[i].ph ≤ 99 by omega), wrap_succ (k := i) (by omega)]
    refine ⟨⟨i + 1, hi2, trivial⟩, by simp only; omega, ?_⟩
    simp [Wk, wkT, wkL, look, AV.lo, AV.lo.loL, ABlk.toZ]
  have hin : i = b.jobs.length := by omega
  subst hin
  exact retQ_one rfl rfl
end Go.Proofs.YtlcpplkbmlmmbaaGreat.Mk.Me
namespace Go.Proofs.YtlcpplkbmlmmbaaGreat.Mk.Me
open Go.RowKit Ls
def ac56 : AC := (AC.seq (AC.ops [(AOp.mk (some 3) (AK.box 8 (AX.t 0)) none 0 false true), (AOp.mk (some 4) (AK.box 2 (AX.t 1)) none 1 false true), (AOp.mk (some 6) (AK.mv (AX.c (PV.sl SK.full 0 []))) none 2 false true)]) (AC.seq (AC.ops [(AOp.mk (some 7) (AK.mv (AX.c (PV.sl SK.full 0 []))) none 0 false true)]) (AC.seq (AC.ops [(AOp.mk (some 12) (AK.fadr 4 (AX.t 3)) none 0 false true), (AOp.mk (some 13) (AK.ld none (AX.t 12)) none 1 false true), (AOp.mk (some 14) (AK.mv (AX.t 2)) none 2 false true), (AOp.mk (some 15) (AK.iadrS 6 (AX.t 13) (AX.t 14)) none 3 false true), (AOp.mk (some 16) (AK.ld (some 6) (AX.t 15)) none 4 false true), (AOp.mk (some 8) (AK.new (PV.agg [(PV.val (Value.int IntKind.i64 0)), (PV.val (Value.int IntKind.i64 0)), (PV.val (Value.int IntKind.i64 0)), (PV.val (Value.int IntKind.i64 0)), (PV.val (Value.int IntKind.i64 0)), (PV.val (Value.int IntKind.i64 0))])) none 5 false true), (AOp.mk none (AK.st 6 (AX.t 8) (AX.t 16)) none 6 false true)]) (AC.seq (AC.ops [(AOp.mk (some 9) (AK.mv (AX.c (PV.val (Value.int IntKind.i64 0)))) none 0 false true)]) (AC.seq (AC.seq (AC.ops [(AOp.mk (some 17) (AK.fadr 1 (AX.t 4)) none 0 false true), (AOp.mk (some 18) (AK.ld none (AX.t 17)) none 1 false true), (AOp.mk (some 19) (AK.fadr 0 (AX.t 8)) none 2 false true), (AOp.mk (some 20) (AK.ld none (AX.t 19)) none 3 false true), (AOp.mk (some 21) (AK.call 80 [(AX.t 18), (AX.t 20)]) none 4 false true), (AOp.mk (some 22) (AK.un UnOp.not (AX.t 21)) none 5 false true)]) (AC.cond (AX.t 22) (AC.ops [(AOp.mk (some 23) (AK.fadr 6 (AX.t 3)) none 0 false true), (AOp.mk (some 24) (AK.ld none (AX.t 23)) none 1 false true), (AOp.mk (some 25) (AK.fadr 0 (AX.t 4)) none 2 false true), (AOp.mk (some 26) (AK.ld none (AX.t 25)) none 3 false true), (AOp.mk (some 27) (AK.iadrS 1 (AX.t 24) (AX.t 26)) none 4 false true), (AOp.mk (some 28) (AK.ld none (AX.t 27)) none 5 false true), (AOp.mk (some 9) (AK.mv (AX.t 28)) none 6 false true)]) AC.skip)) (AC.seq (AC.seq (AC.ops [(AOp.mk (some 29) (AK.fadr 1 (AX.t 8)) none 0 false true), (AOp.mk (some 30) (AK.fadr 0 (AX.t 29)) none 1 false true), (AOp.mk (some 31) (AK.ld none (AX.t 30)) none 2 false true), (AOp.mk (some 10) (AK.mv (AX.t 31)) none 3 false true)]) (AC.block 0 (AC.loop (AC.seq (AC.seq (AC.ops [(AOp.mk (some 32) (AK.mv (AX.t 10)) none 0 false true), (AOp.mk (some 33) (AK.fadr 1 (AX.t 8)) none 1 false true), (AOp.mk (some 34) (AK.fadr 1 (AX.t 33)) none 2 false true), (AOp.mk (some 35) (AK.ld none (AX.t 34)) none 3 false true), (AOp.mk (some 36) (AK.bin false BinOp.leq (AX.t 32) (AX.t 35)) none 4 false true)]) (AC.cond (AX.t 36) AC.skip (AC.exit 0))) (AC.seq (AC.block 1 (AC.seq (AC.ops [(AOp.mk (some 39) (AK.fadr 3 (AX.t 8)) none 0 false true), (AOp.mk (some 40) (AK.fadr 0 (AX.t 39)) none 1 false true), (AOp.mk (some 41) (AK.ld none (AX.t 40)) none 2 false true), (AOp.mk (some 11) (AK.mv (AX.t 41)) none 3 false true)]) (AC.block 2 (AC.loop (AC.seq (AC.seq (AC.ops [(AOp.mk (some 42) (AK.mv (AX.t 11)) none 0 false true), (AOp.mk (some 43) (AK.fadr 3 (AX.t 8)) none 1 false true), (AOp.mk (some 44) (AK.fadr 1 (AX.t 43)) none 2 false true), (AOp.mk (some 45) (AK.ld none (AX.t 44)) none 3 false true), (AOp.mk (some 46) (AK.bin false BinOp.leq (AX.t 42) (AX.t 45)) none 4 false true)]) (AC.cond (AX.t 46) AC.skip (AC.exit 2))) (AC.seq (AC.block 3 (AC.ops [(AOp.mk (some 49) (AK.mv (AX.t 7)) none 0 false true), (AOp.mk (some 50) (AK.mv (AX.t 10)) none 1 false true), (AOp.mk (some 51) (AK.fadr 5 (AX.t 3)) none 2 false true), (AOp.mk (some 52) (AK.ld none (AX.t 51)) none 3 false true), (AOp.mk (some 53) (AK.bin false BinOp.mul (AX.t 50) (AX.t 52)) none 4 false true), (AOp.mk (some 54) (AK.mv (AX.t 11)) none 5 false true), (AOp.mk (some 55) (AK.bin false BinOp.add (AX.t 53) (AX.t 54)) none 6 false true), (AOp.mk (some 56) (AK.mv (AX.t 9)) none 7 false true), (AOp.mk (some 57) (AK.bin false BinOp.add (AX.t 55) (AX.t 56)) none 8 false true), (AOp.mk (some 58) (AK.bslice false 3 1 1 [(PV.val (Value.int IntKind.i64 0))] [(0, (1, (AX.t 57)))]) none 9 false true), (AOp.mk (some 59) (AK.app false 3 1 8 [(PV.val (Value.int IntKind.i64 0))] (AX.t 49) (AX.t 58)) none 10 false true), (AOp.mk (some 7) (AK.mv (AX.t 59)) none 11 false true)])) (AC.ops [(AOp.mk (some 47) (AK.mv (AX.t 11)) none 0 false true), (AOp.mk (some 48) (AK.bin false BinOp.add (AX.t 47) (AX.c (PV.val (Value.int IntKind.i64 1)))) none 1 false true), (AOp.mk (some 11) (AK.mv (AX.t 48)) none 2 false true)]))))))) (AC.ops [(AOp.mk (some 37) (AK.mv (AX.t 10)) none 0 false true), (AOp.mk (some 38) (AK.bin false BinOp.add (AX.t 37) (AX.c (PV.val (Value.int IntKind.i64 1)))) none 1 false true), (AOp.mk (some 10) (AK.mv (AX.t 38)) none 2 false true)])))))) (AC.seq (AC.ops [(AOp.mk (some 60) (AK.mv (AX.t 7)) none 0 false true), (AOp.mk (some 6) (AK.mv (AX.t 60)) none 1 false true)]) AC.ret)))))))
def rowC (b : EBook) (t : Nat × Nat) (j : Job) (q u : Nat) : List Int := (List.range u).map fun (v : Nat) => costI b t j (j.hl + q) (j.pl + v)
def costsTo (b : EBook) (t : Nat × Nat) (j : Job) (M q : Nat) : List Int := (List.range q).flatMap fun q => rowC b t j q M
end Go.Proofs.YtlcpplkbmlmmbaaGreat.Mk.Me
namespace Go.Proofs.YtlcpplkbmlmmbaaGreat.Mk.Me
open Go.RowKit Ls
def ac46 : AC := (AC.seq (AC.ops [(AOp.mk (some 2) (AK.box 2 (AX.t 0)) none 0 false true), (AOp.mk (some 3) (AK.box 2 (AX.t 1)) none 1 false true), (AOp.mk (some 4) (AK.new (PV.agg [(PV.val (Value.int IntKind.i64 0)), (PV.val (Value.int IntKind.i64 0))])) none 2 false true)]) (AC.seq (AC.ops [(AOp.mk (some 5) (AK.fadr 0 (AX.t 2)) none 0 false true), (AOp.mk (some 6) (AK.ld none (AX.t 5)) none 1 false true), (AOp.mk (some 7) (AK.fadr 0 (AX.t 3)) none 2 false true), (AOp.mk (some 8) (AK.ld none (AX.t 7)) none 3 false true), (AOp.mk (some 9) (AK.mx false [(AX.t 6), (AX.t 8)]) none 4 false true), (AOp.mk (some 10) (AK.fadr 1 (AX.t 2)) none 5 false true), (AOp.mk (some 11) (AK.ld none (AX.t 10)) none 6 false true), (AOp.mk (some 12) (AK.fadr 1 (AX.t 3)) none 7 false true), (AOp.mk (some 13) (AK.ld none (AX.t 12)) none 8 false true), (AOp.mk (some 14) (AK.mx true [(AX.t 11), (AX.t 13)]) none 9 false true), (AOp.mk (some 15) (AK.call 36 [(AX.t 9), (AX.t 14)]) none 10 false true), (AOp.mk none (AK.st 2 (AX.t 4) (AX.t 15)) none 11 false true)]) AC.ret))
theorem ac46_ok : cCode Tryz.prog (fun _ => false) Tryz.f46.ntmps (Tryz.f46.body.getD .skip) = some ac46 := by kernel_rfl
def ac57 : AC := (AC.seq (AC.ops [(AOp.mk (some 2) (AK.new (PV.agg [(PV.val (Value.int IntKind.i64 0)), (PV.val (Value.int IntKind.i64 0))])) none 0 false true)]) (AC.seq (AC.ops [(AOp.mk (some 5) (AK.mv (AX.t 0)) none 0 false true), (AOp.mk (some 6) (AK.iadrS 1 (AX.t 5) (AX.c (PV.val (Value.int IntKind.i64 0)))) none 1 false true), (AOp.mk (some 7) (AK.ld none (AX.t 6)) none 2 false true), (AOp.mk (some 8) (AK.call 34 [(AX.t 7)]) none 3 false true), (AOp.mk (some 3) (AK.new (PV.agg [(PV.val (Value.int IntKind.i64 0)), (PV.val (Value.int IntKind.i64 0))])) none 4 false true), (AOp.mk none (AK.st 2 (AX.t 3) (AX.t 8)) none 5 false true)]) (AC.seq (AC.seq (AC.ops [(AOp.mk (some 4) (AK.mv (AX.c (PV.val (Value.int IntKind.i64 0)))) none 0 false true)]) (AC.block 0 (AC.loop (AC.seq (AC.seq (AC.ops [(AOp.mk (some 9) (AK.mv (AX.t 4)) none 0 false true), (AOp.mk (some 10) (AK.mv (AX.t 0)) none 1 false true), (AOp.mk (some 11) (AK.len (AX.t 10)) none 2 false true), (AOp.mk (some 12) (AK.bin false BinOp.lss (AX.t 9) (AX.t 11)) none 3 false true)]) (AC.cond (AX.t 12) AC.skip (AC.exit 0))) (AC.seq (AC.block 1 (AC.ops [(AOp.mk (some 15) (AK.ld (some 2) (AX.t 3)) none 0 true false), (AOp.mk (some 16) (AK.mv (AX.t 0)) none 1 true false), (AOp.mk (some 17) (AK.mv (AX.t 4)) none 2 true false), (AOp.mk (some 18) (AK.iadrS 1 (AX.t 16) (AX.t 17)) none 3 true false), (AOp.mk (some 19) (AK.ld none (AX.t 18)) none 4 true false), (AOp.mk (some 20) (AK.call 34 [(AX.t 19)]) none 5 false false), (AOp.mk (some 21) (AK.call 46 [(AX.t 15), (AX.t 20)]) none 6 false true), (AOp.mk none (AK.st 2 (AX.t 3) (AX.t 21)) none 7 false true)])) (AC.ops [(AOp.mk (some 13) (AK.mv (AX.t 4)) none 0 false true), (AOp.mk (some 14) (AK.bin false BinOp.add (AX.t 13) (AX.c (PV.val (Value.int IntKind.i64 1)))) none 1 false true), (AOp.mk (some 4) (AK.mv (AX.t 14)) none 2 false true)])))))) (AC.seq (AC.ops [(AOp.mk (some 22) (AK.ld (some 2) (AX.t 3)) none 0 false true), (AOp.mk none (AK.st 2 (AX.t 2) (AX.t 22)) none 1 false true)]) AC.ret))))
theorem maxI_min (a c : Int) : maxI false a c = min a c := by
  unfold maxI
  simp only [Bool.false_eq_true, if_false]
  split <;> omega
theorem maxI_max (a c : Int) : maxI true a c = max a c := by
  unfold maxI
  simp only [if_true]
  split <;> omega
theorem Both_sem (a b c d : Int) : Sem1 46 [psp a b, psp c d] (psp (min a c) (max b d)) := by
  refine semC_of_exec' mixed Tryz.func46 (by kernel_rfl) (by kernel_rfl) ac46_ok 2 rfl (by decide) [(.cell 4 31)] (by kernel_rfl) ?_
  intro hr C hC hI
  unfold ac46
  simp only [go_sem, Nat.reduceBEq, Nat.reduceAdd, maxI_min, maxI_max]
  refine call_pure2 hC (From_sem ..) rfl (PVleL_refl _) ?_
  rintro r rfl
  simp only [go_sem, Nat.reduceBEq, Nat.reduceAdd, putCells]
  exact retQ_cell (n := some 2) (by kernel_rfl) rfl rfl
theorem minF_fold {l : List Int} (h : 0 < l.length) : l.foldl min l[0] = minF l := by
  cases l with
  | nil => exact absurd h (by simp)
  | cons x r => simp only [List.getElem_cons_zero, List.foldl_cons, Int.min_self, minF]
theorem maxF_fold {l : List Int} (h : 0 < l.length) : l.foldl max l[0] = maxF l := by
  cases l with
  | nil => exact absurd h (by simp)
  | cons x r => simp only [List.getElem_cons_zero, List.foldl_cons, Int.max_self, maxF]
end Go.Proofs.YtlcpplkbmlmmbaaGreat.Mk.Me
namespace Go.Proofs.YtlcpplkbmlmmbaaGreat.Mk.Me
open Go.RowKit Ls
def zM (b : MBook) : MBook := { b with repairs := 0 }
def zB (b : EBook) : EBook := { b with mb := zM b.mb }
theorem zM_ok {b : MBook} (h : okBook b) : okBook (zM b) := by
  obtain ⟨⟨h1, h2, h3, h4, h5, h6⟩, h8⟩ := h
  exact ⟨⟨h1, h2, h3, h4, ⟨Int.le_refl _, by show (0 : Int) ≤ (nK b : Int); omega⟩, h6⟩, h8⟩
theorem zB_ok {b : EBook} (h : okE b) : okE (zB b) := ⟨zM_ok h.1, h.2⟩
theorem cset_zero {b : MBook} (hr : b.repairs = 0) {m c : Nat} (hp : possB b m = true) : CSet b m c ↔ c = 0 := by
  have h3 := (poss_eq.1 hp).2.2
  rw [hr] at h3
  have hno : ∀ q, q < nK b → zeroB b m q = false := fun q hq => by
    cases hz : zeroB b m q
    · rfl
    · have : q ∈ (List.range (nK b)).filter (zeroB b m) := List.mem_filter.2 ⟨List.mem_range.2 hq, hz⟩
      have := List.length_pos_of_mem this
      unfold zeros at h3
      omega
  constructor
  · intro h
    refine Nat.eq_of_testBit_eq fun i => ?_
    rw [Nat.zero_testBit]
    cases hb : c.testBit i
    · rfl
    · have hi := (h.can i hb).1
      have : i ∈ (List.range (nK b)).filter c.testBit := List.mem_filter.2 ⟨List.mem_range.2 hi, hb⟩
      have h4 := List.length_pos_of_mem this
      have h5 := h.cnt
      rw [hr] at h5
      unfold cntN at h5
      omega
  · rintro rfl
    refine ⟨fun q hq hz => ?_, fun q hq => ?_, ?_⟩
    · rw [hno q hq] at hz
      cases hz
    · rw [Nat.zero_testBit] at hq
      cases hq
    · rw [hr]
      have : cntN 0 (nK b) = 0 := by
        unfold cntN
        rw [List.length_eq_zero_iff, List.filter_eq_nil_iff]
        intro k _
        simp
      omega
theorem known_z {b : EBook} (ho : okE b) {t : Nat × Nat} : t ∈ known (zB b) ↔ t.1 ∈ whoL (zM b.mb) ∧ t.2 = 0 := by
  obtain ⟨m, s⟩ := t
  rw [mem_known (b := zB b) (show nK b.mb ≤ 6 from ho.1.1.2.1.2)]
  constructor
  · rintro ⟨c, hm, hc, rfl⟩
    have := (cset_zero (b := zM b.mb) rfl (mem_who.1 hm).2).1 hc
    subst this
    exact ⟨hm, Nat.zero_and _⟩
  · rintro ⟨hm, hs⟩
    have hs : s = 0 := hs
    subst hs
    exact ⟨0, hm, (cset_zero (b := zM b.mb) rfl (mem_who.1 hm).2).2 rfl, (Nat.zero_and _).symm⟩
theorem ampl_ext (lo : Bool) {l m : List Int} (hl : l ≠ []) (h : ∀ x, x ∈ l ↔ x ∈ m) : ampl lo l = ampl lo m := by
  have hm : m ≠ [] := fun e => by
    obtain ⟨x, r, rfl⟩ := List.exists_cons_of_ne_nil hl
    have := (h x).1 (List.mem_cons_self ..)
    rw [e] at this
    cases this
  cases lo
  · obtain ⟨h1, h2⟩ := max_facts hl
    obtain ⟨h3, h4⟩ := max_facts hm
    exact Int.le_antisymm (h4 _ ((h _).1 h1)) (h2 _ ((h _).2 h3))
  · obtain ⟨h1, h2⟩ := min_facts hl
    obtain ⟨h3, h4⟩ := min_facts hm
    exact Int.le_antisymm (h2 _ ((h _).2 h3)) (h4 _ ((h _).1 h1))
def paidE (lo : Bool) (b : EBook) (m : Nat) : Int := jobsI lo b 1 b.jobs (m, 0)
theorem out_z {b : EBook} (ho : okE b) (hw : whoL (zM b.mb) ≠ []) (lo : Bool) : outI lo (zB b) 1 (zB b).jobs = ampl lo ((whoL (zM b.mb)).map (paidE lo b)) := by
  have hne : known (zB b) ≠ [] := known_ne (b := zB b) hw
  unfold outI
  refine ampl_ext lo (by simpa using hne) fun x => ?_
  rw [List.mem_map, List.mem_map]
  constructor
  · rintro ⟨⟨m, s⟩, ht, rfl⟩
    obtain ⟨h1, h2⟩ := (known_z ho).1 ht
    have h2 : s = 0 := h2
    subst h2
    exact ⟨m, h1, rfl⟩
  · rintro ⟨m, hm, rfl⟩
    exact ⟨(m, 0), (known_z ho).2 ⟨hm, rfl⟩, rfl⟩
theorem paidE_zB (lo : Bool) (b : EBook) (m : Nat) : paidE lo (zB b) m = paidE lo b m := rfl
def exE (b : EBook) (l : List Int) : EBook := { b with mb := exactB (zM b.mb) l }
theorem exE_ok {b : EBook} (ho : okE b) {l : List Int} (hf : fiveL l) (hl : l.length = nK b.mb) : okE (exE b l) := ⟨exact_ok (zM_ok ho.1) hf hl, ho.2⟩
theorem apart_two {b : EBook} (ho : okE b) {l : List Int} (hf : fiveL l) (hl : l.length = nK b.mb) {o u : Nat} (ht : bothB (zM b.mb) o u = false) {p : Int} : ¬ (o ∈ whoseL (exE b l) p ∧ u ∈ whoseL (exE b l) p) := by
  rintro ⟨h1, h2⟩
  have h3 := (mem_who.1 (whose_who h1)).2
  have h4 := (mem_who.1 (whose_who h2)).2
  have := (both_iff (zM_ok ho.1).1).2 (exact_both (b := zM b.mb) hf hl h3 h4)
  rw [ht] at this
  cases this
end Go.Proofs.YtlcpplkbmlmmbaaGreat.Mk.Me
