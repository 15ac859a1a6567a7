/- Contracts of the reference of mend: which books are valid. Contracts of the reference of mend: Check. Mathematics of mend: a book in which something else is remembered of a job. Mathematics of mend: the fewest coins, from one on. -/
import Derived.Test.YtlcpplkbmlmmbaaGreatPays05
import Derived.Test.YtlcpplkbmlmmbaaGreatPays13
import Derived.Test.YtlcpplkbmlmmbaaGreatPays06
namespace Go.Proofs.YtlcpplkbmlmmbaaGreat.Mk.Me
open Go.RowKit Ls
def ac62 : AC := (AC.seq (AC.ops [(AOp.mk (some 1) (AK.box 4 (AX.t 0)) none 0 false true), (AOp.mk (some 2) (AK.mv (AX.c (PV.val (Value.int IntKind.i64 0)))) none 1 false true)]) (AC.seq (AC.ops [(AOp.mk (some 3) (AK.fadr 0 (AX.t 1)) none 0 false true), (AOp.mk (some 4) (AK.ld none (AX.t 3)) none 1 false true), (AOp.mk (some 5) (AK.iadrS 1 (AX.t 4) (AX.c (PV.val (Value.int IntKind.i64 0)))) none 2 false true), (AOp.mk (some 6) (AK.ld none (AX.t 5)) none 3 false true), (AOp.mk (some 7) (AK.len (AX.t 6)) none 4 false true), (AOp.mk (some 2) (AK.mv (AX.t 7)) none 5 false true)]) AC.ret))
theorem ac62_ok : cCode Tryz.prog (fun _ => false) Tryz.f62.ntmps (Tryz.f62.body.getD .skip) = some ac62 := by kernel_rfl
def ac55 : AC := (AC.seq (AC.ops [(AOp.mk (some 2) (AK.box 8 (AX.t 0)) none 0 false true), (AOp.mk (some 4) (AK.mv (AX.c (PV.val (Value.bool false)))) none 1 false true)]) (AC.seq (AC.ops [(AOp.mk (some 5) (AK.mv (AX.t 1)) none 0 false true), (AOp.mk (some 6) (AK.fadr 4 (AX.t 2)) none 1 false true), (AOp.mk (some 7) (AK.ld none (AX.t 6)) none 2 false true), (AOp.mk (some 8) (AK.len (AX.t 7)) none 3 false true), (AOp.mk (some 9) (AK.bin false BinOp.sub (AX.t 8) (AX.c (PV.val (Value.int IntKind.i64 1)))) none 4 false true), (AOp.mk (some 10) (AK.call 60 [(AX.t 5), (AX.c (PV.val (Value.int IntKind.i64 0))), (AX.t 9)]) none 5 false true), (AOp.mk (some 4) (AK.mv (AX.t 10)) none 6 false true)]) AC.ret))
def ac61 : AC := (AC.seq (AC.ops [(AOp.mk (some 2) (AK.box 6 (AX.t 0)) none 0 false true), (AOp.mk (some 4) (AK.mv (AX.c (PV.val (Value.bool false)))) none 1 false true)]) (AC.seq (AC.ops [(AOp.mk (some 5) (AK.fadr 0 (AX.t 2)) none 0 false true), (AOp.mk (some 6) (AK.ld none (AX.t 5)) none 1 false true), (AOp.mk (some 7) (AK.mv (AX.t 1)) none 2 false true), (AOp.mk (some 8) (AK.bin false BinOp.sub (AX.t 7) (AX.c (PV.val (Value.int IntKind.i64 1)))) none 3 false true), (AOp.mk (some 9) (AK.call 60 [(AX.t 6), (AX.c (PV.val (Value.int IntKind.i64 0))), (AX.t 8)]) none 4 false true), (AOp.mk (some 10) (AK.mv (AX.t 9)) none 5 false true), (AOp.mk (some 11) (AK.fadr 1 (AX.t 2)) (some (10, true)) 6 false true), (AOp.mk (some 12) (AK.ld (some 2) (AX.t 11)) (some (10, true)) 7 false true), (AOp.mk (some 13) (AK.call 74 [(AX.t 12), (AX.c (PV.val (Value.int IntKind.i64 0))), (AX.c (PV.val (Value.int IntKind.i64 20)))]) (some (10, true)) 8 false true), (AOp.mk (some 14) (AK.pick (AX.t 10) (AX.t 13) (AX.c (PV.val (Value.bool false)))) none 9 false true), (AOp.mk (some 15) (AK.mv (AX.t 14)) none 10 false true), (AOp.mk (some 16) (AK.fadr 1 (AX.t 2)) (some (15, true)) 11 false true), (AOp.mk (some 17) (AK.fadr 1 (AX.t 16)) (some (15, true)) 12 false true), (AOp.mk (some 18) (AK.ld none (AX.t 17)) (some (15, true)) 13 false true), (AOp.mk (some 19) (AK.fadr 1 (AX.t 2)) (some (15, true)) 14 false true), (AOp.mk (some 20) (AK.fadr 0 (AX.t 19)) (some (15, true)) 15 false true), (AOp.mk (some 21) (AK.ld none (AX.t 20)) (some (15, true)) 16 false true), (AOp.mk (some 22) (AK.bin false BinOp.sub (AX.t 18) (AX.t 21)) (some (15, true)) 17 false true), (AOp.mk (some 23) (AK.bin false BinOp.leq (AX.t 22) (AX.c (PV.val (Value.int IntKind.i64 3)))) (some (15, true)) 18 false true), (AOp.mk (some 24) (AK.pick (AX.t 15) (AX.t 23) (AX.c (PV.val (Value.bool false)))) none 19 false true), (AOp.mk (some 25) (AK.mv (AX.t 24)) none 20 false true), (AOp.mk (some 26) (AK.fadr 3 (AX.t 2)) (some (25, true)) 21 false true), (AOp.mk (some 27) (AK.ld (some 2) (AX.t 26)) (some (25, true)) 22 false true), (AOp.mk (some 28) (AK.call 74 [(AX.t 27), (AX.c (PV.val (Value.int IntKind.i64 0))), (AX.c (PV.val (Value.int IntKind.i64 99)))]) (some (25, true)) 23 false true), (AOp.mk (some 29) (AK.pick (AX.t 25) (AX.t 28) (AX.c (PV.val (Value.bool false)))) none 24 false true), (AOp.mk (some 30) (AK.mv (AX.t 29)) none 25 false true), (AOp.mk (some 31) (AK.fadr 3 (AX.t 2)) (some (30, true)) 26 false true), (AOp.mk (some 32) (AK.fadr 1 (AX.t 31)) (some (30, true)) 27 false true), (AOp.mk (some 33) (AK.ld none (AX.t 32)) (some (30, true)) 28 false true), (AOp.mk (some 34) (AK.fadr 3 (AX.t 2)) (some (30, true)) 29 false true), (AOp.mk (some 35) (AK.fadr 0 (AX.t 34)) (some (30, true)) 30 false true), (AOp.mk (some 36) (AK.ld none (AX.t 35)) (some (30, true)) 31 false true), (AOp.mk (some 37) (AK.bin false BinOp.sub (AX.t 33) (AX.t 36)) (some (30, true)) 32 false true), (AOp.mk (some 38) (AK.bin false BinOp.leq (AX.t 37) (AX.c (PV.val (Value.int IntKind.i64 4)))) (some (30, true)) 33 false true), (AOp.mk (some 39) (AK.pick (AX.t 30) (AX.t 38) (AX.c (PV.val (Value.bool false)))) none 34 false true), (AOp.mk (some 40) (AK.mv (AX.t 39)) none 35 false true), (AOp.mk (some 41) (AK.fadr 5 (AX.t 2)) (some (40, true)) 36 false true), (AOp.mk (some 42) (AK.ld none (AX.t 41)) (some (40, true)) 37 false true), (AOp.mk (some 43) (AK.call 60 [(AX.t 42), (AX.c (PV.val (Value.int IntKind.i64 (-1)))), (AX.c (PV.val (Value.int IntKind.i64 999)))]) (some (40, true)) 38 false true), (AOp.mk (some 44) (AK.pick (AX.t 40) (AX.t 43) (AX.c (PV.val (Value.bool false)))) none 39 false true), (AOp.mk (some 4) (AK.mv (AX.t 44)) none 40 false true)]) AC.ret))
theorem ac61_ok : cCode Tryz.prog (fun _ => false) Tryz.f61.ntmps (Tryz.f61.body.getD .skip) = some ac61 := by kernel_rfl
def ac100 : AC := (AC.seq (AC.ops [(AOp.mk (some 3) (AK.box 8 (AX.t 0)) none 0 false true), (AOp.mk (some 6) (AK.mv (AX.c (PV.val (Value.int IntKind.i64 0)))) none 1 false true)]) (AC.seq (AC.seq (AC.ops [(AOp.mk (some 8) (AK.fadr 4 (AX.t 3)) none 0 false true), (AOp.mk (some 9) (AK.ld none (AX.t 8)) none 1 false true), (AOp.mk (some 10) (AK.mv (AX.t 1)) none 2 false true), (AOp.mk (some 11) (AK.iadrS 6 (AX.t 9) (AX.t 10)) none 3 false true), (AOp.mk (some 12) (AK.fadr 5 (AX.t 11)) none 4 false true), (AOp.mk (some 13) (AK.ld none (AX.t 12)) none 5 false true), (AOp.mk (some 7) (AK.mv (AX.t 13)) none 6 false true)]) (AC.seq (AC.ops [(AOp.mk (some 14) (AK.mv (AX.t 7)) none 0 false true), (AOp.mk (some 15) (AK.bin false BinOp.geq (AX.t 14) (AX.c (PV.val (Value.int IntKind.i64 0)))) none 1 false true)]) (AC.cond (AX.t 15) (AC.seq (AC.ops [(AOp.mk (some 16) (AK.mv (AX.t 2)) none 0 false true), (AOp.mk (some 17) (AK.mv (AX.t 7)) none 1 false true), (AOp.mk (some 18) (AK.mx false [(AX.t 16), (AX.t 17)]) none 2 false true), (AOp.mk (some 6) (AK.mv (AX.t 18)) none 3 false true)]) AC.ret) AC.skip))) (AC.seq (AC.ops [(AOp.mk (some 19) (AK.mv (AX.t 2)) none 0 false true), (AOp.mk (some 6) (AK.mv (AX.t 19)) none 1 false true)]) AC.ret)))
def ac14 : AC := (AC.seq (AC.ops [(AOp.mk (some 1) (AK.box 8 (AX.t 0)) none 0 false true), (AOp.mk (some 2) (AK.mv (AX.c (PV.val (Value.int IntKind.i64 0)))) none 1 false true)]) (AC.seq (AC.ops [(AOp.mk (some 7) (AK.fadr 0 (AX.t 1)) none 0 false true), (AOp.mk (some 8) (AK.ld (some 4) (AX.t 7)) none 1 false true), (AOp.mk (some 9) (AK.call 59 [(AX.t 8)]) none 2 false true), (AOp.mk (some 10) (AK.bin false BinOp.eql (AX.t 9) (AX.c (PV.val (Value.int IntKind.i64 0)))) none 3 false true), (AOp.mk (some 11) (AK.mv (AX.t 10)) none 4 false true), (AOp.mk (some 12) (AK.fadr 4 (AX.t 1)) (some (11, true)) 5 false true), (AOp.mk (some 13) (AK.ld none (AX.t 12)) (some (11, true)) 6 false true), (AOp.mk (some 14) (AK.len (AX.t 13)) (some (11, true)) 7 false true), (AOp.mk (some 15) (AK.call 60 [(AX.t 14), (AX.c (PV.val (Value.int IntKind.i64 1))), (AX.c (PV.val (Value.int IntKind.i64 4)))]) (some (11, true)) 8 false true), (AOp.mk (some 16) (AK.pick (AX.t 11) (AX.t 15) (AX.c (PV.val (Value.bool false)))) none 9 false true), (AOp.mk (some 17) (AK.mv (AX.t 16)) none 10 false true), (AOp.mk (some 18) (AK.fadr 5 (AX.t 1)) (some (17, true)) 11 false true), (AOp.mk (some 19) (AK.ld none (AX.t 18)) (some (17, true)) 12 false true), (AOp.mk (some 20) (AK.call 60 [(AX.t 19), (AX.c (PV.val (Value.int IntKind.i64 0))), (AX.c (PV.val (Value.int IntKind.i64 20)))]) (some (17, true)) 13 false true), (AOp.mk (some 21) (AK.pick (AX.t 17) (AX.t 20) (AX.c (PV.val (Value.bool false)))) none 14 false true), (AOp.mk (some 22) (AK.mv (AX.t 21)) none 15 false true), (AOp.mk (some 23) (AK.fadr 6 (AX.t 1)) (some (22, true)) 16 false true), (AOp.mk (some 24) (AK.ld none (AX.t 23)) (some (22, true)) 17 false true), (AOp.mk (some 25) (AK.len (AX.t 24)) (some (22, true)) 18 false true), (AOp.mk (some 26) (AK.fadr 0 (AX.t 1)) (some (22, true)) 19 false true), (AOp.mk (some 27) (AK.fadr 0 (AX.t 26)) (some (22, true)) 20 false true), (AOp.mk (some 28) (AK.ld none (AX.t 27)) (some (22, true)) 21 false true), (AOp.mk (some 29) (AK.len (AX.t 28)) (some (22, true)) 22 false true), (AOp.mk (some 30) (AK.bin false BinOp.eql (AX.t 25) (AX.t 29)) (some (22, true)) 23 false true), (AOp.mk (some 31) (AK.pick (AX.t 22) (AX.t 30) (AX.c (PV.val (Value.bool false)))) none 24 false true), (AOp.mk (some 32) (AK.mv (AX.t 31)) none 25 false true), (AOp.mk (some 33) (AK.fadr 7 (AX.t 1)) (some (32, true)) 26 false true), (AOp.mk (some 34) (AK.ld none (AX.t 33)) (some (32, true)) 27 false true), (AOp.mk (some 35) (AK.len (AX.t 34)) (some (32, true)) 28 false true), (AOp.mk (some 36) (AK.call 60 [(AX.t 35), (AX.c (PV.val (Value.int IntKind.i64 1))), (AX.c (PV.val (Value.int IntKind.i64 4)))]) (some (32, true)) 29 false true), (AOp.mk (some 37) (AK.pick (AX.t 32) (AX.t 36) (AX.c (PV.val (Value.bool false)))) none 30 false true), (AOp.mk (some 3) (AK.mv (AX.t 37)) none 31 false true)]) (AC.seq (AC.seq (AC.ops [(AOp.mk (some 4) (AK.mv (AX.c (PV.val (Value.int IntKind.i64 0)))) none 0 false true)]) (AC.block 0 (AC.loop (AC.seq (AC.seq (AC.ops [(AOp.mk (some 38) (AK.mv (AX.t 3)) none 0 false true), (AOp.mk (some 39) (AK.mv (AX.t 38)) none 1 false true), (AOp.mk (some 40) (AK.mv (AX.t 4)) (some (39, true)) 2 false true), (AOp.mk (some 41) (AK.fadr 4 (AX.t 1)) (some (39, true)) 3 false true), (AOp.mk (some 42) (AK.ld none (AX.t 41)) (some (39, true)) 4 false true), (AOp.mk (some 43) (AK.len (AX.t 42)) (some (39, true)) 5 false true), (AOp.mk (some 44) (AK.bin false BinOp.lss (AX.t 40) (AX.t 43)) (some (39, true)) 6 false true), (AOp.mk (some 45) (AK.pick (AX.t 39) (AX.t 44) (AX.c (PV.val (Value.bool false)))) none 7 false true)]) (AC.cond (AX.t 45) AC.skip (AC.exit 0))) (AC.seq (AC.block 1 (AC.ops [(AOp.mk (some 48) (AK.fadr 4 (AX.t 1)) none 0 true false), (AOp.mk (some 49) (AK.ld none (AX.t 48)) none 1 true false), (AOp.mk (some 50) (AK.mv (AX.t 4)) none 2 true false), (AOp.mk (some 51) (AK.iadrS 6 (AX.t 49) (AX.t 50)) none 3 true false), (AOp.mk (some 52) (AK.ld (some 6) (AX.t 51)) none 4 true false), (AOp.mk (some 53) (AK.fadr 0 (AX.t 1)) none 5 true false), (AOp.mk (some 54) (AK.ld (some 4) (AX.t 53)) none 6 true false), (AOp.mk (some 55) (AK.call 62 [(AX.t 54)]) none 7 false false), (AOp.mk (some 56) (AK.call 61 [(AX.t 52), (AX.t 55)]) none 8 false true), (AOp.mk (some 3) (AK.mv (AX.t 56)) none 9 true true)])) (AC.ops [(AOp.mk (some 46) (AK.mv (AX.t 4)) none 0 false true), (AOp.mk (some 47) (AK.bin false BinOp.add (AX.t 46) (AX.c (PV.val (Value.int IntKind.i64 1)))) none 1 false true), (AOp.mk (some 4) (AK.mv (AX.t 47)) none 2 false true)])))))) (AC.seq (AC.seq (AC.ops [(AOp.mk (some 5) (AK.mv (AX.c (PV.val (Value.int IntKind.i64 0)))) none 0 false true)]) (AC.block 2 (AC.loop (AC.seq (AC.seq (AC.ops [(AOp.mk (some 57) (AK.mv (AX.t 3)) none 0 false true), (AOp.mk (some 58) (AK.mv (AX.t 57)) none 1 false true), (AOp.mk (some 59) (AK.mv (AX.t 5)) (some (58, true)) 2 false true), (AOp.mk (some 60) (AK.fadr 6 (AX.t 1)) (some (58, true)) 3 false true), (AOp.mk (some 61) (AK.ld none (AX.t 60)) (some (58, true)) 4 false true), (AOp.mk (some 62) (AK.len (AX.t 61)) (some (58, true)) 5 false true), (AOp.mk (some 63) (AK.bin false BinOp.lss (AX.t 59) (AX.t 62)) (some (58, true)) 6 false true), (AOp.mk (some 64) (AK.pick (AX.t 58) (AX.t 63) (AX.c (PV.val (Value.bool false)))) none 7 false true)]) (AC.cond (AX.t 64) AC.skip (AC.exit 2))) (AC.seq (AC.block 3 (AC.ops [(AOp.mk (some 67) (AK.fadr 6 (AX.t 1)) none 0 false true), (AOp.mk (some 68) (AK.ld none (AX.t 67)) none 1 false true), (AOp.mk (some 69) (AK.mv (AX.t 5)) none 2 false true), (AOp.mk (some 70) (AK.iadrS 1 (AX.t 68) (AX.t 69)) none 3 false true), (AOp.mk (some 71) (AK.ld none (AX.t 70)) none 4 false true), (AOp.mk (some 72) (AK.call 60 [(AX.t 71), (AX.c (PV.val (Value.int IntKind.i64 0))), (AX.c (PV.val (Value.int IntKind.i64 50)))]) none 5 false true), (AOp.mk (some 3) (AK.mv (AX.t 72)) none 6 false true)])) (AC.ops [(AOp.mk (some 65) (AK.mv (AX.t 5)) none 0 false true), (AOp.mk (some 66) (AK.bin false BinOp.add (AX.t 65) (AX.c (PV.val (Value.int IntKind.i64 1)))) none 1 false true), (AOp.mk (some 5) (AK.mv (AX.t 66)) none 2 false true)])))))) (AC.seq (AC.ops [(AOp.mk (some 73) (AK.mv (AX.t 3)) none 0 false true), (AOp.mk (some 74) (AK.mv (AX.t 73)) none 1 false true), (AOp.mk (some 75) (AK.fadr 7 (AX.t 1)) (some (74, true)) 2 false true), (AOp.mk (some 76) (AK.ld none (AX.t 75)) (some (74, true)) 3 false true), (AOp.mk (some 77) (AK.iadrS 1 (AX.t 76) (AX.c (PV.val (Value.int IntKind.i64 0)))) (some (74, true)) 4 false true), (AOp.mk (some 78) (AK.ld none (AX.t 77)) (some (74, true)) 5 false true), (AOp.mk (some 79) (AK.bin false BinOp.eql (AX.t 78) (AX.c (PV.val (Value.int IntKind.i64 1)))) (some (74, true)) 6 false true), (AOp.mk (some 80) (AK.pick (AX.t 74) (AX.t 79) (AX.c (PV.val (Value.bool false)))) none 7 false true), (AOp.mk (some 3) (AK.mv (AX.t 80)) none 8 false true)]) (AC.seq (AC.seq (AC.ops [(AOp.mk (some 6) (AK.mv (AX.c (PV.val (Value.int IntKind.i64 1)))) none 0 false true)]) (AC.block 4 (AC.loop (AC.seq (AC.seq (AC.ops [(AOp.mk (some 81) (AK.mv (AX.t 3)) none 0 false true), (AOp.mk (some 82) (AK.mv (AX.t 81)) none 1 false true), (AOp.mk (some 83) (AK.mv (AX.t 6)) (some (82, true)) 2 false true), (AOp.mk (some 84) (AK.fadr 7 (AX.t 1)) (some (82, true)) 3 false true), (AOp.mk (some 85) (AK.ld none (AX.t 84)) (some (82, true)) 4 false true), (AOp.mk (some 86) (AK.len (AX.t 85)) (some (82, true)) 5 false true), (AOp.mk (some 87) (AK.bin false BinOp.lss (AX.t 83) (AX.t 86)) (some (82, true)) 6 false true), (AOp.mk (some 88) (AK.pick (AX.t 82) (AX.t 87) (AX.c (PV.val (Value.bool false)))) none 7 false true)]) (AC.cond (AX.t 88) AC.skip (AC.exit 4))) (AC.seq (AC.block 5 (AC.ops [(AOp.mk (some 91) (AK.fadr 7 (AX.t 1)) none 0 true false), (AOp.mk (some 92) (AK.ld none (AX.t 91)) none 1 true false), (AOp.mk (some 93) (AK.mv (AX.t 6)) none 2 true false), (AOp.mk (some 94) (AK.iadrS 1 (AX.t 92) (AX.t 93)) none 3 true false), (AOp.mk (some 95) (AK.ld none (AX.t 94)) none 4 true false), (AOp.mk (some 96) (AK.fadr 7 (AX.t 1)) none 5 true false), (AOp.mk (some 97) (AK.ld none (AX.t 96)) none 6 true false), (AOp.mk (some 98) (AK.mv (AX.t 6)) none 7 true false), (AOp.mk (some 99) (AK.bin false BinOp.sub (AX.t 98) (AX.c (PV.val (Value.int IntKind.i64 1)))) none 8 true false), (AOp.mk (some 100) (AK.iadrS 1 (AX.t 97) (AX.t 99)) none 9 true false), (AOp.mk (some 101) (AK.ld none (AX.t 100)) none 10 true false), (AOp.mk (some 102) (AK.bin false BinOp.add (AX.t 101) (AX.c (PV.val (Value.int IntKind.i64 1)))) none 11 true false), (AOp.mk (some 103) (AK.call 60 [(AX.t 95), (AX.t 102), (AX.c (PV.val (Value.int IntKind.i64 240)))]) none 12 false true), (AOp.mk (some 3) (AK.mv (AX.t 103)) none 13 true true)])) (AC.ops [(AOp.mk (some 89) (AK.mv (AX.t 6)) none 0 false true), (AOp.mk (some 90) (AK.bin false BinOp.add (AX.t 89) (AX.c (PV.val (Value.int IntKind.i64 1)))) none 1 false true), (AOp.mk (some 6) (AK.mv (AX.t 90)) none 2 false true)])))))) (AC.seq (AC.seq (AC.ops [(AOp.mk (some 104) (AK.mv (AX.t 3)) none 0 false true), (AOp.mk (some 105) (AK.un UnOp.not (AX.t 104)) none 1 false true)]) (AC.cond (AX.t 105) (AC.seq (AC.ops [(AOp.mk (some 2) (AK.mv (AX.c (PV.val (Value.int IntKind.i64 80)))) none 0 false true)]) AC.ret) AC.skip)) (AC.seq (AC.ops [(AOp.mk (some 2) (AK.mv (AX.c (PV.val (Value.int IntKind.i64 0)))) none 0 false true)]) AC.ret))))))))
theorem ac14_ok : cCode Tryz.prog (fun _ => false) Tryz.f14.ntmps (Tryz.f14.body.getD .skip) = some ac14 := by kernel_rfl
theorem rkinds_sem (k k2 : SK) {b : MBook} (hz : 0 < b.makers.length) : Sem1 62 [.agg (bookC k k2 b)] (pi (nK b)) := by
  have hfl : b.makers[0].length = nK b := by
    unfold nK
    rw [List.getD_eq_getElem?_getD, List.getElem?_eq_getElem hz]
    rfl
  have e0 : iadrS' 1 (.p (.sl k 1 (rowsC b.makers))) (.p (pi 0)) = some (.p (.ptr [pis b.makers[0]] 0)) := iadr_map (f := fun h => [pis h]) (kd := k) (sz := 1) hz
  refine semC_of_exec' mixed Tryz.func62 (by kernel_rfl) (by kernel_rfl) ac62_ok 1 rfl (by decide) [(.tmp 2)] (by kernel_rfl) ?_
  intro hr C hC hI
  unfold ac62
  simp only [go_sem, Nat.reduceBEq, Nat.reduceAdd, e0, List.length_map, hfl]
  exact retQ_one rfl rfl
set_option maxHeartbeats 2000000 in
theorem rjob_sem {b : EBook} (hk : nK b.mb ≤ 6) (j : Job) : Sem1 61 [.agg (jobC j), pi (nK b.mb)] (pb (decide (okJob b j))) := by
  have e1 : decide (okJob b j) = (decide (0 ≤ j.kind ∧ j.kind ≤ (nK b.mb : Int) - 1) && (decide (0 ≤ j.hl ∧ j.hl ≤ j.hh ∧ j.hh ≤ 20) && (decide (j.hh - j.hl ≤ 3) && (decide (0 ≤ j.pl ∧ j.pl ≤ j.ph ∧ j.ph ≤ 99) && (decide (j.ph - j.pl ≤ 4) && decide (-1 ≤ j.cap ∧ j.cap ≤ 999)))))) := by
    rw [Bool.eq_iff_iff]
    simp only [Bool.and_eq_true, decide_eq_true_eq]
    unfold okJob
    omega
  obtain ⟨v, hv⟩ : ∃ v, decide (okJob b j) = v := ⟨_, rfl⟩
  rw [hv] at e1 ⊢
  by_cases h1 : 0 ≤ j.kind ∧ j.kind ≤ (nK b.mb : Int) - 1
  · by_cases h2 : 0 ≤ j.hl ∧ j.hl ≤ j.hh ∧ j.hh ≤ 20
    · have w1 : IntKind.i64.wrap (j.hh - j.hl) = j.hh - j.hl := wrap_id (by omega) (by omega)
      by_cases h3 : j.hh - j.hl ≤ 3
      · by_cases h4 : 0 ≤ j.pl ∧ j.pl ≤ j.ph ∧ j.ph ≤ 99
        · have w2 : IntKind.i64.wrap (j.ph - j.pl) = j.ph - j.pl := wrap_id (by omega) (by omega)
          by_cases h5 : j.ph - j.pl ≤ 4
          · refine semC_of_exec' mixed Tryz.func61 (by kernel_rfl) (by kernel_rfl) ac61_ok 2 rfl (by decide) [(.tmp 4)] (by kernel_rfl) ?_
            intro hr C hC hI
            unfold ac61
            simp only [go_sem, Nat.reduceBEq, Nat.reduceAdd, wrap_id (n := (nK b.mb : Int) - 1) (by omega) (by omega)]
            refine call_pure2 hC (In_sem ..) rfl (PVleL_refl _) ?_
            rintro r rfl
            simp only [go_sem, Nat.reduceBEq, Nat.reduceAdd, Nat.reduceLeDiff, decide_eq_true h1, Int.reduceNeg]
            refine call_pure2 hC (Ordered_sem j.hl j.hh 0 20) rfl (PVleL_refl _) ?_
            rintro r rfl
            simp only [go_sem, Nat.reduceBEq, Nat.reduceAdd, Nat.reduceLeDiff, decide_eq_true h2, w1, eq_true h3, decide_true, Int.reduceNeg]
            refine call_pure2 hC (Ordered_sem j.pl j.ph 0 99) rfl (PVleL_refl _) ?_
            rintro r rfl
            simp only [go_sem, Nat.reduceBEq, Nat.reduceAdd, decide_eq_true h4, w2, eq_true h5, decide_true, Int.reduceNeg]
            refine call_pure2 hC (In_sem ..) rfl (PVleL_refl _) ?_
            rintro r rfl
            simp only [go_sem, Nat.reduceBEq, Int.reduceNeg]
            exact retQ_one rfl (by rw [e1, decide_eq_true h1, decide_eq_true h2, decide_eq_true h3, decide_eq_true h4, decide_eq_true h5]; rfl)
          · refine semC_of_exec' mixed Tryz.func61 (by kernel_rfl) (by kernel_rfl) ac61_ok 2 rfl (by decide) [(.tmp 4)] (by kernel_rfl) ?_
            intro hr C hC hI
            unfold ac61
            simp only [go_sem, Nat.reduceBEq, Nat.reduceAdd, wrap_id (n := (nK b.mb : Int) - 1) (by omega) (by omega)]
            refine call_pure2 hC (In_sem ..) rfl (PVleL_refl _) ?_
            rintro r rfl
            simp only [go_sem, Nat.reduceBEq, Nat.reduceAdd, Nat.reduceLeDiff, decide_eq_true h1, Int.reduceNeg]
            refine call_pure2 hC (Ordered_sem j.hl j.hh 0 20) rfl (PVleL_refl _) ?_
            rintro r rfl
            simp only [go_sem, Nat.reduceBEq, Nat.reduceAdd, Nat.reduceLeDiff, decide_eq_true h2, w1, eq_true h3, decide_true, Int.reduceNeg]
            refine call_pure2 hC (Ordered_sem j.pl j.ph 0 99) rfl (PVleL_refl _) ?_
            rintro r rfl
            simp only [go_sem, Nat.reduceBEq, Nat.reduceAdd, decide_eq_true h4, w2, eq_false h5, decide_false, Int.reduceNeg]
            exact retQ_one rfl (by rw [e1, decide_eq_false h5]; simp)
        · refine semC_of_exec' mixed Tryz.func61 (by kernel_rfl) (by kernel_rfl) ac61_ok 2 rfl (by decide) [(.tmp 4)] (by kernel_rfl) ?_
          intro hr C hC hI
          unfold ac61
          simp only [go_sem, Nat.reduceBEq, Nat.reduceAdd, wrap_id (n := (nK b.mb : Int) - 1) (by omega) (by omega)]
          refine call_pure2 hC (In_sem ..) rfl (PVleL_refl _) ?_
          rintro r rfl
          simp only [go_sem, Nat.reduceBEq, Nat.reduceAdd, Nat.reduceLeDiff, decide_eq_true h1, Int.reduceNeg]
          refine call_pure2 hC (Ordered_sem j.hl j.hh 0 20) rfl (PVleL_refl _) ?_
          rintro r rfl
          simp only [go_sem, Nat.reduceBEq, Nat.reduceAdd, Nat.reduceLeDiff, decide_eq_true h2, w1, eq_true h3, decide_true, Int.reduceNeg]
          refine call_pure2 hC (Ordered_sem j.pl j.ph 0 99) rfl (PVleL_refl _) ?_
          rintro r rfl
          simp only [go_sem, Nat.reduceBEq, decide_eq_false h4, Int.reduceNeg]
          exact retQ_one rfl (by rw [e1, decide_eq_false h4]; simp)
      · refine semC_of_exec' mixed Tryz.func61 (by kernel_rfl) (by kernel_rfl) ac61_ok 2 rfl (by decide) [(.tmp 4)] (by kernel_rfl) ?_
        intro hr C hC hI
        unfold ac61
        simp only [go_sem, Nat.reduceBEq, Nat.reduceAdd, wrap_id (n := (nK b.mb : Int) - 1) (by omega) (by omega)]
        refine call_pure2 hC (In_sem ..) rfl (PVleL_refl _) ?_
        rintro r rfl
        simp only [go_sem, Nat.reduceBEq, Nat.reduceAdd, Nat.reduceLeDiff, decide_eq_true h1, Int.reduceNeg]
        refine call_pure2 hC (Ordered_sem j.hl j.hh 0 20) rfl (PVleL_refl _) ?_
        rintro r rfl
        simp only [go_sem, Nat.reduceBEq, Nat.reduceAdd, decide_eq_true h2, w1, eq_false h3, decide_false, Int.reduceNeg]
        exact retQ_one rfl (by rw [e1, decide_eq_false h3]; simp)
    · refine semC_of_exec' mixed Tryz.func61 (by kernel_rfl) (by kernel_rfl) ac61_ok 2 rfl (by decide) [(.tmp 4)] (by kernel_rfl) ?_
      intro hr C hC hI
      unfold ac61
      simp only [go_sem, Nat.reduceBEq, Nat.reduceAdd, wrap_id (n := (nK b.mb : Int) - 1) (by omega) (by omega)]
      refine call_pure2 hC (In_sem ..) rfl (PVleL_refl _) ?_
      rintro r rfl
      simp only [go_sem, Nat.reduceBEq, Nat.reduceAdd, Nat.reduceLeDiff, decide_eq_true h1, Int.reduceNeg]
      refine call_pure2 hC (Ordered_sem j.hl j.hh 0 20) rfl (PVleL_refl _) ?_
      rintro r rfl
      simp only [go_sem, Nat.reduceBEq, decide_eq_false h2, Int.reduceNeg]
      exact retQ_one rfl (by rw [e1, decide_eq_false h2]; simp)
  · refine semC_of_exec' mixed Tryz.func61 (by kernel_rfl) (by kernel_rfl) ac61_ok 2 rfl (by decide) [(.tmp 4)] (by kernel_rfl) ?_
    intro hr C hC hI
    unfold ac61
    simp only [go_sem, Nat.reduceBEq, Nat.reduceAdd, wrap_id (n := (nK b.mb : Int) - 1) (by omega) (by omega)]
    refine call_pure2 hC (In_sem ..) rfl (PVleL_refl _) ?_
    rintro r rfl
    simp only [go_sem, Nat.reduceBEq, decide_eq_false h1, Int.reduceNeg]
    exact retQ_one rfl (by rw [e1, decide_eq_false h1]; simp)
end Go.Proofs.YtlcpplkbmlmmbaaGreat.Mk.Me
namespace Go.Proofs.YtlcpplkbmlmmbaaGreat.Mk.Me
open Go.RowKit Ls
def allJ (b : EBook) (i : Nat) : Bool := (b.jobs.take i).all fun j => decide (okJob b j)
def allX (b : EBook) (i : Nat) : Bool := (b.extra.take i).all fun x => decide (0 ≤ x ∧ x ≤ 50)
def coinB (cs : List Int) : Nat → Bool
  | 0 => decide (cs.getD 0 0 = 1)
  | i + 1 => coinB cs i && decide (cs.getD i 0 + 1 ≤ cs.getD (i + 1) 0 ∧ cs.getD (i + 1) 0 ≤ 240)
theorem allJ_next {b : EBook} {i : Nat} (hi : i < b.jobs.length) (h : allJ b i = true) : allJ b (i + 1) = decide (okJob b b.jobs[i]) := by
  unfold allJ at *
  rw [List.take_succ_eq_append_getElem hi, List.all_append, h]
  simp
theorem allX_next {b : EBook} {i : Nat} (hi : i < b.extra.length) (h : allX b i = true) : allX b (i + 1) = decide (0 ≤ b.extra[i] ∧ b.extra[i] ≤ 50) := by
  unfold allX at *
  rw [List.take_succ_eq_append_getElem hi, List.all_append, h]
  simp
theorem allJ_all {b : EBook} {i : Nat} (h : allJ b b.jobs.length = true) : allJ b i = true := by
  unfold allJ at *
  rw [List.take_length, List.all_eq_true] at h
  exact List.all_eq_true.2 fun x hx => h x (List.mem_of_mem_take hx)
theorem allX_all {b : EBook} {i : Nat} (h : allX b b.extra.length = true) : allX b i = true := by
  unfold allX at *
  rw [List.take_length, List.all_eq_true] at h
  exact List.all_eq_true.2 fun x hx => h x (List.mem_of_mem_take hx)
theorem coinB_mono {cs : List Int} : ∀ {i j : Nat}, i ≤ j → coinB cs j = true → coinB cs i = true
  | i, 0, h, hj => by rw [show i = 0 by omega]; exact hj
  | i, j + 1, h, hj => by
    by_cases e : i = j + 1
    · rw [e]; exact hj
    · rw [coinB, Bool.and_eq_true] at hj
      exact coinB_mono (by omega) hj.1
theorem coinB_bound {cs : List Int} : ∀ {i : Nat}, coinB cs i = true → 1 ≤ cs.getD i 0 ∧ cs.getD i 0 ≤ 240
  | 0, h => by
    rw [coinB, decide_eq_true_eq] at h
    omega
  | i + 1, h => by
    rw [coinB, Bool.and_eq_true, decide_eq_true_eq] at h
    have := coinB_bound h.1
    omega
theorem coinB_iff : ∀ {x : Int} {l : List Int}, coinB (x :: l) l.length = true ↔ x = 1 ∧ okTail x l := by
  intro x l
  rw [okTail_take]
  have : ∀ n, n ≤ l.length → (coinB (x :: l) n = true ↔ x = 1 ∧ ∀ i (h : i < l.length), i < n → (x :: l)[i]'(by simp; omega) + 1 ≤ l[i] ∧ l[i] ≤ 240) := by
    intro n
    induction n with
    | zero => intro _; simp [coinB]
    | succ n ih =>
      intro hn
      have g1 : (x :: l).getD n 0 = (x :: l)[n]'(by simp; omega) := by rw [List.getD_eq_getElem?_getD, List.getElem?_eq_getElem (by simp; omega)]; rfl
      have g2 : (x :: l).getD (n + 1) 0 = l[n]'(by omega) := by rw [List.getD_cons_succ, List.getD_eq_getElem?_getD, List.getElem?_eq_getElem (by omega)]; rfl
      rw [coinB, Bool.and_eq_true, ih (by omega), decide_eq_true_eq, g1, g2]
      constructor
      · rintro ⟨⟨h1, h2⟩, h3⟩
        refine ⟨h1, fun i h hi => ?_⟩
        by_cases e : i = n
        · subst e; exact h3
        · exact h2 i h (by omega)
      · rintro ⟨h1, h2⟩
        exact ⟨⟨h1, fun i h hi => h2 i h (by omega)⟩, h2 n (by omega) (by omega)⟩
  rw [this _ (Nat.le_refl _)]
  exact and_congr Iff.rfl ⟨fun h i hi => h i hi hi, fun h i hi _ => h i hi⟩
theorem ok_iff {b : EBook} (a1 : okBook b.mb) (a2 : (1 : Int) ≤ b.jobs.length ∧ (b.jobs.length : Int) ≤ 4) (a3 : 0 ≤ b.rate ∧ b.rate ≤ 20) (a4 : b.extra.length = b.mb.makers.length) (a5 : (1 : Int) ≤ b.coins.length ∧ (b.coins.length : Int) ≤ 4) :
    okE b ↔ allJ b b.jobs.length = true ∧ allX b b.extra.length = true ∧ coinB b.coins (b.coins.length - 1) = true := by
  have hJ : allJ b b.jobs.length = true ↔ ∀ j ∈ b.jobs, okJob b j := by unfold allJ; rw [List.take_length, List.all_eq_true]; simp
  have hX : allX b b.extra.length = true ↔ ∀ x ∈ b.extra, 0 ≤ x ∧ x ≤ 50 := by unfold allX; rw [List.take_length, List.all_eq_true]; simp
  have hC : coinB b.coins (b.coins.length - 1) = true ↔ okCoins b.coins := by
    match hb : b.coins with
    | [] => rw [hb] at a5; exact absurd a5.1 (by simp)
    | x :: l =>
      rw [hb] at a5
      have e : (x :: l).length - 1 = l.length := by simp
      rw [e, coinB_iff]
      unfold okCoins
      exact ⟨fun h => ⟨by omega, h⟩, fun h => h.2⟩
  rw [hJ, hX, hC]
  unfold okE
  exact ⟨fun h => ⟨h.2.2.2.1, h.2.2.2.2.1, h.2.2.2.2.2.2⟩, fun h => ⟨a1, by omega, a4, h.1, h.2.1, a3, h.2.2⟩⟩
set_option maxHeartbeats 4000000 in
theorem rCheck8_sem (κ : KS) (b : EBook) : Sem1 14 [.agg (ebC κ b)] (pi (if okE b then 0 else 80)) := by
  by_cases a1 : okBook b.mb
  rotate_left
  · have hno : ¬ okE b := fun h => a1 (h.1)
    refine semC_of_exec' mixed Tryz.func14 (by kernel_rfl) (by kernel_rfl) ac14_ok 1 rfl (by decide) [(.tmp 2)] (by kernel_rfl) ?_
    intro hr C hC hI
    unfold ac14
    simp only [go_sem, Nat.reduceBEq, Nat.reduceAdd, Nat.reduceLeDiff]
    refine call_pure2 hC (rCheck_sem κ.a κ.b b.mb) rfl (PVleL_refl _) ?_
    rintro r rfl
    simp only [go_sem, Nat.reduceBEq, if_neg a1, decide_false, Int.reduceEq]
    refine loop_k 0 (fun _ => True) [1] (fun i => [(3, .p (pb false)), (4, .p (pi 0))]) trivial rfl ⟨rfl, by simp, by simp⟩ (by simp [wkT, look, AV.lo]) ?_
    rintro i -
    simp only [go_sem, Nat.reduceBEq]
    refine loop_k 0 (fun _ => True) [1] (fun i => [(3, .p (pb false)), (5, .p (pi 0))]) trivial rfl ⟨rfl, by simp, by simp⟩ (by simp [wkT, look, AV.lo]) ?_
    rintro i -
    simp only [go_sem, Nat.reduceBEq]
    refine loop_k 0 (fun _ => True) [1] (fun i => [(3, .p (pb false)), (6, .p (pi 1))]) trivial rfl ⟨rfl, by simp, by simp⟩ (by simp [wkT, look, AV.lo]) ?_
    rintro i -
    simp only [go_sem, Nat.reduceBEq]
    exact retQ_one rfl (by rw [if_neg hno])
  by_cases a2 : (1 : Int) ≤ b.jobs.length ∧ (b.jobs.length : Int) ≤ 4
  rotate_left
  · have hno : ¬ okE b := fun h => a2 (by have := h.2.1; omega)
    refine semC_of_exec' mixed Tryz.func14 (by kernel_rfl) (by kernel_rfl) ac14_ok 1 rfl (by decide) [(.tmp 2)] (by kernel_rfl) ?_
    intro hr C hC hI
    unfold ac14
    simp only [go_sem, Nat.reduceBEq, Nat.reduceAdd, Nat.reduceLeDiff]
    refine call_pure2 hC (rCheck_sem κ.a κ.b b.mb) rfl (PVleL_refl _) ?_
    rintro r rfl
    simp only [go_sem, Nat.reduceBEq, if_pos a1, List.length_map, decide_true]
    refine call_pure2 hC (In_sem ..) rfl (PVleL_refl _) ?_
    rintro r rfl
    simp only [go_sem, Nat.reduceBEq, decide_eq_false a2]
    refine loop_k 0 (fun _ => True) [1] (fun i => [(3, .p (pb false)), (4, .p (pi 0))]) trivial rfl ⟨rfl, by simp, by simp⟩ (by simp [wkT, look, AV.lo]) ?_
    rintro i -
    simp only [go_sem, Nat.reduceBEq]
    refine loop_k 0 (fun _ => True) [1] (fun i => [(3, .p (pb false)), (5, .p (pi 0))]) trivial rfl ⟨rfl, by simp, by simp⟩ (by simp [wkT, look, AV.lo]) ?_
    rintro i -
    simp only [go_sem, Nat.reduceBEq]
    refine loop_k 0 (fun _ => True) [1] (fun i => [(3, .p (pb false)), (6, .p (pi 1))]) trivial rfl ⟨rfl, by simp, by simp⟩ (by simp [wkT, look, AV.lo]) ?_
    rintro i -
    simp only [go_sem, Nat.reduceBEq]
    exact retQ_one rfl (by rw [if_neg hno])
  by_cases a3 : 0 ≤ b.rate ∧ b.rate ≤ 20
  rotate_left
  · have hno : ¬ okE b := fun h => a3 (h.2.2.2.2.2.1)
    refine semC_of_exec' mixed Tryz.func14 (by kernel_rfl) (by kernel_rfl) ac14_ok 1 rfl (by decide) [(.tmp 2)] (by kernel_rfl) ?_
    intro hr C hC hI
    unfold ac14
    simp only [go_sem, Nat.reduceBEq, Nat.reduceAdd, Nat.reduceLeDiff]
    refine call_pure2 hC (rCheck_sem κ.a κ.b b.mb) rfl (PVleL_refl _) ?_
    rintro r rfl
    simp only [go_sem, Nat.reduceBEq, if_pos a1, List.length_map, decide_true]
    refine call_pure2 hC (In_sem ..) rfl (PVleL_refl _) ?_
    rintro r rfl
    simp only [go_sem, Nat.reduceBEq, decide_eq_true a2]
    refine call_pure2 hC (In_sem ..) rfl (PVleL_refl _) ?_
    rintro r rfl
    simp only [go_sem, Nat.reduceBEq, decide_eq_false a3]
    refine loop_k 0 (fun _ => True) [1] (fun i => [(3, .p (pb false)), (4, .p (pi 0))]) trivial rfl ⟨rfl, by simp, by simp⟩ (by simp [wkT, look, AV.lo]) ?_
    rintro i -
    simp only [go_sem, Nat.reduceBEq]
    refine loop_k 0 (fun _ => True) [1] (fun i => [(3, .p (pb false)), (5, .p (pi 0))]) trivial rfl ⟨rfl, by simp, by simp⟩ (by simp [wkT, look, AV.lo]) ?_
    rintro i -
    simp only [go_sem, Nat.reduceBEq]
    refine loop_k 0 (fun _ => True) [1] (fun i => [(3, .p (pb false)), (6, .p (pi 1))]) trivial rfl ⟨rfl, by simp, by simp⟩ (by simp [wkT, look, AV.lo]) ?_
    rintro i -
    simp only [go_sem, Nat.reduceBEq]
    exact retQ_one rfl (by rw [if_neg hno])
  by_cases a4 : b.extra.length = b.mb.makers.length
  rotate_left
  · have hno : ¬ okE b := fun h => a4 (h.2.2.1)
    have a4i : ¬ (b.extra.length : Int) = b.mb.makers.length := by omega
    refine semC_of_exec' mixed Tryz.func14 (by kernel_rfl) (by kernel_rfl) ac14_ok 1 rfl (by decide) [(.tmp 2)] (by kernel_rfl) ?_
    intro hr C hC hI
    unfold ac14
    simp only [go_sem, Nat.reduceBEq, Nat.reduceAdd, Nat.reduceLeDiff]
    refine call_pure2 hC (rCheck_sem κ.a κ.b b.mb) rfl (PVleL_refl _) ?_
    rintro r rfl
    simp only [go_sem, Nat.reduceBEq, if_pos a1, List.length_map, decide_true]
    refine call_pure2 hC (In_sem ..) rfl (PVleL_refl _) ?_
    rintro r rfl
    simp only [go_sem, Nat.reduceBEq, decide_eq_true a2]
    refine call_pure2 hC (In_sem ..) rfl (PVleL_refl _) ?_
    rintro r rfl
    simp only [go_sem, Nat.reduceBEq, decide_eq_true a3, eq_false a4i, List.length_map, decide_false]
    refine loop_k 0 (fun _ => True) [1] (fun i => [(3, .p (pb false)), (4, .p (pi 0))]) trivial rfl ⟨rfl, by simp, by simp⟩ (by simp [wkT, look, AV.lo]) ?_
    rintro i -
    simp only [go_sem, Nat.reduceBEq]
    refine loop_k 0 (fun _ => True) [1] (fun i => [(3, .p (pb false)), (5, .p (pi 0))]) trivial rfl ⟨rfl, by simp, by simp⟩ (by simp [wkT, look, AV.lo]) ?_
    rintro i -
    simp only [go_sem, Nat.reduceBEq]
    refine loop_k 0 (fun _ => True) [1] (fun i => [(3, .p (pb false)), (6, .p (pi 1))]) trivial rfl ⟨rfl, by simp, by simp⟩ (by simp [wkT, look, AV.lo]) ?_
    rintro i -
    simp only [go_sem, Nat.reduceBEq]
    exact retQ_one rfl (by rw [if_neg hno])
  have a4i : (b.extra.length : Int) = b.mb.makers.length := by omega
  by_cases a5 : (1 : Int) ≤ b.coins.length ∧ (b.coins.length : Int) ≤ 4
  rotate_left
  · have hno : ¬ okE b := fun h => a5 (by have := (coins_ok h.2.2.2.2.2.2).ne; have := (coins_ok h.2.2.2.2.2.2).le; omega)
    refine semC_of_exec' mixed Tryz.func14 (by kernel_rfl) (by kernel_rfl) ac14_ok 1 rfl (by decide) [(.tmp 2)] (by kernel_rfl) ?_
    intro hr C hC hI
    unfold ac14
    simp only [go_sem, Nat.reduceBEq, Nat.reduceAdd, Nat.reduceLeDiff]
    refine call_pure2 hC (rCheck_sem κ.a κ.b b.mb) rfl (PVleL_refl _) ?_
    rintro r rfl
    simp only [go_sem, Nat.reduceBEq, if_pos a1, List.length_map, decide_true]
    refine call_pure2 hC (In_sem ..) rfl (PVleL_refl _) ?_
    rintro r rfl
    simp only [go_sem, Nat.reduceBEq, decide_eq_true a2]
    refine call_pure2 hC (In_sem ..) rfl (PVleL_refl _) ?_
    rintro r rfl
    simp only [go_sem, Nat.reduceBEq, decide_eq_true a3, eq_true a4i, List.length_map, decide_true]
    refine call_pure2 hC (In_sem ..) rfl (PVleL_refl _) ?_
    rintro r rfl
    simp only [go_sem, Nat.reduceBEq, decide_eq_false a5]
    refine loop_k 0 (fun _ => True) [1] (fun i => [(3, .p (pb false)), (4, .p (pi 0))]) trivial rfl ⟨rfl, by simp, by simp⟩ (by simp [wkT, look, AV.lo]) ?_
    rintro i -
    simp only [go_sem, Nat.reduceBEq]
    refine loop_k 0 (fun _ => True) [1] (fun i => [(3, .p (pb false)), (5, .p (pi 0))]) trivial rfl ⟨rfl, by simp, by simp⟩ (by simp [wkT, look, AV.lo]) ?_
    rintro i -
    simp only [go_sem, Nat.reduceBEq]
    refine loop_k 0 (fun _ => True) [1] (fun i => [(3, .p (pb false)), (6, .p (pi 1))]) trivial rfl ⟨rfl, by simp, by simp⟩ (by simp [wkT, look, AV.lo]) ?_
    rintro i -
    simp only [go_sem, Nat.reduceBEq]
    exact retQ_one rfl (by rw [if_neg hno])
  have hiff := ok_iff a1 a2 a3 a4 a5
  have hz : 0 < b.mb.makers.length := by have := a1.1.1; omega
  have hk6 := a1.1.2.1.2
  have hx5 : b.extra.length ≤ 5 := by have := a1.1.1.2; omega
  refine semC_of_exec' mixed Tryz.func14 (by kernel_rfl) (by kernel_rfl) ac14_ok 1 rfl (by decide) [(.tmp 2)] (by kernel_rfl) ?_
  intro hr C hC hI
  unfold ac14
  simp only [go_sem, Nat.reduceBEq, Nat.reduceAdd, Nat.reduceLeDiff]
  refine call_pure2 hC (rCheck_sem κ.a κ.b b.mb) rfl (PVleL_refl _) ?_
  rintro r rfl
  simp only [go_sem, Nat.reduceBEq, if_pos a1, List.length_map, decide_true]
  refine call_pure2 hC (In_sem ..) rfl (PVleL_refl _) ?_
  rintro r rfl
  simp only [go_sem, Nat.reduceBEq, decide_eq_true a2]
  refine call_pure2 hC (In_sem ..) rfl (PVleL_refl _) ?_
  rintro r rfl
  simp only [go_sem, Nat.reduceBEq, decide_eq_true a3, eq_true a4i, List.length_map, decide_true]
  refine call_pure2 hC (In_sem ..) rfl (PVleL_refl _) ?_
  rintro r rfl
  simp only [go_sem, Nat.reduceBEq, decide_eq_true a5]
  refine loop_k b.jobs.length (fun _ => True) [1] (fun i => [(3, .p (pb (allJ b i))), (4, .p (pi i))]) trivial rfl ⟨rfl, by simp, by simp⟩ (by simp [wkT, look, AV.lo, allJ]) ?_
  rintro i ⟨hi, -⟩
  by_cases hc : allJ b i = true ∧ i < b.jobs.length
  · obtain ⟨hv, hi2⟩ := hc
    have hnx := allJ_next hi2 hv
    have hi3 : (i : Int) < b.jobs.length := by omega
    have ei := iadr_map (f := jobC) (kd := κ.c) (sz := 6) hi2
    rw [hv]
    simp only [go_sem, Nat.reduceBEq, Nat.reduceAdd, Nat.reduceLeDiff, eq_true hi3, List.length_map, ei, decide_true, Bool.false_eq_true]
    refine call_pure2 hC (rkinds_sem κ.a κ.b hz) rfl (PVleL_refl _) ?_
    rintro r rfl
    simp only [go_sem, Nat.reduceBEq]
    refine call_pure2 hC (rjob_sem hk6 b.jobs[i]) rfl (PVleL_refl _) ?_
    rintro _ rfl
    rw [← hnx]
    simp only [go_sem, Nat.reduceBEq, wrap_succ (k := i) (by omega)]
    refine ⟨⟨i + 1, hi2, trivial⟩, by simp only; omega, ?_⟩
    simp [Wk, wkT, wkL, look, AV.lo, AV.lo.loL, ABlk.toZ]
  by_cases hJ : allJ b b.jobs.length = true
  rotate_left
  · have hno : ¬ okE b := fun h => hJ (hiff.1 h).1
    have hv : allJ b i = false := by
      cases h : allJ b i
      · rfl
      · refine absurd ?_ hJ
        have : i = b.jobs.length := Nat.le_antisymm hi (Nat.le_of_not_lt fun h2 => hc ⟨h, h2⟩)
        rw [← this]
        exact h
    rw [hv]
    simp only [go_sem, Nat.reduceBEq]
    refine loop_k 0 (fun _ => True) [1] (fun i => [(3, .p (pb false)), (5, .p (pi 0))]) trivial rfl ⟨rfl, by simp, by simp⟩ (by simp [wkT, look, AV.lo]) ?_
    rintro i -
    simp only [go_sem, Nat.reduceBEq]
    refine loop_k 0 (fun _ => True) [1] (fun i => [(3, .p (pb false)), (6, .p (pi 1))]) trivial rfl ⟨rfl, by simp, by simp⟩ (by simp [wkT, look, AV.lo]) ?_
    rintro i -
    simp only [go_sem, Nat.reduceBEq]
    exact retQ_one rfl (by rw [if_neg hno])
  have hv := allJ_all (i := i) hJ
  have hi3 : ¬ (i : Int) < b.jobs.length := fun h => hc ⟨hv, by omega⟩
  rw [hv]
  simp only [go_sem, Nat.reduceBEq, eq_false hi3, List.length_map, decide_false]
  clear hv hi3 hc
  refine loop_k b.extra.length (fun _ => True) [1] (fun i => [(3, .p (pb (allX b i))), (5, .p (pi i))]) trivial rfl ⟨rfl, by simp, by simp⟩ (by simp [wkT, look, AV.lo, allX]) ?_
  rintro i ⟨hi, -⟩
  by_cases hc : allX b i = true ∧ i < b.extra.length
  · obtain ⟨hv, hi2⟩ := hc
    have hnx := allX_next hi2 hv
    have hi3 : (i : Int) < b.extra.length := by omega
    have ei := iadr_map (f := fun x : Int => [pi x]) (kd := κ.d) (sz := 1) hi2
    rw [hv]
    simp only [go_sem, Nat.reduceBEq, eq_true hi3, List.length_map, ei, decide_true]
    refine call_pure2 hC (In_sem ..) rfl (PVleL_refl _) ?_
    rintro r rfl
    simp only [go_sem, Nat.reduceBEq, ← hnx, wrap_succ (k := i) (by omega)]
    refine ⟨⟨i + 1, hi2, trivial⟩, by simp only; omega, ?_⟩
    simp [Wk, wkT, wkL, look, AV.lo, AV.lo.loL, ABlk.toZ]
  by_cases hX : allX b b.extra.length = true
  rotate_left
  · have hno : ¬ okE b := fun h => hX (hiff.1 h).2.1
    have hv : allX b i = false := by
      cases h : allX b i
      · rfl
      · refine absurd ?_ hX
        have : i = b.extra.length := Nat.le_antisymm hi (Nat.le_of_not_lt fun h2 => hc ⟨h, h2⟩)
        rw [← this]
        exact h
    rw [hv]
    simp only [go_sem, Nat.reduceBEq]
    refine loop_k 0 (fun _ => True) [1] (fun i => [(3, .p (pb false)), (6, .p (pi 1))]) trivial rfl ⟨rfl, by simp, by simp⟩ (by simp [wkT, look, AV.lo]) ?_
    rintro i -
    simp only [go_sem, Nat.reduceBEq]
    exact retQ_one rfl (by rw [if_neg hno])
  have hv := allX_all (i := i) hX
  have hi3 : ¬ (i : Int) < b.extra.length := fun h => hc ⟨hv, by omega⟩
  have hcz : 0 < b.coins.length := by omega
  have eg : ∀ i (h : i < b.coins.length), iadrS' 1 (.p (.sl κ.e 1 (b.coins.map fun x => [pi x]))) (.p (pi i)) = some (.p (.ptr [pi (b.coins.getD i 0)] 0)) := fun i h => by
    have := iadr_map (f := fun x : Int => [pi x]) (kd := κ.e) (sz := 1) h
    rwa [show b.coins[i] = b.coins.getD i 0 by rw [List.getD_eq_getElem?_getD, List.getElem?_eq_getElem h]; rfl] at this
  have e0 : iadrS' 1 (.p (.sl κ.e 1 (b.coins.map fun x => [pi x]))) (.p (.val (.int .i64 0))) = some (.p (.ptr [pi (b.coins.getD 0 0)] 0)) := eg 0 hcz
  have hc0 : decide (b.coins.getD 0 0 = 1) = coinB b.coins 0 := rfl
  rw [hv]
  simp only [go_sem, Nat.reduceBEq, eq_false hi3, List.length_map, e0, hc0, decide_false]
  refine loop_k (b.coins.length - 1) (fun _ => True) [1] (fun i => [(3, .p (pb (coinB b.coins i))), (6, .p (pi ((i + 1 : Nat) : Int)))]) trivial rfl ⟨rfl, by simp, by simp⟩ (by simp [wkT, look, AV.lo]) ?_
  clear hv hi3 hc
  rintro i ⟨hi, -⟩
  by_cases hc : coinB b.coins i = true ∧ i + 1 < b.coins.length
  · obtain ⟨hv, hi2⟩ := hc
    have hi3 : ((i + 1 : Nat) : Int) < b.coins.length := by omega
    have e1 := eg (i + 1) hi2
    have e2 := eg i (by omega)
    have w1 : IntKind.i64.wrap (((i + 1 : Nat) : Int) - 1) = (i : Int) := by rw [wrap_id (by omega) (by omega)]; omega
    have hb := coinB_bound hv
    have hnx : coinB b.coins (i + 1) = decide (b.coins.getD i 0 + 1 ≤ b.coins.getD (i + 1) 0 ∧ b.coins.getD (i + 1) 0 ≤ 240) := by rw [coinB, hv, Bool.true_and]
    rw [hv]
    simp only [go_sem, Nat.reduceBEq, eq_true hi3, List.length_map, e1, e2, w1, wrap_id (n := b.coins.getD i 0 + 1) (by omega) (by omega), decide_true]
    refine call_pure2 hC (In_sem ..) rfl (PVleL_refl _) ?_
    rintro r rfl
    simp only [go_sem, Nat.reduceBEq, ← hnx, wrap_succ (k := i + 1) (by omega)]
    refine ⟨⟨i + 1, by omega, trivial⟩, by simp only; omega, ?_⟩
    simp [Wk, wkT, wkL, look, AV.lo, AV.lo.loL, ABlk.toZ]
  by_cases hC : coinB b.coins (b.coins.length - 1) = true
  rotate_left
  · have hno : ¬ okE b := fun h => hC (hiff.1 h).2.2
    have hv : coinB b.coins i = false := by
      cases h : coinB b.coins i
      · rfl
      · refine absurd ?_ hC
        have h2 : ¬ i + 1 < b.coins.length := fun h2 => hc ⟨h, h2⟩
        rw [show b.coins.length - 1 = i by omega]
        exact h
    rw [hv]
    simp only [go_sem, Nat.reduceBEq]
    exact retQ_one rfl (by rw [if_neg hno])
  have hv := coinB_mono hi hC
  have hi3 : ¬ ((i + 1 : Nat) : Int) < b.coins.length := fun h => hc ⟨hv, by omega⟩
  have hyes : okE b := hiff.2 ⟨hJ, hX, hC⟩
  rw [hv]
  simp only [go_sem, Nat.reduceBEq, eq_false hi3, List.length_map, decide_false]
  exact retQ_one rfl (by rw [if_pos hyes])
end Go.Proofs.YtlcpplkbmlmmbaaGreat.Mk.Me
namespace Go.Proofs.YtlcpplkbmlmmbaaGreat.Mk.Me
open Go.RowKit Ls
def capJ (j : Job) (m : Int) : Job := { j with cap := m }
def jobAt (b : EBook) (k : Nat) : Job := b.jobs.getD k ⟨0, 0, 0, 0, 0, 0⟩
def capB (b : EBook) (k : Nat) (m : Int) : EBook := { b with jobs := b.jobs.set k (capJ (jobAt b k) m) }
def capLe (c m : Int) : Prop := m = -1 ∨ (c ≠ -1 ∧ c ≤ m)
def bareB (b : EBook) : Nat → EBook
  | 0 => b
  | i + 1 => capB (bareB b i) i (-1)
end Go.Proofs.YtlcpplkbmlmmbaaGreat.Mk.Me
namespace Go.Proofs.YtlcpplkbmlmmbaaGreat.Mk.Me
open Go.RowKit Ls
def ValL (cs : List Int) (p : Int) (q : List Int) : Prop := q.length = cs.length ∧ (∀ x ∈ q, 0 ≤ x) ∧ dotI cs q = p
def BestL (cs : List Int) (p : Int) (l : List Int) : Prop := (l = [] ∧ ∀ q, ¬ ValL cs p q) ∨ (ValL cs p l ∧ ∀ q, ValL cs p q → betB q l = false)
def InvC (cs : List Int) (p : Int) (n : Int) (l : List Int) : Prop := (l = [] ∧ ∀ q, ValL cs p q → n ≤ q.headD 0) ∨ (ValL cs p l ∧ l.headD 0 < n ∧ ∀ q, ValL cs p q → q.headD 0 < n → betB q l = false)
theorem sum_pos : ∀ {q : List Int}, (∀ x ∈ q, 0 ≤ x) → 0 ≤ sumI q
  | [], _ => by simp [sumI]
  | x :: q, h => by
    have h1 := h x (List.mem_cons_self ..)
    have h2 := sum_pos fun y hy => h y (List.mem_cons_of_mem _ hy)
    rw [sum_cons]
    omega
theorem dot_pos : ∀ {cs q : List Int}, (∀ c ∈ cs, 1 ≤ c) → (∀ x ∈ q, 0 ≤ x) → 0 ≤ dotI cs q
  | [], _, _, _ => by simp [dotI]
  | _ :: _, [], _, _ => by simp [dotI]
  | c :: cs, x :: q, hc, hq => by
    have h1 := hc c (List.mem_cons_self ..)
    have h2 := hq x (List.mem_cons_self ..)
    have h3 := dot_pos (cs := cs) (q := q) (fun y hy => hc y (List.mem_cons_of_mem _ hy)) fun y hy => hq y (List.mem_cons_of_mem _ hy)
    have := Int.mul_nonneg h2 (show 0 ≤ c by omega)
    simp only [dotI]
    omega
theorem val_cons {c : Int} {cs : List Int} {p : Int} {q : List Int} (h : ValL (c :: cs) p q) : ∃ x r, q = x :: r ∧ 0 ≤ x ∧ ValL cs (p - x * c) r := by
  obtain ⟨h1, h2, h3⟩ := h
  cases q with
  | nil => simp at h1
  | cons x r =>
    refine ⟨x, r, rfl, h2 x (List.mem_cons_self ..), by simpa using h1, fun y hy => h2 y (List.mem_cons_of_mem _ hy), ?_⟩
    simp only [dotI] at h3
    omega
theorem cons_val {c : Int} {cs : List Int} {p x : Int} {r : List Int} (hx : 0 ≤ x) (h : ValL cs (p - x * c) r) : ValL (c :: cs) p (x :: r) := by
  obtain ⟨h1, h2, h3⟩ := h
  refine ⟨by simpa using h1, fun y hy => ?_, ?_⟩
  · rcases List.mem_cons.1 hy with rfl | hy
    · exact hx
    · exact h2 y hy
  · simp only [dotI]
    omega
theorem bet_cons (x : Int) (p q : List Int) : betB (x :: p) (x :: q) = betB p q := by
  unfold betB
  rw [sum_cons, sum_cons]
  by_cases e : sumI p = sumI q
  · rw [if_pos e, if_pos (by omega)]
    simp [lexB]
  · rw [if_neg e, if_neg (by omega)]
    exact decide_eq_decide.2 (by omega)
theorem bet_head {x y : Int} {p q : List Int} (hs : sumI (x :: p) ≤ sumI (y :: q)) (h : x < y) : betB (y :: q) (x :: p) = false := by
  unfold betB
  split
  · simp only [lexB]
    rw [if_neg (by omega)]
    exact decide_eq_false (by omega)
  · exact decide_eq_false (by omega)
theorem bet_less {p q : List Int} (h : sumI p < sumI q) : betB q p = false := by
  unfold betB
  rw [if_neg (by omega)]
  exact decide_eq_false (by omega)
theorem invC0 (c : Int) (cs : List Int) (p : Int) : InvC (c :: cs) p 0 [] := .inl ⟨rfl, fun q hq => by
  obtain ⟨x, r, rfl, hx, -⟩ := val_cons hq
  exact hx⟩
theorem invC_none {c : Int} {cs : List Int} {p n : Int} {l : List Int} (h : InvC (c :: cs) p n l) (hr : BestL cs (p - n * c) []) (hne : cs ≠ []) : InvC (c :: cs) p (n + 1) l := by
  have key : ∀ q, ValL (c :: cs) p q → q.headD 0 ≠ n := fun q hq e => by
    obtain ⟨x, r, rfl, hx, hv⟩ := val_cons hq
    have e : x = n := e
    subst e
    rcases hr with ⟨-, h2⟩ | ⟨h2, -⟩
    · exact h2 r hv
    · have := h2.1
      rw [List.length_nil] at this
      exact hne (List.length_eq_zero_iff.1 this.symm)
  rcases h with ⟨h1, h2⟩ | ⟨h1, h2, h3⟩
  · exact .inl ⟨h1, fun q hq => by have := h2 q hq; have := key q hq; omega⟩
  · exact .inr ⟨h1, by omega, fun q hq hlt => h3 q hq (by have := key q hq; omega)⟩
theorem invC_take {c : Int} {cs : List Int} {p n : Int} {l r : List Int} (h : InvC (c :: cs) p n l) (hn : 0 ≤ n) (hr : BestL cs (p - n * c) r) (hne : r ≠ []) (hlt : l = [] ∨ n + sumI r < sumI l) : InvC (c :: cs) p (n + 1) (n :: r) := by
  rcases hr with ⟨h1, -⟩ | ⟨h1, h2⟩
  · exact absurd h1 hne
  refine .inr ⟨cons_val hn h1, by show n < n + 1; omega, fun q hq hh => ?_⟩
  obtain ⟨x, s, rfl, hx, hv⟩ := val_cons hq
  have hh : x < n + 1 := hh
  by_cases e : x = n
  · subst e
    rw [bet_cons]
    exact h2 s hv
  · rcases h with ⟨h3, h4⟩ | ⟨h3, h4, h5⟩
    · have : n ≤ x := h4 _ hq
      omega
    · rcases hlt with h6 | h6
      · rw [h6] at h3
        have := h3.1
        simp at this
      · have h7 := bet_sum (h5 _ hq (show x < n by omega))
        refine bet_less ?_
        rw [sum_cons]
        omega
theorem invC_keep {c : Int} {cs : List Int} {p n : Int} {l r : List Int} (h : InvC (c :: cs) p n l) (hr : BestL cs (p - n * c) r) (hne : r ≠ []) (hl : l ≠ []) (hge : sumI l ≤ n + sumI r) : InvC (c :: cs) p (n + 1) l := by
  rcases hr with ⟨h1, -⟩ | ⟨h1, h2⟩
  · exact absurd h1 hne
  rcases h with ⟨h3, h4⟩ | ⟨h3, h4, h5⟩
  · exact absurd h3 hl
  refine .inr ⟨h3, by omega, fun q hq hh => ?_⟩
  obtain ⟨x, s, rfl, hx, hv⟩ := val_cons hq
  have hh : x < n + 1 := hh
  by_cases e : x = n
  · subst e
    have h6 := bet_sum (h2 s hv)
    cases l with
    | nil => exact absurd rfl hl
    | cons y l' =>
      have h4 : y < x := h4
      refine bet_head ?_ h4
      rw [sum_cons x s]
      omega
  · exact h5 _ hq (show x < n by omega)
theorem invC_end {c : Int} {cs : List Int} {p n : Int} {l : List Int} (hc : ∀ y ∈ c :: cs, 1 ≤ y) (h : InvC (c :: cs) p n l) (hp : p < n * c) : BestL (c :: cs) p l := by
  have key : ∀ q, ValL (c :: cs) p q → q.headD 0 < n := fun q hq => by
    obtain ⟨x, s, rfl, hx, hv⟩ := val_cons hq
    show x < n
    have h1 := dot_pos (cs := cs) (q := s) (fun y hy => hc y (List.mem_cons_of_mem _ hy)) hv.2.1
    rw [hv.2.2] at h1
    refine Int.not_le.1 fun hle => ?_
    have := Int.mul_le_mul_of_nonneg_right hle (show 0 ≤ c by have := hc c (List.mem_cons_self ..); omega)
    omega
  rcases h with ⟨h1, h2⟩ | ⟨h1, h2, h3⟩
  · exact .inl ⟨h1, fun q hq => by have := h2 q hq; have := key q hq; omega⟩
  · exact .inr ⟨h1, fun q hq => h3 q hq (key q hq)⟩
theorem bestL_one {c p : Int} (hc : 1 ≤ c) (hp : 0 ≤ p) : BestL [c] p (if p % c = 0 then [p / c] else []) := by
  have e := Int.emod_add_mul_ediv p c
  split
  · rename_i h
    rw [h] at e
    have e2 : p / c * c = p := by rw [Int.mul_comm]; omega
    refine .inr ⟨⟨rfl, fun x hx => ?_, ?_⟩, fun q hq => ?_⟩
    · rw [List.mem_singleton.1 hx]
      exact Int.ediv_nonneg hp (by omega)
    · simp only [dotI]
      omega
    · obtain ⟨x, r, rfl, hx, h1, h2, h3⟩ := val_cons hq
      have hr : r = [] := List.length_eq_zero_iff.1 h1
      subst hr
      simp only [dotI] at h3
      have : x = p / c := by
        refine Int.eq_of_mul_eq_mul_right (show c ≠ 0 by omega) ?_
        omega
      subst this
      exact bet_irr _
  · rename_i h
    refine .inl ⟨rfl, fun q hq => ?_⟩
    obtain ⟨x, r, rfl, hx, h1, h2, h3⟩ := val_cons hq
    have hr : r = [] := List.length_eq_zero_iff.1 h1
    subst hr
    simp only [dotI] at h3
    refine h ?_
    have : p = x * c := by omega
    rw [this]
    exact Int.mul_emod_left ..
theorem bestL_uniq {cs : List Int} {p : Int} {l m : List Int} (h : BestL cs p l) (k : BestL cs p m) : l = m := by
  rcases h with ⟨h1, h2⟩ | ⟨h1, h2⟩
  · rcases k with ⟨k1, -⟩ | ⟨k1, -⟩
    · rw [h1, k1]
    · exact absurd k1 (h2 _)
  · rcases k with ⟨-, k2⟩ | ⟨k1, k2⟩
    · exact absurd h1 (k2 _)
    · exact bet_total (k2 _ h1) (h2 _ k1)
theorem sum_app2 : ∀ (p z : List Int), sumI (p ++ z) = sumI p + sumI z
  | [], z => by simp [sumI]
  | x :: p, z => by rw [List.cons_append, sum_cons, sum_cons, sum_app2 p z]; omega
theorem lex_app : ∀ (p q z : List Int), p.length = q.length → lexB (p ++ z) (q ++ z) = lexB p q
  | [], [], z, _ => by simp [lexB, lexB_irr]
  | [], _ :: _, _, h => absurd h (by simp)
  | _ :: _, [], _, h => absurd h (by simp)
  | x :: p, y :: q, z, h => by
    have := lex_app p q z (by simpa using h)
    simp only [List.cons_append, lexB, this]
theorem bet_app (p q z : List Int) (h : p.length = q.length) : betB (p ++ z) (q ++ z) = betB p q := by
  unfold betB
  rw [sum_app2, sum_app2, lex_app p q z h]
  by_cases e : sumI p = sumI q
  · rw [if_pos e, if_pos (by omega)]
  · rw [if_neg e, if_neg (by omega)]
    exact decide_eq_decide.2 (by omega)
theorem dot_app : ∀ (cs p z : List Int), p.length = cs.length → dotI cs (p ++ z) = dotI cs p
  | [], [], z, _ => by simp [dotI]
  | [], _ :: _, _, h => absurd h (by simp)
  | _ :: _, [], _, h => absurd h (by simp)
  | c :: cs, x :: p, z, h => by
    have := dot_app cs p z (by simpa using h)
    simp only [List.cons_append, dotI, this]
theorem best_of_pur {coins : List Int} (hc : Coins coins) (d : Nat) : BestL coins d ((purP coins d).take coins.length) := by
  obtain ⟨hp, hb⟩ := pur_best hc d
  have h4 := hc.le
  have hlen : ((purP coins d).take coins.length).length = coins.length := by rw [List.length_take, hp.len]; omega
  have hz : purP coins d = (purP coins d).take coins.length ++ List.replicate (4 - coins.length) 0 := by
    refine list4_ext hp.len (by rw [List.length_append, hlen, List.length_replicate]; omega) fun n hn => ?_
    by_cases h : n < coins.length
    · simp only [List.getD_eq_getElem?_getD]
      rw [List.getElem?_append_left (by omega), List.getElem?_take_of_lt h]
    · rw [hp.out n (by omega), List.getD_eq_getElem?_getD, List.getElem?_append_right (by omega), hlen, List.getElem?_replicate]
      split <;> rfl
  have hpos : ∀ x ∈ (purP coins d).take coins.length, 0 ≤ x := fun x hx => by
    obtain ⟨n, hn, e⟩ := List.mem_iff_getElem.1 (List.mem_of_mem_take hx)
    have := hp.pos n (by have := hp.len; omega)
    rw [List.getD_eq_getElem?_getD, List.getElem?_eq_getElem hn, e] at this
    exact this
  refine .inr ⟨⟨hlen, hpos, ?_⟩, fun q hq => ?_⟩
  · have := hp.dot
    rw [hz, dot_app _ _ _ hlen] at this
    exact this
  · have hq4 : Pays coins (q ++ List.replicate (4 - coins.length) 0) d := by
      obtain ⟨q1, q2, q3⟩ := hq
      refine ⟨by rw [List.length_append, List.length_replicate]; omega, fun n hn => ?_, fun n hn => ?_, by rw [dot_app _ _ _ q1]; exact q3⟩
      · by_cases h : n < coins.length
        · rw [List.getD_eq_getElem?_getD, List.getElem?_append_left (by omega), List.getElem?_eq_getElem (by omega)]
          exact q2 _ (List.getElem_mem _)
        · rw [List.getD_eq_getElem?_getD, List.getElem?_append_right (by omega), List.getElem?_replicate]
          split <;> exact Int.le_refl _
      · rw [List.getD_eq_getElem?_getD, List.getElem?_append_right (by omega), List.getElem?_replicate]
        split <;> rfl
    have := hb _ hq4
    rw [hz, bet_app _ _ _ (by rw [hlen]; exact hq.1)] at this
    exact this
end Go.Proofs.YtlcpplkbmlmmbaaGreat.Mk.Me
