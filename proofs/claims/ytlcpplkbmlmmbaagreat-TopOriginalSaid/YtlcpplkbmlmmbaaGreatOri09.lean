/- Contracts of mend: what is asked. Mathematics of maker: what is told of two makers, and lists of values. Contracts of mend's statements: the chapter's books and examples. -/
import Derived.Test.YtlcpplkbmlmmbaaGreatOri08
import Derived.Test.YtlcpplkbmlmmbaaGreatGa16
import Derived.Test.YtlcpplkbmlmmbaaGreatOri04
import Derived.Test.YtlcpplkbmlmmbaaGreatGa15
namespace Go.Proofs.YtlcpplkbmlmmbaaGreat.Mk.Me
open Go.RowKit Ls
def ac69 : AC := (AC.seq (AC.ops [(AOp.mk (some 2) (AK.box 8 (AX.t 0)) none 0 false true), (AOp.mk (some 4) (AK.mv (AX.c (PV.val (Value.int IntKind.i64 0)))) none 1 false true)]) (AC.seq (AC.seq (AC.ops [(AOp.mk (some 6) (AK.ld (some 8) (AX.t 2)) none 0 false true), (AOp.mk (some 7) (AK.call 13 [(AX.t 6)]) none 1 false true), (AOp.mk (some 5) (AK.mv (AX.t 7)) none 2 false true)]) (AC.seq (AC.ops [(AOp.mk (some 8) (AK.mv (AX.t 5)) none 0 false true), (AOp.mk (some 9) (AK.bin false BinOp.neq (AX.t 8) (AX.c (PV.val (Value.int IntKind.i64 0)))) none 1 false true)]) (AC.cond (AX.t 9) (AC.seq (AC.ops [(AOp.mk (some 10) (AK.mv (AX.t 5)) none 0 false true), (AOp.mk (some 4) (AK.mv (AX.t 10)) none 1 false true)]) AC.ret) AC.skip))) (AC.seq (AC.seq (AC.ops [(AOp.mk (some 11) (AK.mv (AX.t 1)) none 0 false true), (AOp.mk (some 12) (AK.un UnOp.not (AX.t 11)) none 1 false true)]) (AC.cond (AX.t 12) (AC.seq (AC.ops [(AOp.mk (some 4) (AK.mv (AX.c (PV.val (Value.int IntKind.i64 81)))) none 0 false true)]) AC.ret) AC.skip)) (AC.seq (AC.ops [(AOp.mk (some 4) (AK.mv (AX.c (PV.val (Value.int IntKind.i64 0)))) none 0 false true)]) AC.ret))))
theorem ac69_ok : cCode Tryz.prog (fun _ => false) Tryz.f69.ntmps (Tryz.f69.body.getD .skip) = some ac69 := by kernel_rfl
def ac50 : AC := (AC.seq (AC.ops [(AOp.mk (some 2) (AK.box 8 (AX.t 0)) none 0 false true), (AOp.mk (some 4) (AK.mv (AX.c PV.nilp)) none 1 false true), (AOp.mk (some 5) (AK.mv (AX.c (PV.val (Value.int IntKind.i64 0)))) none 2 false true)]) (AC.seq (AC.seq (AC.ops [(AOp.mk (some 9) (AK.ld (some 8) (AX.t 2)) none 0 false true), (AOp.mk (some 10) (AK.mv (AX.t 1)) none 1 false true), (AOp.mk (some 11) (AK.call 69 [(AX.t 9), (AX.t 10)]) none 2 false true), (AOp.mk (some 6) (AK.mv (AX.t 11)) none 3 false true)]) (AC.seq (AC.ops [(AOp.mk (some 12) (AK.mv (AX.t 6)) none 0 false true), (AOp.mk (some 13) (AK.bin false BinOp.neq (AX.t 12) (AX.c (PV.val (Value.int IntKind.i64 0)))) none 1 false true)]) (AC.cond (AX.t 13) (AC.seq (AC.ops [(AOp.mk (some 14) (AK.mv (AX.t 6)) none 0 false true), (AOp.mk (some 4) (AK.mv (AX.c PV.nilp)) none 1 false true), (AOp.mk (some 5) (AK.mv (AX.t 14)) none 2 false true)]) AC.ret) AC.skip))) (AC.seq (AC.ops [(AOp.mk (some 16) (AK.fadr 0 (AX.t 2)) none 0 false true), (AOp.mk (some 17) (AK.ld (some 4) (AX.t 16)) none 1 false true), (AOp.mk (some 18) (AK.call 41 [(AX.t 17)]) none 2 false true), (AOp.mk (some 15) (AK.mv (AX.t 18)) none 3 false true), (AOp.mk (some 19) (AK.ext (AX.t 15) 0) none 4 false true), (AOp.mk (some 20) (AK.ext (AX.t 15) 1) none 5 false true), (AOp.mk (some 7) (AK.mv (AX.t 19)) none 6 false true), (AOp.mk (some 8) (AK.mv (AX.t 20)) none 7 false true)]) (AC.seq (AC.seq (AC.ops [(AOp.mk (some 21) (AK.mv (AX.t 8)) none 0 false true), (AOp.mk (some 22) (AK.bin false BinOp.neq (AX.t 21) (AX.c (PV.val (Value.int IntKind.i64 0)))) none 1 false true), (AOp.mk (some 23) (AK.mv (AX.t 22)) none 2 false true), (AOp.mk (some 24) (AK.mv (AX.t 7)) (some (23, false)) 3 false true), (AOp.mk (some 25) (AK.len (AX.t 24)) (some (23, false)) 4 false true), (AOp.mk (some 26) (AK.bin false BinOp.eql (AX.t 25) (AX.c (PV.val (Value.int IntKind.i64 0)))) (some (23, false)) 5 false true), (AOp.mk (some 27) (AK.pick (AX.t 23) (AX.c (PV.val (Value.bool true))) (AX.t 26)) none 6 false true)]) (AC.cond (AX.t 27) (AC.seq (AC.ops [(AOp.mk (some 4) (AK.mv (AX.c PV.nilp)) none 0 false true), (AOp.mk (some 5) (AK.mv (AX.c (PV.val (Value.int IntKind.i64 82)))) none 1 false true)]) AC.ret) AC.skip)) (AC.seq (AC.ops [(AOp.mk (some 28) (AK.ld (some 8) (AX.t 2)) none 0 false true), (AOp.mk (some 29) (AK.mv (AX.t 7)) none 1 false true), (AOp.mk (some 30) (AK.call 84 [(AX.t 28), (AX.t 29)]) none 2 false true), (AOp.mk (some 4) (AK.mv (AX.t 30)) none 3 false true), (AOp.mk (some 5) (AK.mv (AX.c (PV.val (Value.int IntKind.i64 0)))) none 4 false true)]) AC.ret)))))
theorem ac50_ok : cCode Tryz.prog (fun _ => false) Tryz.f50.ntmps (Tryz.f50.body.getD .skip) = some ac50 := by kernel_rfl
def ac11 : AC := (AC.seq (AC.ops [(AOp.mk (some 2) (AK.box 8 (AX.t 0)) none 0 false true), (AOp.mk (some 4) (AK.new (PV.agg [(PV.val (Value.int IntKind.i64 0)), (PV.val (Value.int IntKind.i64 0))])) none 1 false true), (AOp.mk (some 5) (AK.mv (AX.c (PV.val (Value.int IntKind.i64 0)))) none 2 false true)]) (AC.seq (AC.ops [(AOp.mk (some 9) (AK.ld (some 8) (AX.t 2)) none 0 true false), (AOp.mk (some 10) (AK.ld (some 8) (AX.t 2)) none 1 true false), (AOp.mk (some 11) (AK.mv (AX.t 1)) none 2 true false), (AOp.mk (some 12) (AK.call 51 [(AX.t 10), (AX.t 11)]) none 3 false false), (AOp.mk (some 13) (AK.call 50 [(AX.t 9), (AX.t 12)]) none 4 false true), (AOp.mk (some 8) (AK.mv (AX.t 13)) none 5 true true), (AOp.mk (some 14) (AK.ext (AX.t 8) 0) none 6 true false), (AOp.mk (some 15) (AK.ext (AX.t 8) 1) none 7 true false), (AOp.mk (some 6) (AK.mv (AX.t 14)) none 8 true false), (AOp.mk (some 7) (AK.mv (AX.t 15)) none 9 true true)]) (AC.seq (AC.seq (AC.ops [(AOp.mk (some 16) (AK.mv (AX.t 7)) none 0 false true), (AOp.mk (some 17) (AK.bin false BinOp.neq (AX.t 16) (AX.c (PV.val (Value.int IntKind.i64 0)))) none 1 false true)]) (AC.cond (AX.t 17) (AC.seq (AC.ops [(AOp.mk (some 18) (AK.build [(PV.val (Value.int IntKind.i64 0)), (PV.val (Value.int IntKind.i64 0))] []) none 0 false true), (AOp.mk (some 19) (AK.mv (AX.t 7)) none 1 false true), (AOp.mk none (AK.st 2 (AX.t 4) (AX.t 18)) none 2 false true), (AOp.mk (some 5) (AK.mv (AX.t 19)) none 3 false true)]) AC.ret) AC.skip)) (AC.seq (AC.ops [(AOp.mk (some 20) (AK.mv (AX.t 6)) none 0 false true), (AOp.mk (some 21) (AK.mv (AX.t 6)) none 1 false true), (AOp.mk (some 22) (AK.mv (AX.t 1)) none 2 false true), (AOp.mk (some 23) (AK.call 53 [(AX.t 21), (AX.t 22)]) none 3 false true), (AOp.mk (some 24) (AK.bslice false 74 6 1 [(PV.val (Value.int IntKind.i64 0)), (PV.val (Value.int IntKind.i64 0)), (PV.val (Value.int IntKind.i64 0)), (PV.val (Value.int IntKind.i64 0)), (PV.val (Value.int IntKind.i64 0)), (PV.val (Value.int IntKind.i64 0))] [(0, (6, (AX.t 23)))]) none 4 false true), (AOp.mk (some 25) (AK.call 52 [(AX.t 20), (AX.c (PV.val (Value.int IntKind.i64 0))), (AX.t 24)]) none 5 false true), (AOp.mk none (AK.st 2 (AX.t 4) (AX.t 25)) none 6 false true), (AOp.mk (some 5) (AK.mv (AX.c (PV.val (Value.int IntKind.i64 0)))) none 7 false true)]) AC.ret))))
def ac22 : AC := (AC.seq (AC.ops [(AOp.mk (some 1) (AK.box 8 (AX.t 0)) none 0 false true), (AOp.mk (some 2) (AK.new (PV.agg [(PV.val (Value.int IntKind.i64 0)), (PV.val (Value.int IntKind.i64 0))])) none 1 false true), (AOp.mk (some 3) (AK.mv (AX.c (PV.val (Value.int IntKind.i64 0)))) none 2 false true)]) (AC.seq (AC.ops [(AOp.mk (some 7) (AK.ld (some 8) (AX.t 1)) none 0 false true), (AOp.mk (some 8) (AK.call 50 [(AX.t 7), (AX.c (PV.val (Value.bool true)))]) none 1 false true), (AOp.mk (some 6) (AK.mv (AX.t 8)) none 2 false true), (AOp.mk (some 9) (AK.ext (AX.t 6) 0) none 3 false true), (AOp.mk (some 10) (AK.ext (AX.t 6) 1) none 4 false true), (AOp.mk (some 4) (AK.mv (AX.t 9)) none 5 false true), (AOp.mk (some 5) (AK.mv (AX.t 10)) none 6 false true)]) (AC.seq (AC.seq (AC.ops [(AOp.mk (some 11) (AK.mv (AX.t 5)) none 0 false true), (AOp.mk (some 12) (AK.bin false BinOp.neq (AX.t 11) (AX.c (PV.val (Value.int IntKind.i64 0)))) none 1 false true)]) (AC.cond (AX.t 12) (AC.seq (AC.ops [(AOp.mk (some 13) (AK.build [(PV.val (Value.int IntKind.i64 0)), (PV.val (Value.int IntKind.i64 0))] []) none 0 false true), (AOp.mk (some 14) (AK.mv (AX.t 5)) none 1 false true), (AOp.mk none (AK.st 2 (AX.t 2) (AX.t 13)) none 2 false true), (AOp.mk (some 3) (AK.mv (AX.t 14)) none 3 false true)]) AC.ret) AC.skip)) (AC.seq (AC.ops [(AOp.mk (some 15) (AK.mv (AX.t 4)) none 0 false true), (AOp.mk (some 16) (AK.mv (AX.t 4)) none 1 false true), (AOp.mk (some 17) (AK.call 63 [(AX.t 16)]) none 2 false true), (AOp.mk (some 18) (AK.call 52 [(AX.t 15), (AX.c (PV.val (Value.int IntKind.i64 1))), (AX.t 17)]) none 3 false true), (AOp.mk none (AK.st 2 (AX.t 2) (AX.t 18)) none 4 false true), (AOp.mk (some 3) (AK.mv (AX.c (PV.val (Value.int IntKind.i64 0)))) none 5 false true)]) AC.ret))))
theorem ac22_ok : cCode Tryz.prog (fun _ => false) Tryz.f22.ntmps (Tryz.f22.body.getD .skip) = some ac22 := by kernel_rfl
def ac15 : AC := (AC.seq (AC.ops [(AOp.mk (some 1) (AK.box 8 (AX.t 0)) none 0 false true), (AOp.mk (some 2) (AK.new (PV.agg [(PV.val (Value.int IntKind.i64 0)), (PV.val (Value.int IntKind.i64 0))])) none 1 false true), (AOp.mk (some 3) (AK.mv (AX.c (PV.val (Value.int IntKind.i64 0)))) none 2 false true)]) (AC.seq (AC.ops [(AOp.mk (some 7) (AK.ld (some 8) (AX.t 1)) none 0 false true), (AOp.mk (some 8) (AK.call 50 [(AX.t 7), (AX.c (PV.val (Value.bool true)))]) none 1 false true), (AOp.mk (some 6) (AK.mv (AX.t 8)) none 2 false true), (AOp.mk (some 9) (AK.ext (AX.t 6) 0) none 3 false true), (AOp.mk (some 10) (AK.ext (AX.t 6) 1) none 4 false true), (AOp.mk (some 4) (AK.mv (AX.t 9)) none 5 false true), (AOp.mk (some 5) (AK.mv (AX.t 10)) none 6 false true)]) (AC.seq (AC.seq (AC.ops [(AOp.mk (some 11) (AK.mv (AX.t 5)) none 0 false true), (AOp.mk (some 12) (AK.bin false BinOp.neq (AX.t 11) (AX.c (PV.val (Value.int IntKind.i64 0)))) none 1 false true)]) (AC.cond (AX.t 12) (AC.seq (AC.ops [(AOp.mk (some 13) (AK.build [(PV.val (Value.int IntKind.i64 0)), (PV.val (Value.int IntKind.i64 0))] []) none 0 false true), (AOp.mk (some 14) (AK.mv (AX.t 5)) none 1 false true), (AOp.mk none (AK.st 2 (AX.t 2) (AX.t 13)) none 2 false true), (AOp.mk (some 3) (AK.mv (AX.t 14)) none 3 false true)]) AC.ret) AC.skip)) (AC.seq (AC.ops [(AOp.mk (some 15) (AK.mv (AX.t 4)) none 0 false true), (AOp.mk (some 16) (AK.mv (AX.t 4)) none 1 false true), (AOp.mk (some 17) (AK.call 63 [(AX.t 16)]) none 2 false true), (AOp.mk (some 18) (AK.call 52 [(AX.t 15), (AX.c (PV.val (Value.int IntKind.i64 2))), (AX.t 17)]) none 3 false true), (AOp.mk none (AK.st 2 (AX.t 2) (AX.t 18)) none 4 false true), (AOp.mk (some 3) (AK.mv (AX.c (PV.val (Value.int IntKind.i64 0)))) none 5 false true)]) AC.ret))))
theorem ac15_ok : cCode Tryz.prog (fun _ => false) Tryz.f15.ntmps (Tryz.f15.body.getD .skip) = some ac15 := by kernel_rfl
def ac24 : AC := (AC.seq (AC.ops [(AOp.mk (some 2) (AK.box 8 (AX.t 0)) none 0 false true), (AOp.mk (some 4) (AK.mv (AX.c (PV.val (Value.bool false)))) none 1 false true), (AOp.mk (some 5) (AK.mv (AX.c (PV.val (Value.int IntKind.i64 0)))) none 2 false true)]) (AC.seq (AC.ops [(AOp.mk (some 9) (AK.ld (some 8) (AX.t 2)) none 0 false true), (AOp.mk (some 10) (AK.mv (AX.t 1)) none 1 false true), (AOp.mk (some 11) (AK.call 26 [(AX.t 9), (AX.t 10)]) none 2 false true), (AOp.mk (some 8) (AK.mv (AX.t 11)) none 3 false true), (AOp.mk (some 12) (AK.ext (AX.t 8) 0) none 4 false true), (AOp.mk (some 13) (AK.ext (AX.t 8) 1) none 5 false true), (AOp.mk (some 6) (AK.mv (AX.t 12)) none 6 false true), (AOp.mk (some 7) (AK.mv (AX.t 13)) none 7 false true)]) (AC.seq (AC.ops [(AOp.mk (some 14) (AK.mv (AX.t 6)) none 0 false true), (AOp.mk (some 15) (AK.len (AX.t 14)) none 1 false true), (AOp.mk (some 16) (AK.bin false BinOp.gtr (AX.t 15) (AX.c (PV.val (Value.int IntKind.i64 0)))) none 2 false true), (AOp.mk (some 17) (AK.mv (AX.t 7)) none 3 false true), (AOp.mk (some 4) (AK.mv (AX.t 16)) none 4 false true), (AOp.mk (some 5) (AK.mv (AX.t 17)) none 5 false true)]) AC.ret)))
def ac26 : AC := (AC.seq (AC.ops [(AOp.mk (some 2) (AK.box 8 (AX.t 0)) none 0 false true), (AOp.mk (some 4) (AK.mv (AX.c (PV.sl SK.full 0 []))) none 1 false true), (AOp.mk (some 5) (AK.mv (AX.c (PV.val (Value.int IntKind.i64 0)))) none 2 false true)]) (AC.seq (AC.ops [(AOp.mk (some 9) (AK.ld (some 8) (AX.t 2)) none 0 false true), (AOp.mk (some 10) (AK.call 50 [(AX.t 9), (AX.c (PV.val (Value.bool true)))]) none 1 false true), (AOp.mk (some 8) (AK.mv (AX.t 10)) none 2 false true), (AOp.mk (some 11) (AK.ext (AX.t 8) 0) none 3 false true), (AOp.mk (some 12) (AK.ext (AX.t 8) 1) none 4 false true), (AOp.mk (some 6) (AK.mv (AX.t 11)) none 5 false true), (AOp.mk (some 7) (AK.mv (AX.t 12)) none 6 false true)]) (AC.seq (AC.seq (AC.ops [(AOp.mk (some 13) (AK.mv (AX.t 7)) none 0 false true), (AOp.mk (some 14) (AK.bin false BinOp.neq (AX.t 13) (AX.c (PV.val (Value.int IntKind.i64 0)))) none 1 false true)]) (AC.cond (AX.t 14) (AC.seq (AC.ops [(AOp.mk (some 15) (AK.mv (AX.t 7)) none 0 false true), (AOp.mk (some 4) (AK.mv (AX.c (PV.sl SK.full 0 []))) none 1 false true), (AOp.mk (some 5) (AK.mv (AX.t 15)) none 2 false true)]) AC.ret) AC.skip)) (AC.seq (AC.ops [(AOp.mk (some 16) (AK.mv (AX.t 6)) none 0 false true), (AOp.mk (some 17) (AK.mv (AX.t 1)) none 1 false true), (AOp.mk (some 18) (AK.call 67 [(AX.t 16), (AX.t 17)]) none 2 false true), (AOp.mk (some 4) (AK.mv (AX.t 18)) none 3 false true), (AOp.mk (some 5) (AK.mv (AX.c (PV.val (Value.int IntKind.i64 0)))) none 4 false true)]) AC.ret))))
theorem ac26_ok : cCode Tryz.prog (fun _ => false) Tryz.f26.ntmps (Tryz.f26.body.getD .skip) = some ac26 := by kernel_rfl
def ac17 : AC := (AC.seq (AC.ops [(AOp.mk (some 1) (AK.box 8 (AX.t 0)) none 0 false true), (AOp.mk (some 2) (AK.mv (AX.c (PV.val (Value.int IntKind.i64 0)))) none 1 false true), (AOp.mk (some 3) (AK.mv (AX.c (PV.val (Value.int IntKind.i64 0)))) none 2 false true)]) (AC.seq (AC.ops [(AOp.mk (some 9) (AK.ld (some 8) (AX.t 1)) none 0 false true), (AOp.mk (some 10) (AK.call 50 [(AX.t 9), (AX.c (PV.val (Value.bool true)))]) none 1 false true), (AOp.mk (some 8) (AK.mv (AX.t 10)) none 2 false true), (AOp.mk (some 11) (AK.ext (AX.t 8) 0) none 3 false true), (AOp.mk (some 12) (AK.ext (AX.t 8) 1) none 4 false true), (AOp.mk (some 4) (AK.mv (AX.t 11)) none 5 false true), (AOp.mk (some 5) (AK.mv (AX.t 12)) none 6 false true)]) (AC.seq (AC.seq (AC.ops [(AOp.mk (some 13) (AK.mv (AX.t 5)) none 0 false true), (AOp.mk (some 14) (AK.bin false BinOp.neq (AX.t 13) (AX.c (PV.val (Value.int IntKind.i64 0)))) none 1 false true)]) (AC.cond (AX.t 14) (AC.seq (AC.ops [(AOp.mk (some 15) (AK.mv (AX.t 5)) none 0 false true), (AOp.mk (some 2) (AK.mv (AX.c (PV.val (Value.int IntKind.i64 0)))) none 1 false true), (AOp.mk (some 3) (AK.mv (AX.t 15)) none 2 false true)]) AC.ret) AC.skip)) (AC.seq (AC.ops [(AOp.mk (some 17) (AK.mv (AX.t 4)) none 0 false true), (AOp.mk (some 18) (AK.call 65 [(AX.t 17)]) none 1 false true), (AOp.mk (some 16) (AK.mv (AX.t 18)) none 2 false true), (AOp.mk (some 19) (AK.ext (AX.t 16) 0) none 3 false true), (AOp.mk (some 20) (AK.ext (AX.t 16) 1) none 4 false true), (AOp.mk (some 6) (AK.mv (AX.t 19)) none 5 false true), (AOp.mk (some 7) (AK.mv (AX.t 20)) none 6 false true)]) (AC.seq (AC.seq (AC.ops [(AOp.mk (some 21) (AK.mv (AX.t 7)) none 0 false true), (AOp.mk (some 22) (AK.un UnOp.not (AX.t 21)) none 1 false true)]) (AC.cond (AX.t 22) (AC.seq (AC.ops [(AOp.mk (some 2) (AK.mv (AX.c (PV.val (Value.int IntKind.i64 0)))) none 0 false true), (AOp.mk (some 3) (AK.mv (AX.c (PV.val (Value.int IntKind.i64 4)))) none 1 false true)]) AC.ret) AC.skip)) (AC.seq (AC.ops [(AOp.mk (some 23) (AK.mv (AX.t 6)) none 0 false true), (AOp.mk (some 2) (AK.mv (AX.t 23)) none 1 false true), (AOp.mk (some 3) (AK.mv (AX.c (PV.val (Value.int IntKind.i64 0)))) none 2 false true)]) AC.ret))))))
def ac19 : AC := (AC.seq (AC.ops [(AOp.mk (some 2) (AK.box 8 (AX.t 0)) none 0 false true), (AOp.mk (some 4) (AK.mv (AX.c (PV.val (Value.int IntKind.i64 0)))) none 1 false true), (AOp.mk (some 5) (AK.mv (AX.c (PV.val (Value.int IntKind.i64 0)))) none 2 false true)]) (AC.seq (AC.ops [(AOp.mk (some 9) (AK.ld (some 8) (AX.t 2)) none 0 true false), (AOp.mk (some 10) (AK.ld (some 8) (AX.t 2)) none 1 true false), (AOp.mk (some 11) (AK.mv (AX.t 1)) none 2 true false), (AOp.mk (some 12) (AK.call 51 [(AX.t 10), (AX.t 11)]) none 3 false false), (AOp.mk (some 13) (AK.call 50 [(AX.t 9), (AX.t 12)]) none 4 false true), (AOp.mk (some 8) (AK.mv (AX.t 13)) none 5 true true), (AOp.mk (some 14) (AK.ext (AX.t 8) 0) none 6 true false), (AOp.mk (some 15) (AK.ext (AX.t 8) 1) none 7 true false), (AOp.mk (some 6) (AK.mv (AX.t 14)) none 8 true false), (AOp.mk (some 7) (AK.mv (AX.t 15)) none 9 true true)]) (AC.seq (AC.seq (AC.ops [(AOp.mk (some 16) (AK.mv (AX.t 7)) none 0 false true), (AOp.mk (some 17) (AK.bin false BinOp.neq (AX.t 16) (AX.c (PV.val (Value.int IntKind.i64 0)))) none 1 false true)]) (AC.cond (AX.t 17) (AC.seq (AC.ops [(AOp.mk (some 18) (AK.mv (AX.t 7)) none 0 false true), (AOp.mk (some 4) (AK.mv (AX.c (PV.val (Value.int IntKind.i64 0)))) none 1 false true), (AOp.mk (some 5) (AK.mv (AX.t 18)) none 2 false true)]) AC.ret) AC.skip)) (AC.seq (AC.ops [(AOp.mk (some 19) (AK.mv (AX.t 6)) none 0 false true), (AOp.mk (some 20) (AK.mv (AX.t 6)) none 1 false true), (AOp.mk (some 21) (AK.mv (AX.t 1)) none 2 false true), (AOp.mk (some 22) (AK.call 53 [(AX.t 20), (AX.t 21)]) none 3 false true), (AOp.mk (some 23) (AK.bslice false 74 6 1 [(PV.val (Value.int IntKind.i64 0)), (PV.val (Value.int IntKind.i64 0)), (PV.val (Value.int IntKind.i64 0)), (PV.val (Value.int IntKind.i64 0)), (PV.val (Value.int IntKind.i64 0)), (PV.val (Value.int IntKind.i64 0))] [(0, (6, (AX.t 22)))]) none 4 false true), (AOp.mk (some 24) (AK.call 52 [(AX.t 19), (AX.c (PV.val (Value.int IntKind.i64 2))), (AX.t 23)]) none 5 false true), (AOp.mk (some 25) (AK.fld 1 none (AX.t 24)) none 6 false true), (AOp.mk (some 4) (AK.mv (AX.t 25)) none 7 false true), (AOp.mk (some 5) (AK.mv (AX.c (PV.val (Value.int IntKind.i64 0)))) none 8 false true)]) AC.ret))))
def ac29 : AC := (AC.seq (AC.ops [(AOp.mk (some 2) (AK.box 8 (AX.t 0)) none 0 false true), (AOp.mk (some 4) (AK.mv (AX.c (PV.sl SK.full 0 []))) none 1 false true), (AOp.mk (some 5) (AK.mv (AX.c (PV.val (Value.int IntKind.i64 0)))) none 2 false true)]) (AC.seq (AC.ops [(AOp.mk (some 7) (AK.ld (some 8) (AX.t 2)) none 0 true false), (AOp.mk (some 8) (AK.mv (AX.t 1)) none 1 true false), (AOp.mk (some 9) (AK.call 70 [(AX.t 8), (AX.c (PV.val (Value.int IntKind.i64 0))), (AX.c (PV.val (Value.int IntKind.i64 600)))]) none 2 false false), (AOp.mk (some 10) (AK.call 69 [(AX.t 7), (AX.t 9)]) none 3 false true), (AOp.mk (some 6) (AK.mv (AX.t 10)) none 4 true true)]) (AC.seq (AC.seq (AC.ops [(AOp.mk (some 11) (AK.mv (AX.t 6)) none 0 false true), (AOp.mk (some 12) (AK.bin false BinOp.neq (AX.t 11) (AX.c (PV.val (Value.int IntKind.i64 0)))) none 1 false true)]) (AC.cond (AX.t 12) (AC.seq (AC.ops [(AOp.mk (some 13) (AK.mv (AX.t 6)) none 0 false true), (AOp.mk (some 4) (AK.mv (AX.c (PV.sl SK.full 0 []))) none 1 false true), (AOp.mk (some 5) (AK.mv (AX.t 13)) none 2 false true)]) AC.ret) AC.skip)) (AC.seq (AC.ops [(AOp.mk (some 14) (AK.fadr 7 (AX.t 2)) none 0 false true), (AOp.mk (some 15) (AK.ld none (AX.t 14)) none 1 false true), (AOp.mk (some 16) (AK.mv (AX.t 1)) none 2 false true), (AOp.mk (some 17) (AK.call 71 [(AX.t 15), (AX.t 16)]) none 3 false true), (AOp.mk (some 4) (AK.mv (AX.t 17)) none 4 false true), (AOp.mk (some 5) (AK.mv (AX.c (PV.val (Value.int IntKind.i64 0)))) none 5 false true)]) AC.ret))))
def errE (b : EBook) (known : Bool) : Int := if okE b then (if known then 0 else 81) else 80
def errF (b : EBook) (known : Bool) : Int := if okE b then (if known then (if whoL b.mb = [] then 82 else 0) else 81) else 80
theorem errF_ok {b : EBook} {known : Bool} (h : errF b known = 0) : okE b ∧ known = true ∧ whoL b.mb ≠ [] := by
  unfold errF at h
  split at h
  · rename_i ho
    split at h
    · rename_i hk
      split at h
      · omega
      · rename_i hw
        exact ⟨ho, hk, hw⟩
    · omega
  · omega
theorem errF_of {b : EBook} (ho : okE b) (hw : whoL b.mb ≠ []) : errF b true = 0 := by
  unfold errF
  rw [if_pos ho, if_pos rfl, if_neg hw]
theorem errE_ok {b : EBook} {known : Bool} (h : errE b known = 0) : okE b ∧ known = true := by
  unfold errE at h
  split at h
  · rename_i ho
    split at h
    · rename_i hk
      exact ⟨ho, hk⟩
    · omega
  · omega
theorem known_lt {b : EBook} : ∀ t ∈ known b, t.1 < b.mb.makers.length := fun _ ht => (mem_who.1 (known_who ht)).1
theorem askedBook_sem (κ : KS) (b : EBook) (known : Bool) : Sem1 69 [.agg (ebC κ b), pb known] (pi (errE b known)) := by
  unfold errE
  by_cases ho : okE b
  · rw [if_pos ho]
    refine semC_of_exec' mixed Tryz.func69 (by kernel_rfl) (by kernel_rfl) ac69_ok 2 rfl (by decide) [(.tmp 4)] (by kernel_rfl) ?_
    intro hr C hC hI
    unfold ac69
    simp only [go_sem, Nat.reduceBEq, Nat.reduceAdd]
    refine call_pure2 hC (Check_sem κ b) rfl (PVleL_refl _) ?_
    rintro r rfl
    simp only [go_sem, Nat.reduceBEq, if_pos ho, decide_false, not_true_eq_false]
    cases known
    · simp only [go_sem, Nat.reduceBEq, Bool.false_eq_true]
      exact retQ_one rfl rfl
    · simp only [go_sem, Nat.reduceBEq]
      exact retQ_one rfl rfl
  · rw [if_neg ho]
    refine semC_of_exec' mixed Tryz.func69 (by kernel_rfl) (by kernel_rfl) ac69_ok 2 rfl (by decide) [(.tmp 4)] (by kernel_rfl) ?_
    intro hr C hC hI
    unfold ac69
    simp only [go_sem, Nat.reduceBEq, Nat.reduceAdd]
    refine call_pure2 hC (Check_sem κ b) rfl (PVleL_refl _) ?_
    rintro r rfl
    simp only [go_sem, Nat.reduceBEq, if_neg ho, decide_true, not_false_eq_true, Int.reduceEq]
    exact retQ_one rfl rfl
theorem rightBook_sem (κ : KS) (b : EBook) (known : Bool) : Sem1 50 [.agg (ebC κ b), pb known] (.tup [if errF b known = 0 then bookK κ b else .nilp, pi (errF b known)]) := by
  by_cases he : errE b known = 0
  rotate_left
  · have hf : errF b known = errE b known := by
      unfold errE at he ⊢
      unfold errF
      split
      · rename_i ho
        rw [if_pos ho] at he
        split
        · rename_i hk
          rw [if_pos hk] at he
          exact absurd rfl he
        · rfl
      · rfl
    rw [hf, if_neg he]
    refine semC_of_exec' mixed Tryz.func50 (by kernel_rfl) (by kernel_rfl) ac50_ok 2 rfl (by decide) [(.tmp 4), (.tmp 5)] (by kernel_rfl) ?_
    intro hr C hC hI
    unfold ac50
    simp only [go_sem, Nat.reduceBEq, Nat.reduceAdd]
    refine call_pure2 hC (askedBook_sem κ b known) rfl (PVleL_refl _) ?_
    rintro r rfl
    simp only [go_sem, Nat.reduceBEq, eq_false he, decide_true, not_false_eq_true]
    exact retQ_two rfl rfl rfl
  obtain ⟨ho, rfl⟩ := errE_ok he
  by_cases hw : whoL b.mb = []
  · have hf : errF b true = 82 := by unfold errF; rw [if_pos ho, if_pos rfl, if_pos hw]
    rw [hf, if_neg (by decide)]
    refine semC_of_exec' mixed Tryz.func50 (by kernel_rfl) (by kernel_rfl) ac50_ok 2 rfl (by decide) [(.tmp 4), (.tmp 5)] (by kernel_rfl) ?_
    intro hr C hC hI
    unfold ac50
    simp only [go_sem, Nat.reduceBEq, Nat.reduceAdd]
    refine call_pure2 hC (askedBook_sem κ b true) rfl (PVleL_refl _) ?_
    rintro r rfl
    simp only [go_sem, Nat.reduceBEq, Nat.reduceAdd, Nat.reduceLeDiff, he, decide_false, not_true_eq_false]
    refine call_pure2 hC (Mk.Who_sem κ.a κ.b b.mb) rfl (PVleL_refl _) ?_
    rintro r hr2
    by_cases h0 : errR b.mb true = 0
    · rw [if_pos h0, hw] at hr2
      subst hr2
      simp only [go_sem, Nat.reduceBEq, decide_true, decide_false, not_true_eq_false, natL, List.map_nil, List.length_nil, Int.natCast_zero]
      exact retQ_two rfl rfl rfl
    · rw [if_neg h0] at hr2
      subst hr2
      simp only [go_sem, Nat.reduceBEq, eq_true h0, decide_true]
      exact retQ_two rfl rfl rfl
  · have hf := errF_of ho hw
    have h0 : errR b.mb true = 0 := by
      unfold errR
      rw [if_pos ho.1, if_pos rfl, if_pos (who_right hw)]
    have hln : ¬ ((natL (whoL b.mb)).length : Int) = 0 := by
      rw [natL_len]
      have := List.length_pos_iff.2 hw
      omega
    rw [hf, if_pos rfl]
    refine semC_of_exec' mixed Tryz.func50 (by kernel_rfl) (by kernel_rfl) ac50_ok 2 rfl (by decide) [(.tmp 4), (.tmp 5)] (by kernel_rfl) ?_
    intro hr C hC hI
    unfold ac50
    simp only [go_sem, Nat.reduceBEq, Nat.reduceAdd]
    refine call_pure2 hC (askedBook_sem κ b true) rfl (PVleL_refl _) ?_
    rintro r rfl
    simp only [go_sem, Nat.reduceBEq, Nat.reduceAdd, Nat.reduceLeDiff, he, decide_false, not_true_eq_false]
    refine call_pure2 hC (Mk.Who_sem κ.a κ.b b.mb) rfl (PVleL_refl _) ?_
    rintro r hr2
    rw [if_pos h0] at hr2
    subst hr2
    simp only [go_sem, Nat.reduceBEq, Nat.reduceAdd, List.length_map, eq_false hln, decide_false, not_true_eq_false]
    refine call_pure2 hC (bookOf_sem κ ho .sh hw) rfl (PVleL_refl _) ?_
    rintro _ rfl
    simp only [go_sem, Nat.reduceBEq]
    exact retQ_two rfl rfl rfl
theorem rightE {C : Con} (hC : ∀ f args rd K s, SemP Tryz.prog Fence.wide f args rd K s → C.call f args rd K s) (κ : KS) (b : EBook) (known : Bool) {rd : List Nat} {K : AV → AS → Prop} {s : AS}
    (h1 : errF b known ≠ 0 → K (.p (.tup [.nilp, pi (errF b known)])) s) (h2 : errF b known = 0 → K (.p (.tup [bookK κ b, pi 0])) s) : C.call 50 [.p (.agg (ebC κ b)), .p (pb known)] rd K s := by
  refine call_pure2 hC (rightBook_sem κ b known) rfl (PVleL_refl _) ?_
  rintro r rfl
  by_cases h : errF b known = 0
  · rw [if_pos h, h]
    exact h2 h
  · rw [if_neg h]
    exact h1 h
def jobN (b : EBook) (n : Nat) : Job := b.jobs.getD n ⟨0, 0, 0, 0, 0, 0⟩
theorem Bill_sem (κ : KS) (b : EBook) : Sem1 22 [.agg (ebC κ b)] (if errF b true = 0 then .tup [spanP b 1 b.jobs, pi 0] else .tup [.agg [pi 0, pi 0], pi (errF b true)]) := by
  refine semC_of_exec' mixed Tryz.func22 (by kernel_rfl) (by kernel_rfl) ac22_ok 1 rfl (by decide) [(.cell 2 31), (.tmp 3)] (by kernel_rfl) ?_
  intro hr C hC hI
  unfold ac22
  simp only [go_sem, Nat.reduceBEq, Nat.reduceAdd]
  refine rightE hC κ b true (fun hne => ?_) (fun h0 => ?_)
  · rw [if_neg hne]
    simp only [go_sem, Nat.reduceBEq, Nat.reduceAdd, eq_true hne, putCells, decide_true, not_false_eq_true]
    exact retQ_ct (n := some 2) (by kernel_rfl) rfl rfl rfl
  · obtain ⟨ho, hk, hw⟩ := errF_ok h0
    have hl := ho.2.1.2
    rw [if_pos h0]
    simp only [go_sem, Nat.reduceBEq, decide_false, not_true_eq_false]
    refine call_pure2 hC (jobs_sem κ hl) rfl (PVleL_refl _) ?_
    rintro _ rfl
    simp only [go_sem, Nat.reduceBEq]
    refine call_pure2 hC (span_sem κ ho (known_ne hw) known_lt 1 (by decide) .full b.jobs ho.2.2.2.1 hl) rfl (PVleL_refl _) ?_
    rintro _ rfl
    simp only [go_sem, Nat.reduceBEq, Nat.reduceAdd, putCells]
    exact retQ_ct (n := some 2) (by kernel_rfl) rfl rfl rfl
theorem Loss_sem (κ : KS) (b : EBook) : Sem1 15 [.agg (ebC κ b)] (if errF b true = 0 then .tup [spanP b 2 b.jobs, pi 0] else .tup [.agg [pi 0, pi 0], pi (errF b true)]) := by
  refine semC_of_exec' mixed Tryz.func15 (by kernel_rfl) (by kernel_rfl) ac15_ok 1 rfl (by decide) [(.cell 2 31), (.tmp 3)] (by kernel_rfl) ?_
  intro hr C hC hI
  unfold ac15
  simp only [go_sem, Nat.reduceBEq, Nat.reduceAdd]
  refine rightE hC κ b true (fun hne => ?_) (fun h0 => ?_)
  · rw [if_neg hne]
    simp only [go_sem, Nat.reduceBEq, Nat.reduceAdd, eq_true hne, putCells, decide_true, not_false_eq_true]
    exact retQ_ct (n := some 2) (by kernel_rfl) rfl rfl rfl
  · obtain ⟨ho, hk, hw⟩ := errF_ok h0
    have hl := ho.2.1.2
    rw [if_pos h0]
    simp only [go_sem, Nat.reduceBEq, decide_false, not_true_eq_false]
    refine call_pure2 hC (jobs_sem κ hl) rfl (PVleL_refl _) ?_
    rintro _ rfl
    simp only [go_sem, Nat.reduceBEq]
    refine call_pure2 hC (span_sem κ ho (known_ne hw) known_lt 2 (by decide) .full b.jobs ho.2.2.2.1 hl) rfl (PVleL_refl _) ?_
    rintro _ rfl
    simp only [go_sem, Nat.reduceBEq, Nat.reduceAdd, putCells]
    exact retQ_ct (n := some 2) (by kernel_rfl) rfl rfl rfl
theorem Whose_sem (κ : KS) (b : EBook) (pence : Int) : Sem1 26 [.agg (ebC κ b), pi pence] (if errF b true = 0 then .tup [pis (natL (whoseL b pence)), pi 0] else .tup [pis [], pi (errF b true)]) := by
  refine semC_of_exec' mixed Tryz.func26 (by kernel_rfl) (by kernel_rfl) ac26_ok 2 rfl (by decide) [(.tmp 4), (.tmp 5)] (by kernel_rfl) ?_
  intro hr C hC hI
  unfold ac26
  simp only [go_sem, Nat.reduceBEq, Nat.reduceAdd]
  refine rightE hC κ b true (fun hne => ?_) (fun h0 => ?_)
  · rw [if_neg hne]
    simp only [go_sem, Nat.reduceBEq, eq_true hne, decide_true]
    exact retQ_two_le rfl rfl (PVle.nil _ _ _) (PVle.refl _) rfl
  · obtain ⟨ho, hk, hw⟩ := errF_ok h0
    rw [if_pos h0]
    simp only [go_sem, Nat.reduceBEq, decide_false, not_true_eq_false]
    refine call_pure2 hC (whose_sem κ ho known_lt pence) rfl (PVleL_refl _) ?_
    rintro _ rfl
    simp only [go_sem, Nat.reduceBEq]
    exact retQ_two_le rfl rfl (PVle.sh _ _ _) (PVle.refl _) rfl
def dearE (b : EBook) : PV := if 0 < (dearF (lossN b) b.jobs.length).2 then .tup [pi (dearF (lossN b) b.jobs.length).1, pi 0] else .tup [pi 0, pi 4]
def okP (n : Int) : Bool := decide (0 ≤ n ∧ n ≤ 600)
end Go.Proofs.YtlcpplkbmlmmbaaGreat.Mk.Me
namespace Go.Proofs.YtlcpplkbmlmmbaaGreat.Mk
open Go.RowKit Ls
theorem both_iff {b : MBook} (h : okC b) {o u : Nat} : bothB b o u = true ↔ bothP b o u := by
  have h6 := h.2.1.2
  have key : ∀ c1 c2, (!lackB fun q => valA (unseenB b) o c1 q &&& valA (unseenB b) u c2 q) = true ↔ ∀ k, k < nK b → valN (unseenB b) o c1 k &&& valN (unseenB b) u c2 k ≠ 0 := fun c1 c2 => by
    rw [Bool.not_eq_true', Bool.eq_false_iff, ne_eq, lack_iff]
    constructor
    · intro H k hk he
      refine H ⟨k, by omega, ?_⟩
      unfold valA
      rw [if_pos (show k < nK (unseenB b) from hk), if_pos (show k < nK (unseenB b) from hk)]
      exact he
    · rintro H ⟨k, hk, he⟩
      unfold valA at he
      by_cases hn : k < nK b
      · rw [if_pos (show k < nK (unseenB b) from hn), if_pos (show k < nK (unseenB b) from hn)] at he
        exact H k hn he
      · rw [if_neg (show ¬ k < nK (unseenB b) from hn), if_neg (show ¬ k < nK (unseenB b) from hn)] at he
        cases he
  unfold bothB bothP
  rw [List.any_eq_true]
  constructor
  · rintro ⟨c1, h1, h2⟩
    obtain ⟨c2, h3, h4⟩ := List.any_eq_true.1 h2
    exact ⟨c1, h1, c2, h3, (key c1 c2).1 h4⟩
  · rintro ⟨c1, h1, c2, h3, h4⟩
    exact ⟨c1, h1, List.any_eq_true.2 ⟨c2, h3, (key c1 c2).2 h4⟩⟩
def exL (l : List Int) (j : Nat) : List (Int × Int) := (List.range j).map fun (k : Nat) => ((k : Int), 2 ^ exV l k)
theorem exL_next (l : List Int) (j : Nat) : exL l (j + 1) = exL l j ++ [((j : Int), 2 ^ exV l j)] := by
  unfold exL
  rw [List.range_succ, List.map_append]
  rfl
theorem exV_get {l : List Int} (h : fiveL l) {j : Nat} (hj : j < l.length) : l[j] = (exV l j : Int) := by
  have := h _ (List.getElem_mem hj)
  unfold exV
  rw [List.getD_eq_getElem?_getD, List.getElem?_eq_getElem hj]
  show l[j] = ((l[j]).toNat : Int)
  omega
theorem exL_len (l : List Int) (j : Nat) : (exL l j).length = j := by simp [exL]
theorem exact_ok {b : MBook} (h : okBook b) {l : List Int} (hf : fiveL l) (hl : l.length = nK b) : okBook (exactB b l) := by
  obtain ⟨⟨h1, h2, h3, h4, h5⟩, h8⟩ := h
  refine ⟨⟨h1, h2, h3, ?_, h5⟩, ?_⟩
  · intro m hm
    obtain ⟨k, hk, rfl⟩ := List.mem_map.1 hm
    have hk2 := List.mem_range.1 hk
    have h9 := ex_five hf k
    have hp : (2 : Int) ^ (l.getD k 0).toNat = ((2 ^ exV l k : Nat) : Int) := by
      unfold exV
      norm_cast
    have hle : 2 ^ exV l k ≤ 16 := Nat.pow_le_pow_right (n := 2) (by decide) (show exV l k ≤ 4 by omega)
    have hge : 1 ≤ 2 ^ exV l k := Nat.one_le_two_pow
    show (0 ≤ (k : Int) ∧ (k : Int) < (nK b : Int)) ∧ 1 ≤ (2 : Int) ^ (l.getD k 0).toNat ∧ (2 : Int) ^ (l.getD k 0).toNat ≤ 31
    rw [hp]
    omega
  · show (exL l l.length).length ≤ 8
    rw [exL_len]
    omega
def pickI (b : MBook) (o u k : Nat) : Int := (listI (pickN b o u k : Nat) 5).getD 0 0
def pickL (b : MBook) (o u j : Nat) : List Int := (List.range j).map (pickI b o u)
def anyL (bits : List Int) (j : Nat) : List Int := (List.range j).map fun (k : Nat) => rndI (takeL bits k) 5
end Go.Proofs.YtlcpplkbmlmmbaaGreat.Mk
namespace Go.Proofs.YtlcpplkbmlmmbaaGreat.Mk.Me
open Go.RowKit Ls
def ac108 : AC := (AC.seq (AC.ops [(AOp.mk (some 2) (AK.new (PV.agg [(PV.sl SK.full 0 []), (PV.sl SK.full 0 []), (PV.val (Value.int IntKind.i64 0)), (PV.val (Value.int IntKind.i64 0))])) none 0 false true)]) (AC.seq (AC.ops [(AOp.mk (some 3) (AK.bslice false 3 1 3 [(PV.val (Value.int IntKind.i64 0))] [(0, (1, (AX.c (PV.val (Value.int IntKind.i64 1))))), (1, (1, (AX.c (PV.val (Value.int IntKind.i64 3))))), (2, (1, (AX.c (PV.val (Value.int IntKind.i64 4)))))]) none 0 false true), (AOp.mk (some 4) (AK.bslice false 3 1 3 [(PV.val (Value.int IntKind.i64 0))] [(0, (1, (AX.c (PV.val (Value.int IntKind.i64 2))))), (1, (1, (AX.c (PV.val (Value.int IntKind.i64 2))))), (2, (1, (AX.c (PV.val (Value.int IntKind.i64 4)))))]) none 1 false true), (AOp.mk (some 5) (AK.bslice false 3 1 3 [(PV.val (Value.int IntKind.i64 0))] [(0, (1, (AX.c (PV.val (Value.int IntKind.i64 1))))), (1, (1, (AX.c (PV.val (Value.int IntKind.i64 8))))), (2, (1, (AX.c (PV.val (Value.int IntKind.i64 3)))))]) none 2 false true), (AOp.mk (some 6) (AK.bslice false 27 1 3 [(PV.sl SK.full 0 [])] [(0, (1, (AX.t 3))), (1, (1, (AX.t 4))), (2, (1, (AX.t 5)))]) none 3 false true), (AOp.mk (some 7) (AK.mv (AX.t 0)) none 4 false true), (AOp.mk (some 8) (AK.build [(PV.val (Value.int IntKind.i64 0)), (PV.val (Value.int IntKind.i64 0))] [(0, (1, (AX.c (PV.val (Value.int IntKind.i64 0))))), (1, (1, (AX.c (PV.val (Value.int IntKind.i64 3)))))]) none 5 false true), (AOp.mk (some 9) (AK.build [(PV.val (Value.int IntKind.i64 0)), (PV.val (Value.int IntKind.i64 0))] [(0, (1, (AX.c (PV.val (Value.int IntKind.i64 1))))), (1, (1, (AX.c (PV.val (Value.int IntKind.i64 10)))))]) none 6 false true), (AOp.mk (some 10) (AK.build [(PV.val (Value.int IntKind.i64 0)), (PV.val (Value.int IntKind.i64 0))] [(0, (1, (AX.c (PV.val (Value.int IntKind.i64 2))))), (1, (1, (AX.c (PV.val (Value.int IntKind.i64 4)))))]) none 7 false true), (AOp.mk (some 11) (AK.bslice false 67 2 3 [(PV.val (Value.int IntKind.i64 0)), (PV.val (Value.int IntKind.i64 0))] [(0, (2, (AX.t 8))), (2, (2, (AX.t 9))), (4, (2, (AX.t 10)))]) none 8 false true), (AOp.mk (some 12) (AK.build [(PV.sl SK.full 0 []), (PV.sl SK.full 0 []), (PV.val (Value.int IntKind.i64 0)), (PV.val (Value.int IntKind.i64 0))] [(0, (1, (AX.t 6))), (2, (1, (AX.t 7))), (3, (1, (AX.c (PV.val (Value.int IntKind.i64 1))))), (1, (1, (AX.t 11)))]) none 9 false true), (AOp.mk none (AK.st 4 (AX.t 2) (AX.t 12)) none 10 false true)]) AC.ret))
def ac109 : AC := (AC.seq (AC.ops [(AOp.mk (some 5) (AK.box 2 (AX.t 1)) none 0 false true), (AOp.mk (some 6) (AK.box 2 (AX.t 2)) none 1 false true), (AOp.mk (some 8) (AK.new (PV.agg [(PV.val (Value.int IntKind.i64 0)), (PV.val (Value.int IntKind.i64 0)), (PV.val (Value.int IntKind.i64 0)), (PV.val (Value.int IntKind.i64 0)), (PV.val (Value.int IntKind.i64 0)), (PV.val (Value.int IntKind.i64 0))])) none 2 false true)]) (AC.seq (AC.ops [(AOp.mk (some 9) (AK.mv (AX.t 0)) none 0 false true), (AOp.mk (some 10) (AK.ld (some 2) (AX.t 5)) none 1 false true), (AOp.mk (some 11) (AK.ld (some 2) (AX.t 6)) none 2 false true), (AOp.mk (some 12) (AK.mv (AX.t 3)) none 3 false true), (AOp.mk (some 13) (AK.build [(PV.val (Value.int IntKind.i64 0)), (PV.val (Value.int IntKind.i64 0)), (PV.val (Value.int IntKind.i64 0)), (PV.val (Value.int IntKind.i64 0)), (PV.val (Value.int IntKind.i64 0)), (PV.val (Value.int IntKind.i64 0))] [(0, (1, (AX.t 9))), (1, (2, (AX.t 10))), (3, (2, (AX.t 11))), (5, (1, (AX.t 12)))]) none 4 false true), (AOp.mk none (AK.st 6 (AX.t 8) (AX.t 13)) none 5 false true)]) AC.ret))
def ac75 : AC := (AC.seq (AC.ops [(AOp.mk (some 2) (AK.new (PV.agg [(PV.sl SK.full 0 []), (PV.sl SK.full 0 []), (PV.val (Value.int IntKind.i64 0)), (PV.val (Value.int IntKind.i64 0)), (PV.sl SK.full 0 []), (PV.val (Value.int IntKind.i64 0)), (PV.sl SK.full 0 []), (PV.sl SK.full 0 [])])) none 0 false true)]) (AC.seq (AC.ops [(AOp.mk (some 3) (AK.mv (AX.t 0)) none 0 false true), (AOp.mk (some 4) (AK.call 108 [(AX.t 3)]) none 1 false true), (AOp.mk (some 5) (AK.call 36 [(AX.c (PV.val (Value.int IntKind.i64 2))), (AX.c (PV.val (Value.int IntKind.i64 3)))]) none 2 false true), (AOp.mk (some 6) (AK.call 36 [(AX.c (PV.val (Value.int IntKind.i64 5))), (AX.c (PV.val (Value.int IntKind.i64 6)))]) none 3 false true), (AOp.mk (some 7) (AK.call 109 [(AX.c (PV.val (Value.int IntKind.i64 1))), (AX.t 5), (AX.t 6), (AX.c (PV.val (Value.int IntKind.i64 (-1))))]) none 4 false true), (AOp.mk (some 8) (AK.call 34 [(AX.c (PV.val (Value.int IntKind.i64 1)))]) none 5 false true), (AOp.mk (some 9) (AK.call 34 [(AX.c (PV.val (Value.int IntKind.i64 10)))]) none 6 false true), (AOp.mk (some 10) (AK.call 109 [(AX.c (PV.val (Value.int IntKind.i64 2))), (AX.t 8), (AX.t 9), (AX.c (PV.val (Value.int IntKind.i64 15)))]) none 7 false true), (AOp.mk (some 11) (AK.bslice false 51 6 2 [(PV.val (Value.int IntKind.i64 0)), (PV.val (Value.int IntKind.i64 0)), (PV.val (Value.int IntKind.i64 0)), (PV.val (Value.int IntKind.i64 0)), (PV.val (Value.int IntKind.i64 0)), (PV.val (Value.int IntKind.i64 0))] [(0, (6, (AX.t 7))), (6, (6, (AX.t 10)))]) none 8 false true), (AOp.mk (some 12) (AK.bslice false 3 1 3 [(PV.val (Value.int IntKind.i64 0))] [(0, (1, (AX.c (PV.val (Value.int IntKind.i64 3))))), (1, (1, (AX.c (PV.val (Value.int IntKind.i64 0))))), (2, (1, (AX.c (PV.val (Value.int IntKind.i64 7)))))]) none 9 false true), (AOp.mk (some 13) (AK.bslice false 3 1 3 [(PV.val (Value.int IntKind.i64 0))] [(0, (1, (AX.c (PV.val (Value.int IntKind.i64 1))))), (1, (1, (AX.c (PV.val (Value.int IntKind.i64 3))))), (2, (1, (AX.c (PV.val (Value.int IntKind.i64 12)))))]) none 10 false true), (AOp.mk (some 14) (AK.build [(PV.sl SK.full 0 []), (PV.sl SK.full 0 []), (PV.val (Value.int IntKind.i64 0)), (PV.val (Value.int IntKind.i64 0)), (PV.sl SK.full 0 []), (PV.val (Value.int IntKind.i64 0)), (PV.sl SK.full 0 []), (PV.sl SK.full 0 [])] [(0, (4, (AX.t 4))), (4, (1, (AX.t 11))), (5, (1, (AX.c (PV.val (Value.int IntKind.i64 4))))), (6, (1, (AX.t 12))), (7, (1, (AX.t 13)))]) none 11 false true), (AOp.mk none (AK.st 8 (AX.t 2) (AX.t 14)) none 12 false true)]) AC.ret))
def ac35 : AC := (AC.seq (AC.ops [(AOp.mk (some 0) (AK.new (PV.agg [(PV.sl SK.full 0 []), (PV.sl SK.full 0 []), (PV.val (Value.int IntKind.i64 0)), (PV.val (Value.int IntKind.i64 0)), (PV.sl SK.full 0 []), (PV.val (Value.int IntKind.i64 0)), (PV.sl SK.full 0 []), (PV.sl SK.full 0 [])])) none 0 false true)]) (AC.seq (AC.ops [(AOp.mk (some 1) (AK.call 75 [(AX.c (PV.val (Value.int IntKind.i64 1)))]) none 0 false true), (AOp.mk none (AK.st 8 (AX.t 0) (AX.t 1)) none 1 false true)]) AC.ret))
def ac38 : AC := (AC.seq (AC.ops [(AOp.mk (some 0) (AK.new (PV.agg [(PV.sl SK.full 0 []), (PV.sl SK.full 0 []), (PV.val (Value.int IntKind.i64 0)), (PV.val (Value.int IntKind.i64 0)), (PV.sl SK.full 0 []), (PV.val (Value.int IntKind.i64 0)), (PV.sl SK.full 0 []), (PV.sl SK.full 0 [])])) none 0 false true)]) (AC.seq (AC.ops [(AOp.mk (some 1) (AK.call 75 [(AX.c (PV.val (Value.int IntKind.i64 0)))]) none 0 false true), (AOp.mk none (AK.st 8 (AX.t 0) (AX.t 1)) none 1 false true)]) AC.ret))
def ac21 : AC := (AC.seq (AC.ops [(AOp.mk (some 0) (AK.mv (AX.c (PV.val (Value.bool false)))) none 0 false true)]) (AC.seq (AC.ops [(AOp.mk (some 16) (AK.call 35 []) none 0 false true), (AOp.mk (some 17) (AK.call 11 [(AX.t 16), (AX.c (PV.val (Value.int IntKind.i64 0)))]) none 1 false true), (AOp.mk (some 15) (AK.mv (AX.t 17)) none 2 false true), (AOp.mk (some 18) (AK.ext (AX.t 15) 0) none 3 false true), (AOp.mk (some 19) (AK.ext (AX.t 15) 1) none 4 false true), (AOp.mk (some 1) (AK.new (PV.agg [(PV.val (Value.int IntKind.i64 0)), (PV.val (Value.int IntKind.i64 0))])) none 5 false true), (AOp.mk none (AK.st 2 (AX.t 1) (AX.t 18)) none 6 false true), (AOp.mk (some 2) (AK.mv (AX.t 19)) none 7 false true)]) (AC.seq (AC.ops [(AOp.mk (some 21) (AK.call 35 []) none 0 false true), (AOp.mk (some 22) (AK.call 22 [(AX.t 21)]) none 1 false true), (AOp.mk (some 20) (AK.mv (AX.t 22)) none 2 false true), (AOp.mk (some 23) (AK.ext (AX.t 20) 0) none 3 false true), (AOp.mk (some 24) (AK.ext (AX.t 20) 1) none 4 false true), (AOp.mk (some 3) (AK.new (PV.agg [(PV.val (Value.int IntKind.i64 0)), (PV.val (Value.int IntKind.i64 0))])) none 5 false true), (AOp.mk none (AK.st 2 (AX.t 3) (AX.t 23)) none 6 false true), (AOp.mk (some 4) (AK.mv (AX.t 24)) none 7 false true)]) (AC.seq (AC.ops [(AOp.mk (some 26) (AK.call 35 []) none 0 false true), (AOp.mk (some 27) (AK.call 15 [(AX.t 26)]) none 1 false true), (AOp.mk (some 25) (AK.mv (AX.t 27)) none 2 false true), (AOp.mk (some 28) (AK.ext (AX.t 25) 0) none 3 false true), (AOp.mk (some 29) (AK.ext (AX.t 25) 1) none 4 false true), (AOp.mk (some 5) (AK.new (PV.agg [(PV.val (Value.int IntKind.i64 0)), (PV.val (Value.int IntKind.i64 0))])) none 5 false true), (AOp.mk none (AK.st 2 (AX.t 5) (AX.t 28)) none 6 false true), (AOp.mk (some 6) (AK.mv (AX.t 29)) none 7 false true)]) (AC.seq (AC.ops [(AOp.mk (some 31) (AK.call 35 []) none 0 false true), (AOp.mk (some 32) (AK.call 24 [(AX.t 31), (AX.c (PV.val (Value.int IntKind.i64 33)))]) none 1 false true), (AOp.mk (some 30) (AK.mv (AX.t 32)) none 2 false true), (AOp.mk (some 33) (AK.ext (AX.t 30) 0) none 3 false true), (AOp.mk (some 34) (AK.ext (AX.t 30) 1) none 4 false true), (AOp.mk (some 7) (AK.mv (AX.t 33)) none 5 false true), (AOp.mk (some 8) (AK.mv (AX.t 34)) none 6 false true)]) (AC.seq (AC.ops [(AOp.mk (some 36) (AK.call 35 []) none 0 false true), (AOp.mk (some 37) (AK.call 26 [(AX.t 36), (AX.c (PV.val (Value.int IntKind.i64 35)))]) none 1 false true), (AOp.mk (some 35) (AK.mv (AX.t 37)) none 2 false true), (AOp.mk (some 38) (AK.ext (AX.t 35) 0) none 3 false true), (AOp.mk (some 39) (AK.ext (AX.t 35) 1) none 4 false true), (AOp.mk (some 9) (AK.mv (AX.t 38)) none 5 false true), (AOp.mk (some 10) (AK.mv (AX.t 39)) none 6 false true)]) (AC.seq (AC.seq (AC.ops [(AOp.mk (some 40) (AK.mv (AX.t 2)) none 0 true true), (AOp.mk (some 41) (AK.bin false BinOp.neq (AX.t 40) (AX.c (PV.val (Value.int IntKind.i64 0)))) none 1 true true), (AOp.mk (some 42) (AK.mv (AX.t 41)) none 2 true true), (AOp.mk (some 43) (AK.mv (AX.t 4)) (some (42, false)) 3 true true), (AOp.mk (some 44) (AK.bin false BinOp.neq (AX.t 43) (AX.c (PV.val (Value.int IntKind.i64 0)))) (some (42, false)) 4 true true), (AOp.mk (some 45) (AK.pick (AX.t 42) (AX.c (PV.val (Value.bool true))) (AX.t 44)) none 5 true true), (AOp.mk (some 46) (AK.mv (AX.t 45)) none 6 true true), (AOp.mk (some 47) (AK.mv (AX.t 6)) (some (46, false)) 7 true true), (AOp.mk (some 48) (AK.bin false BinOp.neq (AX.t 47) (AX.c (PV.val (Value.int IntKind.i64 0)))) (some (46, false)) 8 true true), (AOp.mk (some 49) (AK.pick (AX.t 46) (AX.c (PV.val (Value.bool true))) (AX.t 48)) none 9 true true), (AOp.mk (some 50) (AK.mv (AX.t 49)) none 10 true true), (AOp.mk (some 51) (AK.mv (AX.t 8)) (some (50, false)) 11 true true), (AOp.mk (some 52) (AK.bin false BinOp.neq (AX.t 51) (AX.c (PV.val (Value.int IntKind.i64 0)))) (some (50, false)) 12 true true), (AOp.mk (some 53) (AK.pick (AX.t 50) (AX.c (PV.val (Value.bool true))) (AX.t 52)) none 13 true true), (AOp.mk (some 54) (AK.mv (AX.t 53)) none 14 true true), (AOp.mk (some 55) (AK.mv (AX.t 10)) (some (54, false)) 15 true true), (AOp.mk (some 56) (AK.bin false BinOp.neq (AX.t 55) (AX.c (PV.val (Value.int IntKind.i64 0)))) (some (54, false)) 16 true true), (AOp.mk (some 57) (AK.pick (AX.t 54) (AX.c (PV.val (Value.bool true))) (AX.t 56)) none 17 true true), (AOp.mk (some 58) (AK.mv (AX.t 57)) none 18 true true), (AOp.mk (some 59) (AK.ld (some 2) (AX.t 1)) (some (58, false)) 19 true false), (AOp.mk (some 60) (AK.call 36 [(AX.c (PV.val (Value.int IntKind.i64 13))), (AX.c (PV.val (Value.int IntKind.i64 25)))]) (some (58, false)) 20 false false), (AOp.mk (some 61) (AK.eqs [CK.i, CK.i] true (AX.t 59) (AX.t 60)) (some (58, false)) 21 true true), (AOp.mk (some 62) (AK.pick (AX.t 58) (AX.c (PV.val (Value.bool true))) (AX.t 61)) none 22 true true), (AOp.mk (some 63) (AK.mv (AX.t 62)) none 23 true true), (AOp.mk (some 64) (AK.ld (some 2) (AX.t 3)) (some (63, false)) 24 true false), (AOp.mk (some 65) (AK.call 36 [(AX.c (PV.val (Value.int IntKind.i64 27))), (AX.c (PV.val (Value.int IntKind.i64 39)))]) (some (63, false)) 25 false false), (AOp.mk (some 66) (AK.eqs [CK.i, CK.i] true (AX.t 64) (AX.t 65)) (some (63, false)) 26 true true), (AOp.mk (some 67) (AK.pick (AX.t 63) (AX.c (PV.val (Value.bool true))) (AX.t 66)) none 27 true true), (AOp.mk (some 68) (AK.mv (AX.t 67)) none 28 true true), (AOp.mk (some 69) (AK.ld (some 2) (AX.t 5)) (some (68, false)) 29 true false), (AOp.mk (some 70) (AK.call 36 [(AX.c (PV.val (Value.int IntKind.i64 0))), (AX.c (PV.val (Value.int IntKind.i64 2)))]) (some (68, false)) 30 false false), (AOp.mk (some 71) (AK.eqs [CK.i, CK.i] true (AX.t 69) (AX.t 70)) (some (68, false)) 31 true true), (AOp.mk (some 72) (AK.pick (AX.t 68) (AX.c (PV.val (Value.bool true))) (AX.t 71)) none 32 true true), (AOp.mk (some 73) (AK.mv (AX.t 72)) none 33 true true), (AOp.mk (some 74) (AK.mv (AX.t 7)) (some (73, false)) 34 true true), (AOp.mk (some 75) (AK.un UnOp.not (AX.t 74)) (some (73, false)) 35 true true), (AOp.mk (some 76) (AK.pick (AX.t 73) (AX.c (PV.val (Value.bool true))) (AX.t 75)) none 36 true true), (AOp.mk (some 77) (AK.mv (AX.t 76)) none 37 true true), (AOp.mk (some 78) (AK.mv (AX.t 9)) (some (77, false)) 38 true false), (AOp.mk (some 79) (AK.bslice false 3 1 2 [(PV.val (Value.int IntKind.i64 0))] [(0, (1, (AX.c (PV.val (Value.int IntKind.i64 0))))), (1, (1, (AX.c (PV.val (Value.int IntKind.i64 2)))))]) (some (77, false)) 39 false true), (AOp.mk (some 80) (AK.call 28 [(AX.t 78), (AX.t 79)]) (some (77, false)) 40 false true), (AOp.mk (some 81) (AK.un UnOp.not (AX.t 80)) (some (77, false)) 41 true true), (AOp.mk (some 82) (AK.pick (AX.t 77) (AX.c (PV.val (Value.bool true))) (AX.t 81)) none 42 true true)]) (AC.cond (AX.t 82) (AC.seq (AC.ops [(AOp.mk (some 0) (AK.mv (AX.c (PV.val (Value.bool false)))) none 0 false true)]) AC.ret) AC.skip)) (AC.seq (AC.ops [(AOp.mk (some 84) (AK.call 35 []) none 0 false true), (AOp.mk (some 85) (AK.call 17 [(AX.t 84)]) none 1 false true), (AOp.mk (some 83) (AK.mv (AX.t 85)) none 2 false true), (AOp.mk (some 86) (AK.ext (AX.t 83) 0) none 3 false true), (AOp.mk (some 87) (AK.ext (AX.t 83) 1) none 4 false true), (AOp.mk (some 11) (AK.mv (AX.t 86)) none 5 false true), (AOp.mk (some 2) (AK.mv (AX.t 87)) none 6 false true)]) (AC.seq (AC.ops [(AOp.mk (some 89) (AK.call 35 []) none 0 false true), (AOp.mk (some 90) (AK.call 19 [(AX.t 89), (AX.c (PV.val (Value.int IntKind.i64 1)))]) none 1 false true), (AOp.mk (some 88) (AK.mv (AX.t 90)) none 2 false true), (AOp.mk (some 91) (AK.ext (AX.t 88) 0) none 3 false true), (AOp.mk (some 92) (AK.ext (AX.t 88) 1) none 4 false true), (AOp.mk (some 12) (AK.mv (AX.t 91)) none 5 false true), (AOp.mk (some 4) (AK.mv (AX.t 92)) none 6 false true)]) (AC.seq (AC.ops [(AOp.mk (some 94) (AK.call 35 []) none 0 false true), (AOp.mk (some 95) (AK.call 29 [(AX.t 94), (AX.c (PV.val (Value.int IntKind.i64 17)))]) none 1 false true), (AOp.mk (some 93) (AK.mv (AX.t 95)) none 2 false true), (AOp.mk (some 96) (AK.ext (AX.t 93) 0) none 3 false true), (AOp.mk (some 97) (AK.ext (AX.t 93) 1) none 4 false true), (AOp.mk (some 13) (AK.mv (AX.t 96)) none 5 false true), (AOp.mk (some 6) (AK.mv (AX.t 97)) none 6 false true)]) (AC.seq (AC.ops [(AOp.mk (some 99) (AK.call 38 []) none 0 false true), (AOp.mk (some 100) (AK.call 22 [(AX.t 99)]) none 1 false true), (AOp.mk (some 98) (AK.mv (AX.t 100)) none 2 false true), (AOp.mk (some 101) (AK.ext (AX.t 98) 0) none 3 false true), (AOp.mk (some 102) (AK.ext (AX.t 98) 1) none 4 false true), (AOp.mk (some 14) (AK.new (PV.agg [(PV.val (Value.int IntKind.i64 0)), (PV.val (Value.int IntKind.i64 0))])) none 5 false true), (AOp.mk none (AK.st 2 (AX.t 14) (AX.t 101)) none 6 false true), (AOp.mk (some 8) (AK.mv (AX.t 102)) none 7 false true)]) (AC.seq (AC.ops [(AOp.mk (some 103) (AK.mv (AX.t 2)) none 0 true true), (AOp.mk (some 104) (AK.bin false BinOp.eql (AX.t 103) (AX.c (PV.val (Value.int IntKind.i64 0)))) none 1 true true), (AOp.mk (some 105) (AK.mv (AX.t 104)) none 2 true true), (AOp.mk (some 106) (AK.mv (AX.t 4)) (some (105, true)) 3 true true), (AOp.mk (some 107) (AK.bin false BinOp.eql (AX.t 106) (AX.c (PV.val (Value.int IntKind.i64 0)))) (some (105, true)) 4 true true), (AOp.mk (some 108) (AK.pick (AX.t 105) (AX.t 107) (AX.c (PV.val (Value.bool false)))) none 5 true true), (AOp.mk (some 109) (AK.mv (AX.t 108)) none 6 true true), (AOp.mk (some 110) (AK.mv (AX.t 6)) (some (109, true)) 7 true true), (AOp.mk (some 111) (AK.bin false BinOp.eql (AX.t 110) (AX.c (PV.val (Value.int IntKind.i64 0)))) (some (109, true)) 8 true true), (AOp.mk (some 112) (AK.pick (AX.t 109) (AX.t 111) (AX.c (PV.val (Value.bool false)))) none 9 true true), (AOp.mk (some 113) (AK.mv (AX.t 112)) none 10 true true), (AOp.mk (some 114) (AK.mv (AX.t 8)) (some (113, true)) 11 true true), (AOp.mk (some 115) (AK.bin false BinOp.eql (AX.t 114) (AX.c (PV.val (Value.int IntKind.i64 0)))) (some (113, true)) 12 true true), (AOp.mk (some 116) (AK.pick (AX.t 113) (AX.t 115) (AX.c (PV.val (Value.bool false)))) none 13 true true), (AOp.mk (some 117) (AK.mv (AX.t 116)) none 14 true true), (AOp.mk (some 118) (AK.mv (AX.t 11)) (some (117, true)) 15 true true), (AOp.mk (some 119) (AK.bin false BinOp.eql (AX.t 118) (AX.c (PV.val (Value.int IntKind.i64 1)))) (some (117, true)) 16 true true), (AOp.mk (some 120) (AK.pick (AX.t 117) (AX.t 119) (AX.c (PV.val (Value.bool false)))) none 17 true true), (AOp.mk (some 121) (AK.mv (AX.t 120)) none 18 true true), (AOp.mk (some 122) (AK.mv (AX.t 12)) (some (121, true)) 19 true true), (AOp.mk (some 123) (AK.bin false BinOp.eql (AX.t 122) (AX.c (PV.val (Value.int IntKind.i64 2)))) (some (121, true)) 20 true true), (AOp.mk (some 124) (AK.pick (AX.t 121) (AX.t 123) (AX.c (PV.val (Value.bool false)))) none 21 true true), (AOp.mk (some 125) (AK.mv (AX.t 124)) none 22 true true), (AOp.mk (some 126) (AK.mv (AX.t 13)) (some (125, true)) 23 true false), (AOp.mk (some 127) (AK.bslice false 3 1 3 [(PV.val (Value.int IntKind.i64 0))] [(0, (1, (AX.c (PV.val (Value.int IntKind.i64 2))))), (1, (1, (AX.c (PV.val (Value.int IntKind.i64 1))))), (2, (1, (AX.c (PV.val (Value.int IntKind.i64 1)))))]) (some (125, true)) 24 false true), (AOp.mk (some 128) (AK.call 28 [(AX.t 126), (AX.t 127)]) (some (125, true)) 25 false true), (AOp.mk (some 129) (AK.pick (AX.t 125) (AX.t 128) (AX.c (PV.val (Value.bool false)))) none 26 true true), (AOp.mk (some 130) (AK.mv (AX.t 129)) none 27 true true), (AOp.mk (some 131) (AK.ld (some 2) (AX.t 14)) (some (130, true)) 28 true false), (AOp.mk (some 132) (AK.call 36 [(AX.c (PV.val (Value.int IntKind.i64 27))), (AX.c (PV.val (Value.int IntKind.i64 36)))]) (some (130, true)) 29 false false), (AOp.mk (some 133) (AK.eqs [CK.i, CK.i] false (AX.t 131) (AX.t 132)) (some (130, true)) 30 true true), (AOp.mk (some 134) (AK.pick (AX.t 130) (AX.t 133) (AX.c (PV.val (Value.bool false)))) none 31 true true), (AOp.mk (some 0) (AK.mv (AX.t 134)) none 32 true true)]) AC.ret))))))))))))
theorem PVle.rowsK {k : SK} {sz : Nat} {l r : List (List PV)} (h : PVleR l r) : PVle (.sl k sz l) (.sl k sz r) := fun g v hv => by
  obtain ⟨h1, h2⟩ := h.spec
  cases hv with
  | sl _ _ _ ad n c f hl hn hc hm hk hz hat hh =>
    refine .sl k sz r ad n c f (by omega) hn hc hm hk (fun i e he => ?_) hat (fun i j e x he hx => ?_)
    · have hi : i < l.length := by rw [h1]; exact (List.getElem?_eq_some_iff.1 he).1
      rw [← (h2 i _ e (List.getElem?_eq_getElem hi) he).spec.1]
      exact hz i _ (List.getElem?_eq_getElem hi)
    · have hi : i < l.length := by rw [h1]; exact (List.getElem?_eq_some_iff.1 he).1
      obtain ⟨h3, h4⟩ := (h2 i _ e (List.getElem?_eq_getElem hi) he).spec
      have hj : j < l[i].length := by rw [h3]; exact (List.getElem?_eq_some_iff.1 hx).1
      exact h4 j _ x (List.getElem?_eq_getElem hj) hx g _ (hh i j _ _ (List.getElem?_eq_getElem hi) (List.getElem?_eq_getElem hj))
abbrev fuK : KS := ⟨.full, .full, .full, .full, .full⟩
def horseB (r : Int) : MBook := ⟨[[1, 3, 4], [2, 2, 4], [1, 8, 3]], [(0, 3), (1, 10), (2, 4)], r, 1⟩
def bookE (r : Int) : EBook := ⟨horseB r, [⟨1, 2, 3, 5, 6, -1⟩, ⟨2, 1, 1, 10, 10, 15⟩], 4, [3, 0, 7], [1, 3, 12]⟩
set_option maxRecDepth 100000
abbrev oB : PV := .agg (ebC fuK (bookE 1))
end Go.Proofs.YtlcpplkbmlmmbaaGreat.Mk.Me
