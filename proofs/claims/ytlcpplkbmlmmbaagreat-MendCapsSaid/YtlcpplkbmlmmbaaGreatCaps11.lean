/- Contracts of mend: what is asked. Mathematics of maker: what is told of two makers, and lists of values. -/
import Derived.Test.YtlcpplkbmlmmbaaGreatCaps10
import Derived.Test.YtlcpplkbmlmmbaaGreatGa16
import Derived.Test.YtlcpplkbmlmmbaaGreatCaps03
namespace Go.Proofs.YtlcpplkbmlmmbaaGreat.Mk.Me
open Go.RowKit Ls
def ac69 : AC := (AC.seq (AC.ops [(AOp.mk (some 2) (AK.box 8 (AX.t 0)) none 0 false true), (AOp.mk (some 4) (AK.mv (AX.c (PV.val (Value.int IntKind.i64 0)))) none 1 false true)]) (AC.seq (AC.seq (AC.ops [(AOp.mk (some 6) (AK.ld (some 8) (AX.t 2)) none 0 false true), (AOp.mk (some 7) (AK.call 13 [(AX.t 6)]) none 1 false true), (AOp.mk (some 5) (AK.mv (AX.t 7)) none 2 false true)]) (AC.seq (AC.ops [(AOp.mk (some 8) (AK.mv (AX.t 5)) none 0 false true), (AOp.mk (some 9) (AK.bin false BinOp.neq (AX.t 8) (AX.c (PV.val (Value.int IntKind.i64 0)))) none 1 false true)]) (AC.cond (AX.t 9) (AC.seq (AC.ops [(AOp.mk (some 10) (AK.mv (AX.t 5)) none 0 false true), (AOp.mk (some 4) (AK.mv (AX.t 10)) none 1 false true)]) AC.ret) AC.skip))) (AC.seq (AC.seq (AC.ops [(AOp.mk (some 11) (AK.mv (AX.t 1)) none 0 false true), (AOp.mk (some 12) (AK.un UnOp.not (AX.t 11)) none 1 false true)]) (AC.cond (AX.t 12) (AC.seq (AC.ops [(AOp.mk (some 4) (AK.mv (AX.c (PV.val (Value.int IntKind.i64 81)))) none 0 false true)]) AC.ret) AC.skip)) (AC.seq (AC.ops [(AOp.mk (some 4) (AK.mv (AX.c (PV.val (Value.int IntKind.i64 0)))) none 0 false true)]) AC.ret))))
theorem ac69_ok : cCode Tryz.prog (fun _ => false) Tryz.f69.ntmps (Tryz.f69.body.getD .skip) = some ac69 := by kernel_rfl
def ac50 : AC := (AC.seq (AC.ops [(AOp.mk (some 2) (AK.box 8 (AX.t 0)) none 0 false true), (AOp.mk (some 4) (AK.mv (AX.c PV.nilp)) none 1 false true), (AOp.mk (some 5) (AK.mv (AX.c (PV.val (Value.int IntKind.i64 0)))) none 2 false true)]) (AC.seq (AC.seq (AC.ops [(AOp.mk (some 9) (AK.ld (some 8) (AX.t 2)) none 0 false true), (AOp.mk (some 10) (AK.mv (AX.t 1)) none 1 false true), (AOp.mk (some 11) (AK.call 69 [(AX.t 9), (AX.t 10)]) none 2 false true), (AOp.mk (some 6) (AK.mv (AX.t 11)) none 3 false true)]) (AC.seq (AC.ops [(AOp.mk (some 12) (AK.mv (AX.t 6)) none 0 false true), (AOp.mk (some 13) (AK.bin false BinOp.neq (AX.t 12) (AX.c (PV.val (Value.int IntKind.i64 0)))) none 1 false true)]) (AC.cond (AX.t 13) (AC.seq (AC.ops [(AOp.mk (some 14) (AK.mv (AX.t 6)) none 0 false true), (AOp.mk (some 4) (AK.mv (AX.c PV.nilp)) none 1 false true), (AOp.mk (some 5) (AK.mv (AX.t 14)) none 2 false true)]) AC.ret) AC.skip))) (AC.seq (AC.ops [(AOp.mk (some 16) (AK.fadr 0 (AX.t 2)) none 0 false true), (AOp.mk (some 17) (AK.ld (some 4) (AX.t 16)) none 1 false true), (AOp.mk (some 18) (AK.call 41 [(AX.t 17)]) none 2 false true), (AOp.mk (some 15) (AK.mv (AX.t 18)) none 3 false true), (AOp.mk (some 19) (AK.ext (AX.t 15) 0) none 4 false true), (AOp.mk (some 20) (AK.ext (AX.t 15) 1) none 5 false true), (AOp.mk (some 7) (AK.mv (AX.t 19)) none 6 false true), (AOp.mk (some 8) (AK.mv (AX.t 20)) none 7 false true)]) (AC.seq (AC.seq (AC.ops [(AOp.mk (some 21) (AK.mv (AX.t 8)) none 0 false true), (AOp.mk (some 22) (AK.bin false BinOp.neq (AX.t 21) (AX.c (PV.val (Value.int IntKind.i64 0)))) none 1 false true), (AOp.mk (some 23) (AK.mv (AX.t 22)) none 2 false true), (AOp.mk (some 24) (AK.mv (AX.t 7)) (some (23, false)) 3 false true), (AOp.mk (some 25) (AK.len (AX.t 24)) (some (23, false)) 4 false true), (AOp.mk (some 26) (AK.bin false BinOp.eql (AX.t 25) (AX.c (PV.val (Value.int IntKind.i64 0)))) (some (23, false)) 5 false true), (AOp.mk (some 27) (AK.pick (AX.t 23) (AX.c (PV.val (Value.bool true))) (AX.t 26)) none 6 false true)]) (AC.cond (AX.t 27) (AC.seq (AC.ops [(AOp.mk (some 4) (AK.mv (AX.c PV.nilp)) none 0 false true), (AOp.mk (some 5) (AK.mv (AX.c (PV.val (Value.int IntKind.i64 82)))) none 1 false true)]) AC.ret) AC.skip)) (AC.seq (AC.ops [(AOp.mk (some 28) (AK.ld (some 8) (AX.t 2)) none 0 false true), (AOp.mk (some 29) (AK.mv (AX.t 7)) none 1 false true), (AOp.mk (some 30) (AK.call 84 [(AX.t 28), (AX.t 29)]) none 2 false true), (AOp.mk (some 4) (AK.mv (AX.t 30)) none 3 false true), (AOp.mk (some 5) (AK.mv (AX.c (PV.val (Value.int IntKind.i64 0)))) none 4 false true)]) AC.ret)))))
theorem ac50_ok : cCode Tryz.prog (fun _ => false) Tryz.f50.ntmps (Tryz.f50.body.getD .skip) = some ac50 := by kernel_rfl
def ac11 : AC := (AC.seq (AC.ops [(AOp.mk (some 2) (AK.box 8 (AX.t 0)) none 0 false true), (AOp.mk (some 4) (AK.new (PV.agg [(PV.val (Value.int IntKind.i64 0)), (PV.val (Value.int IntKind.i64 0))])) none 1 false true), (AOp.mk (some 5) (AK.mv (AX.c (PV.val (Value.int IntKind.i64 0)))) none 2 false true)]) (AC.seq (AC.ops [(AOp.mk (some 9) (AK.ld (some 8) (AX.t 2)) none 0 true false), (AOp.mk (some 10) (AK.ld (some 8) (AX.t 2)) none 1 true false), (AOp.mk (some 11) (AK.mv (AX.t 1)) none 2 true false), (AOp.mk (some 12) (AK.call 51 [(AX.t 10), (AX.t 11)]) none 3 false false), (AOp.mk (some 13) (AK.call 50 [(AX.t 9), (AX.t 12)]) none 4 false true), (AOp.mk (some 8) (AK.mv (AX.t 13)) none 5 true true), (AOp.mk (some 14) (AK.ext (AX.t 8) 0) none 6 true false), (AOp.mk (some 15) (AK.ext (AX.t 8) 1) none 7 true false), (AOp.mk (some 6) (AK.mv (AX.t 14)) none 8 true false), (AOp.mk (some 7) (AK.mv (AX.t 15)) none 9 true true)]) (AC.seq (AC.seq (AC.ops [(AOp.mk (some 16) (AK.mv (AX.t 7)) none 0 false true), (AOp.mk (some 17) (AK.bin false BinOp.neq (AX.t 16) (AX.c (PV.val (Value.int IntKind.i64 0)))) none 1 false true)]) (AC.cond (AX.t 17) (AC.seq (AC.ops [(AOp.mk (some 18) (AK.build [(PV.val (Value.int IntKind.i64 0)), (PV.val (Value.int IntKind.i64 0))] []) none 0 false true), (AOp.mk (some 19) (AK.mv (AX.t 7)) none 1 false true), (AOp.mk none (AK.st 2 (AX.t 4) (AX.t 18)) none 2 false true), (AOp.mk (some 5) (AK.mv (AX.t 19)) none 3 false true)]) AC.ret) AC.skip)) (AC.seq (AC.ops [(AOp.mk (some 20) (AK.mv (AX.t 6)) none 0 false true), (AOp.mk (some 21) (AK.mv (AX.t 6)) none 1 false true), (AOp.mk (some 22) (AK.mv (AX.t 1)) none 2 false true), (AOp.mk (some 23) (AK.call 53 [(AX.t 21), (AX.t 22)]) none 3 false true), (AOp.mk (some 24) (AK.bslice false 74 6 1 [(PV.val (Value.int IntKind.i64 0)), (PV.val (Value.int IntKind.i64 0)), (PV.val (Value.int IntKind.i64 0)), (PV.val (Value.int IntKind.i64 0)), (PV.val (Value.int IntKind.i64 0)), (PV.val (Value.int IntKind.i64 0))] [(0, (6, (AX.t 23)))]) none 4 false true), (AOp.mk (some 25) (AK.call 52 [(AX.t 20), (AX.c (PV.val (Value.int IntKind.i64 0))), (AX.t 24)]) none 5 false true), (AOp.mk none (AK.st 2 (AX.t 4) (AX.t 25)) none 6 false true), (AOp.mk (some 5) (AK.mv (AX.c (PV.val (Value.int IntKind.i64 0)))) none 7 false true)]) AC.ret))))
theorem ac11_ok : cCode Tryz.prog (fun _ => false) Tryz.f11.ntmps (Tryz.f11.body.getD .skip) = some ac11 := by kernel_rfl
def ac22 : AC := (AC.seq (AC.ops [(AOp.mk (some 1) (AK.box 8 (AX.t 0)) none 0 false true), (AOp.mk (some 2) (AK.new (PV.agg [(PV.val (Value.int IntKind.i64 0)), (PV.val (Value.int IntKind.i64 0))])) none 1 false true), (AOp.mk (some 3) (AK.mv (AX.c (PV.val (Value.int IntKind.i64 0)))) none 2 false true)]) (AC.seq (AC.ops [(AOp.mk (some 7) (AK.ld (some 8) (AX.t 1)) none 0 false true), (AOp.mk (some 8) (AK.call 50 [(AX.t 7), (AX.c (PV.val (Value.bool true)))]) none 1 false true), (AOp.mk (some 6) (AK.mv (AX.t 8)) none 2 false true), (AOp.mk (some 9) (AK.ext (AX.t 6) 0) none 3 false true), (AOp.mk (some 10) (AK.ext (AX.t 6) 1) none 4 false true), (AOp.mk (some 4) (AK.mv (AX.t 9)) none 5 false true), (AOp.mk (some 5) (AK.mv (AX.t 10)) none 6 false true)]) (AC.seq (AC.seq (AC.ops [(AOp.mk (some 11) (AK.mv (AX.t 5)) none 0 false true), (AOp.mk (some 12) (AK.bin false BinOp.neq (AX.t 11) (AX.c (PV.val (Value.int IntKind.i64 0)))) none 1 false true)]) (AC.cond (AX.t 12) (AC.seq (AC.ops [(AOp.mk (some 13) (AK.build [(PV.val (Value.int IntKind.i64 0)), (PV.val (Value.int IntKind.i64 0))] []) none 0 false true), (AOp.mk (some 14) (AK.mv (AX.t 5)) none 1 false true), (AOp.mk none (AK.st 2 (AX.t 2) (AX.t 13)) none 2 false true), (AOp.mk (some 3) (AK.mv (AX.t 14)) none 3 false true)]) AC.ret) AC.skip)) (AC.seq (AC.ops [(AOp.mk (some 15) (AK.mv (AX.t 4)) none 0 false true), (AOp.mk (some 16) (AK.mv (AX.t 4)) none 1 false true), (AOp.mk (some 17) (AK.call 63 [(AX.t 16)]) none 2 false true), (AOp.mk (some 18) (AK.call 52 [(AX.t 15), (AX.c (PV.val (Value.int IntKind.i64 1))), (AX.t 17)]) none 3 false true), (AOp.mk none (AK.st 2 (AX.t 2) (AX.t 18)) none 4 false true), (AOp.mk (some 3) (AK.mv (AX.c (PV.val (Value.int IntKind.i64 0)))) none 5 false true)]) AC.ret))))
theorem ac22_ok : cCode Tryz.prog (fun _ => false) Tryz.f22.ntmps (Tryz.f22.body.getD .skip) = some ac22 := by kernel_rfl
def ac15 : AC := (AC.seq (AC.ops [(AOp.mk (some 1) (AK.box 8 (AX.t 0)) none 0 false true), (AOp.mk (some 2) (AK.new (PV.agg [(PV.val (Value.int IntKind.i64 0)), (PV.val (Value.int IntKind.i64 0))])) none 1 false true), (AOp.mk (some 3) (AK.mv (AX.c (PV.val (Value.int IntKind.i64 0)))) none 2 false true)]) (AC.seq (AC.ops [(AOp.mk (some 7) (AK.ld (some 8) (AX.t 1)) none 0 false true), (AOp.mk (some 8) (AK.call 50 [(AX.t 7), (AX.c (PV.val (Value.bool true)))]) none 1 false true), (AOp.mk (some 6) (AK.mv (AX.t 8)) none 2 false true), (AOp.mk (some 9) (AK.ext (AX.t 6) 0) none 3 false true), (AOp.mk (some 10) (AK.ext (AX.t 6) 1) none 4 false true), (AOp.mk (some 4) (AK.mv (AX.t 9)) none 5 false true), (AOp.mk (some 5) (AK.mv (AX.t 10)) none 6 false true)]) (AC.seq (AC.seq (AC.ops [(AOp.mk (some 11) (AK.mv (AX.t 5)) none 0 false true), (AOp.mk (some 12) (AK.bin false BinOp.neq (AX.t 11) (AX.c (PV.val (Value.int IntKind.i64 0)))) none 1 false true)]) (AC.cond (AX.t 12) (AC.seq (AC.ops [(AOp.mk (some 13) (AK.build [(PV.val (Value.int IntKind.i64 0)), (PV.val (Value.int IntKind.i64 0))] []) none 0 false true), (AOp.mk (some 14) (AK.mv (AX.t 5)) none 1 false true), (AOp.mk none (AK.st 2 (AX.t 2) (AX.t 13)) none 2 false true), (AOp.mk (some 3) (AK.mv (AX.t 14)) none 3 false true)]) AC.ret) AC.skip)) (AC.seq (AC.ops [(AOp.mk (some 15) (AK.mv (AX.t 4)) none 0 false true), (AOp.mk (some 16) (AK.mv (AX.t 4)) none 1 false true), (AOp.mk (some 17) (AK.call 63 [(AX.t 16)]) none 2 false true), (AOp.mk (some 18) (AK.call 52 [(AX.t 15), (AX.c (PV.val (Value.int IntKind.i64 2))), (AX.t 17)]) none 3 false true), (AOp.mk none (AK.st 2 (AX.t 2) (AX.t 18)) none 4 false true), (AOp.mk (some 3) (AK.mv (AX.c (PV.val (Value.int IntKind.i64 0)))) none 5 false true)]) AC.ret))))
theorem ac15_ok : cCode Tryz.prog (fun _ => false) Tryz.f15.ntmps (Tryz.f15.body.getD .skip) = some ac15 := by kernel_rfl
def ac24 : AC := (AC.seq (AC.ops [(AOp.mk (some 2) (AK.box 8 (AX.t 0)) none 0 false true), (AOp.mk (some 4) (AK.mv (AX.c (PV.val (Value.bool false)))) none 1 false true), (AOp.mk (some 5) (AK.mv (AX.c (PV.val (Value.int IntKind.i64 0)))) none 2 false true)]) (AC.seq (AC.ops [(AOp.mk (some 9) (AK.ld (some 8) (AX.t 2)) none 0 false true), (AOp.mk (some 10) (AK.mv (AX.t 1)) none 1 false true), (AOp.mk (some 11) (AK.call 26 [(AX.t 9), (AX.t 10)]) none 2 false true), (AOp.mk (some 8) (AK.mv (AX.t 11)) none 3 false true), (AOp.mk (some 12) (AK.ext (AX.t 8) 0) none 4 false true), (AOp.mk (some 13) (AK.ext (AX.t 8) 1) none 5 false true), (AOp.mk (some 6) (AK.mv (AX.t 12)) none 6 false true), (AOp.mk (some 7) (AK.mv (AX.t 13)) none 7 false true)]) (AC.seq (AC.ops [(AOp.mk (some 14) (AK.mv (AX.t 6)) none 0 false true), (AOp.mk (some 15) (AK.len (AX.t 14)) none 1 false true), (AOp.mk (some 16) (AK.bin false BinOp.gtr (AX.t 15) (AX.c (PV.val (Value.int IntKind.i64 0)))) none 2 false true), (AOp.mk (some 17) (AK.mv (AX.t 7)) none 3 false true), (AOp.mk (some 4) (AK.mv (AX.t 16)) none 4 false true), (AOp.mk (some 5) (AK.mv (AX.t 17)) none 5 false true)]) AC.ret)))
theorem ac24_ok : cCode Tryz.prog (fun _ => false) Tryz.f24.ntmps (Tryz.f24.body.getD .skip) = some ac24 := by kernel_rfl
def ac26 : AC := (AC.seq (AC.ops [(AOp.mk (some 2) (AK.box 8 (AX.t 0)) none 0 false true), (AOp.mk (some 4) (AK.mv (AX.c (PV.sl SK.full 0 []))) none 1 false true), (AOp.mk (some 5) (AK.mv (AX.c (PV.val (Value.int IntKind.i64 0)))) none 2 false true)]) (AC.seq (AC.ops [(AOp.mk (some 9) (AK.ld (some 8) (AX.t 2)) none 0 false true), (AOp.mk (some 10) (AK.call 50 [(AX.t 9), (AX.c (PV.val (Value.bool true)))]) none 1 false true), (AOp.mk (some 8) (AK.mv (AX.t 10)) none 2 false true), (AOp.mk (some 11) (AK.ext (AX.t 8) 0) none 3 false true), (AOp.mk (some 12) (AK.ext (AX.t 8) 1) none 4 false true), (AOp.mk (some 6) (AK.mv (AX.t 11)) none 5 false true), (AOp.mk (some 7) (AK.mv (AX.t 12)) none 6 false true)]) (AC.seq (AC.seq (AC.ops [(AOp.mk (some 13) (AK.mv (AX.t 7)) none 0 false true), (AOp.mk (some 14) (AK.bin false BinOp.neq (AX.t 13) (AX.c (PV.val (Value.int IntKind.i64 0)))) none 1 false true)]) (AC.cond (AX.t 14) (AC.seq (AC.ops [(AOp.mk (some 15) (AK.mv (AX.t 7)) none 0 false true), (AOp.mk (some 4) (AK.mv (AX.c (PV.sl SK.full 0 []))) none 1 false true), (AOp.mk (some 5) (AK.mv (AX.t 15)) none 2 false true)]) AC.ret) AC.skip)) (AC.seq (AC.ops [(AOp.mk (some 16) (AK.mv (AX.t 6)) none 0 false true), (AOp.mk (some 17) (AK.mv (AX.t 1)) none 1 false true), (AOp.mk (some 18) (AK.call 67 [(AX.t 16), (AX.t 17)]) none 2 false true), (AOp.mk (some 4) (AK.mv (AX.t 18)) none 3 false true), (AOp.mk (some 5) (AK.mv (AX.c (PV.val (Value.int IntKind.i64 0)))) none 4 false true)]) AC.ret))))
theorem ac26_ok : cCode Tryz.prog (fun _ => false) Tryz.f26.ntmps (Tryz.f26.body.getD .skip) = some ac26 := by kernel_rfl
def ac17 : AC := (AC.seq (AC.ops [(AOp.mk (some 1) (AK.box 8 (AX.t 0)) none 0 false true), (AOp.mk (some 2) (AK.mv (AX.c (PV.val (Value.int IntKind.i64 0)))) none 1 false true), (AOp.mk (some 3) (AK.mv (AX.c (PV.val (Value.int IntKind.i64 0)))) none 2 false true)]) (AC.seq (AC.ops [(AOp.mk (some 9) (AK.ld (some 8) (AX.t 1)) none 0 false true), (AOp.mk (some 10) (AK.call 50 [(AX.t 9), (AX.c (PV.val (Value.bool true)))]) none 1 false true), (AOp.mk (some 8) (AK.mv (AX.t 10)) none 2 false true), (AOp.mk (some 11) (AK.ext (AX.t 8) 0) none 3 false true), (AOp.mk (some 12) (AK.ext (AX.t 8) 1) none 4 false true), (AOp.mk (some 4) (AK.mv (AX.t 11)) none 5 false true), (AOp.mk (some 5) (AK.mv (AX.t 12)) none 6 false true)]) (AC.seq (AC.seq (AC.ops [(AOp.mk (some 13) (AK.mv (AX.t 5)) none 0 false true), (AOp.mk (some 14) (AK.bin false BinOp.neq (AX.t 13) (AX.c (PV.val (Value.int IntKind.i64 0)))) none 1 false true)]) (AC.cond (AX.t 14) (AC.seq (AC.ops [(AOp.mk (some 15) (AK.mv (AX.t 5)) none 0 false true), (AOp.mk (some 2) (AK.mv (AX.c (PV.val (Value.int IntKind.i64 0)))) none 1 false true), (AOp.mk (some 3) (AK.mv (AX.t 15)) none 2 false true)]) AC.ret) AC.skip)) (AC.seq (AC.ops [(AOp.mk (some 17) (AK.mv (AX.t 4)) none 0 false true), (AOp.mk (some 18) (AK.call 65 [(AX.t 17)]) none 1 false true), (AOp.mk (some 16) (AK.mv (AX.t 18)) none 2 false true), (AOp.mk (some 19) (AK.ext (AX.t 16) 0) none 3 false true), (AOp.mk (some 20) (AK.ext (AX.t 16) 1) none 4 false true), (AOp.mk (some 6) (AK.mv (AX.t 19)) none 5 false true), (AOp.mk (some 7) (AK.mv (AX.t 20)) none 6 false true)]) (AC.seq (AC.seq (AC.ops [(AOp.mk (some 21) (AK.mv (AX.t 7)) none 0 false true), (AOp.mk (some 22) (AK.un UnOp.not (AX.t 21)) none 1 false true)]) (AC.cond (AX.t 22) (AC.seq (AC.ops [(AOp.mk (some 2) (AK.mv (AX.c (PV.val (Value.int IntKind.i64 0)))) none 0 false true), (AOp.mk (some 3) (AK.mv (AX.c (PV.val (Value.int IntKind.i64 4)))) none 1 false true)]) AC.ret) AC.skip)) (AC.seq (AC.ops [(AOp.mk (some 23) (AK.mv (AX.t 6)) none 0 false true), (AOp.mk (some 2) (AK.mv (AX.t 23)) none 1 false true), (AOp.mk (some 3) (AK.mv (AX.c (PV.val (Value.int IntKind.i64 0)))) none 2 false true)]) AC.ret))))))
theorem ac17_ok : cCode Tryz.prog (fun _ => false) Tryz.f17.ntmps (Tryz.f17.body.getD .skip) = some ac17 := by kernel_rfl
def ac19 : AC := (AC.seq (AC.ops [(AOp.mk (some 2) (AK.box 8 (AX.t 0)) none 0 false true), (AOp.mk (some 4) (AK.mv (AX.c (PV.val (Value.int IntKind.i64 0)))) none 1 false true), (AOp.mk (some 5) (AK.mv (AX.c (PV.val (Value.int IntKind.i64 0)))) none 2 false true)]) (AC.seq (AC.ops [(AOp.mk (some 9) (AK.ld (some 8) (AX.t 2)) none 0 true false), (AOp.mk (some 10) (AK.ld (some 8) (AX.t 2)) none 1 true false), (AOp.mk (some 11) (AK.mv (AX.t 1)) none 2 true false), (AOp.mk (some 12) (AK.call 51 [(AX.t 10), (AX.t 11)]) none 3 false false), (AOp.mk (some 13) (AK.call 50 [(AX.t 9), (AX.t 12)]) none 4 false true), (AOp.mk (some 8) (AK.mv (AX.t 13)) none 5 true true), (AOp.mk (some 14) (AK.ext (AX.t 8) 0) none 6 true false), (AOp.mk (some 15) (AK.ext (AX.t 8) 1) none 7 true false), (AOp.mk (some 6) (AK.mv (AX.t 14)) none 8 true false), (AOp.mk (some 7) (AK.mv (AX.t 15)) none 9 true true)]) (AC.seq (AC.seq (AC.ops [(AOp.mk (some 16) (AK.mv (AX.t 7)) none 0 false true), (AOp.mk (some 17) (AK.bin false BinOp.neq (AX.t 16) (AX.c (PV.val (Value.int IntKind.i64 0)))) none 1 false true)]) (AC.cond (AX.t 17) (AC.seq (AC.ops [(AOp.mk (some 18) (AK.mv (AX.t 7)) none 0 false true), (AOp.mk (some 4) (AK.mv (AX.c (PV.val (Value.int IntKind.i64 0)))) none 1 false true), (AOp.mk (some 5) (AK.mv (AX.t 18)) none 2 false true)]) AC.ret) AC.skip)) (AC.seq (AC.ops [(AOp.mk (some 19) (AK.mv (AX.t 6)) none 0 false true), (AOp.mk (some 20) (AK.mv (AX.t 6)) none 1 false true), (AOp.mk (some 21) (AK.mv (AX.t 1)) none 2 false true), (AOp.mk (some 22) (AK.call 53 [(AX.t 20), (AX.t 21)]) none 3 false true), (AOp.mk (some 23) (AK.bslice false 74 6 1 [(PV.val (Value.int IntKind.i64 0)), (PV.val (Value.int IntKind.i64 0)), (PV.val (Value.int IntKind.i64 0)), (PV.val (Value.int IntKind.i64 0)), (PV.val (Value.int IntKind.i64 0)), (PV.val (Value.int IntKind.i64 0))] [(0, (6, (AX.t 22)))]) none 4 false true), (AOp.mk (some 24) (AK.call 52 [(AX.t 19), (AX.c (PV.val (Value.int IntKind.i64 2))), (AX.t 23)]) none 5 false true), (AOp.mk (some 25) (AK.fld 1 none (AX.t 24)) none 6 false true), (AOp.mk (some 4) (AK.mv (AX.t 25)) none 7 false true), (AOp.mk (some 5) (AK.mv (AX.c (PV.val (Value.int IntKind.i64 0)))) none 8 false true)]) AC.ret))))
theorem ac19_ok : cCode Tryz.prog (fun _ => false) Tryz.f19.ntmps (Tryz.f19.body.getD .skip) = some ac19 := by kernel_rfl
def ac29 : AC := (AC.seq (AC.ops [(AOp.mk (some 2) (AK.box 8 (AX.t 0)) none 0 false true), (AOp.mk (some 4) (AK.mv (AX.c (PV.sl SK.full 0 []))) none 1 false true), (AOp.mk (some 5) (AK.mv (AX.c (PV.val (Value.int IntKind.i64 0)))) none 2 false true)]) (AC.seq (AC.ops [(AOp.mk (some 7) (AK.ld (some 8) (AX.t 2)) none 0 true false), (AOp.mk (some 8) (AK.mv (AX.t 1)) none 1 true false), (AOp.mk (some 9) (AK.call 70 [(AX.t 8), (AX.c (PV.val (Value.int IntKind.i64 0))), (AX.c (PV.val (Value.int IntKind.i64 600)))]) none 2 false false), (AOp.mk (some 10) (AK.call 69 [(AX.t 7), (AX.t 9)]) none 3 false true), (AOp.mk (some 6) (AK.mv (AX.t 10)) none 4 true true)]) (AC.seq (AC.seq (AC.ops [(AOp.mk (some 11) (AK.mv (AX.t 6)) none 0 false true), (AOp.mk (some 12) (AK.bin false BinOp.neq (AX.t 11) (AX.c (PV.val (Value.int IntKind.i64 0)))) none 1 false true)]) (AC.cond (AX.t 12) (AC.seq (AC.ops [(AOp.mk (some 13) (AK.mv (AX.t 6)) none 0 false true), (AOp.mk (some 4) (AK.mv (AX.c (PV.sl SK.full 0 []))) none 1 false true), (AOp.mk (some 5) (AK.mv (AX.t 13)) none 2 false true)]) AC.ret) AC.skip)) (AC.seq (AC.ops [(AOp.mk (some 14) (AK.fadr 7 (AX.t 2)) none 0 false true), (AOp.mk (some 15) (AK.ld none (AX.t 14)) none 1 false true), (AOp.mk (some 16) (AK.mv (AX.t 1)) none 2 false true), (AOp.mk (some 17) (AK.call 71 [(AX.t 15), (AX.t 16)]) none 3 false true), (AOp.mk (some 4) (AK.mv (AX.t 17)) none 4 false true), (AOp.mk (some 5) (AK.mv (AX.c (PV.val (Value.int IntKind.i64 0)))) none 5 false true)]) AC.ret))))
theorem ac29_ok : cCode Tryz.prog (fun _ => false) Tryz.f29.ntmps (Tryz.f29.body.getD .skip) = some ac29 := by kernel_rfl
def errE (b : EBook) (known : Bool) : Int := if okE b then (if known then 0 else 81) else 80
def errF (b : EBook) (known : Bool) : Int := if okE b then (if known then (if whoL b.mb = [] then 82 else 0) else 81) else 80
theorem errF_ok {b : EBook} {known : Bool} (h : errF b known = 0) : okE b ∧ known = true ∧ whoL b.mb ≠ [] := by
  unfold errF at h
  split at h
  · rename_i ho
    split at h
    · rename_i hk
      split at h
      · omega
      · rename_i hw
        exact ⟨ho, hk, hw⟩
    · omega
  · omega
theorem errF_of {b : EBook} (ho : okE b) (hw : whoL b.mb ≠ []) : errF b true = 0 := by
  unfold errF
  rw [if_pos ho, if_pos rfl, if_neg hw]
theorem errE_ok {b : EBook} {known : Bool} (h : errE b known = 0) : okE b ∧ known = true := by
  unfold errE at h
  split at h
  · rename_i ho
    split at h
    · rename_i hk
      exact ⟨ho, hk⟩
    · omega
  · omega
theorem known_lt {b : EBook} : ∀ t ∈ known b, t.1 < b.mb.makers.length := fun _ ht => (mem_who.1 (known_who ht)).1
theorem askedBook_sem (κ : KS) (b : EBook) (known : Bool) : Sem1 69 [.agg (ebC κ b), pb known] (pi (errE b known)) := by
  unfold errE
  by_cases ho : okE b
  · rw [if_pos ho]
    refine semC_of_exec' mixed Tryz.func69 (by kernel_rfl) (by kernel_rfl) ac69_ok 2 rfl (by decide) [(.tmp 4)] (by kernel_rfl) ?_
    intro hr C hC hI
    unfold ac69
    simp only [go_sem, Nat.reduceBEq, Nat.reduceAdd]
    refine call_pure2 hC (Check_sem κ b) rfl (PVleL_refl _) ?_
    rintro r rfl
    simp only [go_sem, Nat.reduceBEq, if_pos ho, decide_false, not_true_eq_false]
    cases known
    · simp only [go_sem, Nat.reduceBEq, Bool.false_eq_true]
      exact retQ_one rfl rfl
    · simp only [go_sem, Nat.reduceBEq]
      exact retQ_one rfl rfl
  · rw [if_neg ho]
    refine semC_of_exec' mixed Tryz.func69 (by kernel_rfl) (by kernel_rfl) ac69_ok 2 rfl (by decide) [(.tmp 4)] (by kernel_rfl) ?_
    intro hr C hC hI
    unfold ac69
    simp only [go_sem, Nat.reduceBEq, Nat.reduceAdd]
    refine call_pure2 hC (Check_sem κ b) rfl (PVleL_refl _) ?_
    rintro r rfl
    simp only [go_sem, Nat.reduceBEq, if_neg ho, decide_true, not_false_eq_true, Int.reduceEq]
    exact retQ_one rfl rfl
theorem rightBook_sem (κ : KS) (b : EBook) (known : Bool) : Sem1 50 [.agg (ebC κ b), pb known] (.tup [if errF b known = 0 then bookK κ b else .nilp, pi (errF b known)]) := by
  by_cases he : errE b known = 0
  rotate_left
  · have hf : errF b known = errE b known := by
      unfold errE at he ⊢
      unfold errF
      split
      · rename_i ho
        rw [if_pos ho] at he
        split
        · rename_i hk
          rw [if_pos hk] at he
          exact absurd rfl he
        · rfl
      · rfl
    rw [hf, if_neg he]
    refine semC_of_exec' mixed Tryz.func50 (by kernel_rfl) (by kernel_rfl) ac50_ok 2 rfl (by decide) [(.tmp 4), (.tmp 5)] (by kernel_rfl) ?_
    intro hr C hC hI
    unfold ac50
    simp only [go_sem, Nat.reduceBEq, Nat.reduceAdd]
    refine call_pure2 hC (askedBook_sem κ b known) rfl (PVleL_refl _) ?_
    rintro r rfl
    simp only [go_sem, Nat.reduceBEq, eq_false he, decide_true, not_false_eq_true]
    exact retQ_two rfl rfl rfl
  obtain ⟨ho, rfl⟩ := errE_ok he
  by_cases hw : whoL b.mb = []
  · have hf : errF b true = 82 := by unfold errF; rw [if_pos ho, if_pos rfl, if_pos hw]
    rw [hf, if_neg (by decide)]
    refine semC_of_exec' mixed Tryz.func50 (by kernel_rfl) (by kernel_rfl) ac50_ok 2 rfl (by decide) [(.tmp 4), (.tmp 5)] (by kernel_rfl) ?_
    intro hr C hC hI
    unfold ac50
    simp only [go_sem, Nat.reduceBEq, Nat.reduceAdd]
    refine call_pure2 hC (askedBook_sem κ b true) rfl (PVleL_refl _) ?_
    rintro r rfl
    simp only [go_sem, Nat.reduceBEq, Nat.reduceAdd, Nat.reduceLeDiff, he, decide_false, not_true_eq_false]
    refine call_pure2 hC (Mk.Who_sem κ.a κ.b b.mb) rfl (PVleL_refl _) ?_
    rintro r hr2
    by_cases h0 : errR b.mb true = 0
    · rw [if_pos h0, hw] at hr2
      subst hr2
      simp only [go_sem, Nat.reduceBEq, decide_true, decide_false, not_true_eq_false, natL, List.map_nil, List.length_nil, Int.natCast_zero]
      exact retQ_two rfl rfl rfl
    · rw [if_neg h0] at hr2
      subst hr2
      simp only [go_sem, Nat.reduceBEq, eq_true h0, decide_true]
      exact retQ_two rfl rfl rfl
  · have hf := errF_of ho hw
    have h0 : errR b.mb true = 0 := by
      unfold errR
      rw [if_pos ho.1, if_pos rfl, if_pos (who_right hw)]
    have hln : ¬ ((natL (whoL b.mb)).length : Int) = 0 := by
      rw [natL_len]
      have := List.length_pos_iff.2 hw
      omega
    rw [hf, if_pos rfl]
    refine semC_of_exec' mixed Tryz.func50 (by kernel_rfl) (by kernel_rfl) ac50_ok 2 rfl (by decide) [(.tmp 4), (.tmp 5)] (by kernel_rfl) ?_
    intro hr C hC hI
    unfold ac50
    simp only [go_sem, Nat.reduceBEq, Nat.reduceAdd]
    refine call_pure2 hC (askedBook_sem κ b true) rfl (PVleL_refl _) ?_
    rintro r rfl
    simp only [go_sem, Nat.reduceBEq, Nat.reduceAdd, Nat.reduceLeDiff, he, decide_false, not_true_eq_false]
    refine call_pure2 hC (Mk.Who_sem κ.a κ.b b.mb) rfl (PVleL_refl _) ?_
    rintro r hr2
    rw [if_pos h0] at hr2
    subst hr2
    simp only [go_sem, Nat.reduceBEq, Nat.reduceAdd, List.length_map, eq_false hln, decide_false, not_true_eq_false]
    refine call_pure2 hC (bookOf_sem κ ho .sh hw) rfl (PVleL_refl _) ?_
    rintro _ rfl
    simp only [go_sem, Nat.reduceBEq]
    exact retQ_two rfl rfl rfl
theorem rightE {C : Con} (hC : ∀ f args rd K s, SemP Tryz.prog Fence.wide f args rd K s → C.call f args rd K s) (κ : KS) (b : EBook) (known : Bool) {rd : List Nat} {K : AV → AS → Prop} {s : AS}
    (h1 : errF b known ≠ 0 → K (.p (.tup [.nilp, pi (errF b known)])) s) (h2 : errF b known = 0 → K (.p (.tup [bookK κ b, pi 0])) s) : C.call 50 [.p (.agg (ebC κ b)), .p (pb known)] rd K s := by
  refine call_pure2 hC (rightBook_sem κ b known) rfl (PVleL_refl _) ?_
  rintro r rfl
  by_cases h : errF b known = 0
  · rw [if_pos h, h]
    exact h2 h
  · rw [if_neg h]
    exact h1 h
def jobN (b : EBook) (n : Nat) : Job := b.jobs.getD n ⟨0, 0, 0, 0, 0, 0⟩
theorem jobN_get {b : EBook} {n : Nat} (h : n < b.jobs.length) : b.jobs[n] = jobN b n := by
  unfold jobN
  rw [List.getD_eq_getElem?_getD, List.getElem?_eq_getElem h]
  rfl
theorem jobN_mem {b : EBook} {n : Nat} (h : n < b.jobs.length) : jobN b n ∈ b.jobs := jobN_get h ▸ List.getElem_mem h
theorem okN_nat {b : EBook} {n : Int} (h : okN b n = true) : ∃ m : Nat, n = m ∧ m < b.jobs.length := by
  have := of_decide_eq_true h
  exact ⟨n.toNat, by omega, by omega⟩
theorem one_ok {b : EBook} (ho : okE b) {m : Nat} (hm : m < b.jobs.length) : ∀ j ∈ [jobN b m], okJob b j := fun j hj => by
  rw [List.mem_singleton.1 hj]
  exact ho.2.2.2.1 _ (jobN_mem hm)
theorem Job_sem (κ : KS) (b : EBook) (n : Int) : Sem1 11 [.agg (ebC κ b), pi n] (if errF b (okN b n) = 0 then .tup [spanP b 0 [jobN b n.toNat], pi 0] else .tup [.agg [pi 0, pi 0], pi (errF b (okN b n))]) := by
  refine semC_of_exec' mixed Tryz.func11 (by kernel_rfl) (by kernel_rfl) ac11_ok 2 rfl (by decide) [(.cell 4 31), (.tmp 5)] (by kernel_rfl) ?_
  intro hr C hC hI
  unfold ac11
  simp only [go_sem, Nat.reduceBEq, Nat.reduceAdd]
  have hlen := real_aggL (i := 0) (j := 4) hr rfl rfl
  rw [List.length_map] at hlen
  refine call_pure2 hC (hasJob_sem κ b n hlen) rfl (PVleL_refl _) ?_
  rintro r rfl
  simp only [go_sem, Nat.reduceBEq]
  refine rightE hC κ b (okN b n) (fun hne => ?_) (fun h0 => ?_)
  · rw [if_neg hne]
    simp only [go_sem, Nat.reduceBEq, Nat.reduceAdd, eq_true hne, putCells, decide_true, not_false_eq_true]
    exact retQ_ct (n := some 2) (by kernel_rfl) rfl rfl rfl
  · obtain ⟨ho, hk, hw⟩ := errF_ok h0
    obtain ⟨m, rfl, hm⟩ := okN_nat hk
    rw [if_pos h0, Int.toNat_natCast]
    simp only [go_sem, Nat.reduceBEq, decide_false, not_true_eq_false]
    refine call_pure2 hC (job_sem κ hm) rfl (PVleL_refl _) ?_
    rintro _ rfl
    simp only [go_sem, Nat.reduceBEq, Nat.reduceAdd, jobN_get hm]
    refine call_pure2 hC (span_sem κ ho (known_ne hw) known_lt 0 (by decide) .full [jobN b m] (one_ok ho hm) (by simp)) rfl (PVleL_refl _) ?_
    rintro _ rfl
    simp only [go_sem, Nat.reduceBEq, Nat.reduceAdd, putCells]
    exact retQ_ct (n := some 2) (by kernel_rfl) rfl rfl rfl
theorem Raise_sem (κ : KS) (b : EBook) (n : Int) : Sem1 19 [.agg (ebC κ b), pi n] (if errF b (okN b n) = 0 then .tup [pi (lossI b (jobN b n.toNat)), pi 0] else .tup [pi 0, pi (errF b (okN b n))]) := by
  refine semC_of_exec' mixed Tryz.func19 (by kernel_rfl) (by kernel_rfl) ac19_ok 2 rfl (by decide) [(.tmp 4), (.tmp 5)] (by kernel_rfl) ?_
  intro hr C hC hI
  unfold ac19
  simp only [go_sem, Nat.reduceBEq, Nat.reduceAdd]
  have hlen := real_aggL (i := 0) (j := 4) hr rfl rfl
  rw [List.length_map] at hlen
  refine call_pure2 hC (hasJob_sem κ b n hlen) rfl (PVleL_refl _) ?_
  rintro r rfl
  simp only [go_sem, Nat.reduceBEq]
  refine rightE hC κ b (okN b n) (fun hne => ?_) (fun h0 => ?_)
  · rw [if_neg hne]
    simp only [go_sem, Nat.reduceBEq, eq_true hne, decide_true]
    exact retQ_two rfl rfl rfl
  · obtain ⟨ho, hk, hw⟩ := errF_ok h0
    obtain ⟨m, rfl, hm⟩ := okN_nat hk
    rw [if_pos h0, Int.toNat_natCast]
    simp only [go_sem, Nat.reduceBEq, decide_false, not_true_eq_false]
    refine call_pure2 hC (job_sem κ hm) rfl (PVleL_refl _) ?_
    rintro _ rfl
    simp only [go_sem, Nat.reduceBEq, Nat.reduceAdd, jobN_get hm]
    refine call_pure2 hC (span_sem κ ho (known_ne hw) known_lt 2 (by decide) .full [jobN b m] (one_ok ho hm) (by simp)) rfl (PVleL_refl _) ?_
    rintro _ rfl
    simp only [go_sem, Nat.reduceBEq]
    exact retQ_two rfl rfl rfl
theorem Bill_sem (κ : KS) (b : EBook) : Sem1 22 [.agg (ebC κ b)] (if errF b true = 0 then .tup [spanP b 1 b.jobs, pi 0] else .tup [.agg [pi 0, pi 0], pi (errF b true)]) := by
  refine semC_of_exec' mixed Tryz.func22 (by kernel_rfl) (by kernel_rfl) ac22_ok 1 rfl (by decide) [(.cell 2 31), (.tmp 3)] (by kernel_rfl) ?_
  intro hr C hC hI
  unfold ac22
  simp only [go_sem, Nat.reduceBEq, Nat.reduceAdd]
  refine rightE hC κ b true (fun hne => ?_) (fun h0 => ?_)
  · rw [if_neg hne]
    simp only [go_sem, Nat.reduceBEq, Nat.reduceAdd, eq_true hne, putCells, decide_true, not_false_eq_true]
    exact retQ_ct (n := some 2) (by kernel_rfl) rfl rfl rfl
  · obtain ⟨ho, hk, hw⟩ := errF_ok h0
    have hl := ho.2.1.2
    rw [if_pos h0]
    simp only [go_sem, Nat.reduceBEq, decide_false, not_true_eq_false]
    refine call_pure2 hC (jobs_sem κ hl) rfl (PVleL_refl _) ?_
    rintro _ rfl
    simp only [go_sem, Nat.reduceBEq]
    refine call_pure2 hC (span_sem κ ho (known_ne hw) known_lt 1 (by decide) .full b.jobs ho.2.2.2.1 hl) rfl (PVleL_refl _) ?_
    rintro _ rfl
    simp only [go_sem, Nat.reduceBEq, Nat.reduceAdd, putCells]
    exact retQ_ct (n := some 2) (by kernel_rfl) rfl rfl rfl
theorem Loss_sem (κ : KS) (b : EBook) : Sem1 15 [.agg (ebC κ b)] (if errF b true = 0 then .tup [spanP b 2 b.jobs, pi 0] else .tup [.agg [pi 0, pi 0], pi (errF b true)]) := by
  refine semC_of_exec' mixed Tryz.func15 (by kernel_rfl) (by kernel_rfl) ac15_ok 1 rfl (by decide) [(.cell 2 31), (.tmp 3)] (by kernel_rfl) ?_
  intro hr C hC hI
  unfold ac15
  simp only [go_sem, Nat.reduceBEq, Nat.reduceAdd]
  refine rightE hC κ b true (fun hne => ?_) (fun h0 => ?_)
  · rw [if_neg hne]
    simp only [go_sem, Nat.reduceBEq, Nat.reduceAdd, eq_true hne, putCells, decide_true, not_false_eq_true]
    exact retQ_ct (n := some 2) (by kernel_rfl) rfl rfl rfl
  · obtain ⟨ho, hk, hw⟩ := errF_ok h0
    have hl := ho.2.1.2
    rw [if_pos h0]
    simp only [go_sem, Nat.reduceBEq, decide_false, not_true_eq_false]
    refine call_pure2 hC (jobs_sem κ hl) rfl (PVleL_refl _) ?_
    rintro _ rfl
    simp only [go_sem, Nat.reduceBEq]
    refine call_pure2 hC (span_sem κ ho (known_ne hw) known_lt 2 (by decide) .full b.jobs ho.2.2.2.1 hl) rfl (PVleL_refl _) ?_
    rintro _ rfl
    simp only [go_sem, Nat.reduceBEq, Nat.reduceAdd, putCells]
    exact retQ_ct (n := some 2) (by kernel_rfl) rfl rfl rfl
theorem Whose_sem (κ : KS) (b : EBook) (pence : Int) : Sem1 26 [.agg (ebC κ b), pi pence] (if errF b true = 0 then .tup [pis (natL (whoseL b pence)), pi 0] else .tup [pis [], pi (errF b true)]) := by
  refine semC_of_exec' mixed Tryz.func26 (by kernel_rfl) (by kernel_rfl) ac26_ok 2 rfl (by decide) [(.tmp 4), (.tmp 5)] (by kernel_rfl) ?_
  intro hr C hC hI
  unfold ac26
  simp only [go_sem, Nat.reduceBEq, Nat.reduceAdd]
  refine rightE hC κ b true (fun hne => ?_) (fun h0 => ?_)
  · rw [if_neg hne]
    simp only [go_sem, Nat.reduceBEq, eq_true hne, decide_true]
    exact retQ_two_le rfl rfl (PVle.nil _ _ _) (PVle.refl _) rfl
  · obtain ⟨ho, hk, hw⟩ := errF_ok h0
    rw [if_pos h0]
    simp only [go_sem, Nat.reduceBEq, decide_false, not_true_eq_false]
    refine call_pure2 hC (whose_sem κ ho known_lt pence) rfl (PVleL_refl _) ?_
    rintro _ rfl
    simp only [go_sem, Nat.reduceBEq]
    exact retQ_two_le rfl rfl (PVle.sh _ _ _) (PVle.refl _) rfl
theorem Can_sem (κ : KS) (b : EBook) (pence : Int) : Sem1 24 [.agg (ebC κ b), pi pence] (if errF b true = 0 then .tup [pb (decide (whoseL b pence ≠ [])), pi 0] else .tup [pb false, pi (errF b true)]) := by
  refine semC_of_exec' mixed Tryz.func24 (by kernel_rfl) (by kernel_rfl) ac24_ok 2 rfl (by decide) [(.tmp 4), (.tmp 5)] (by kernel_rfl) ?_
  intro hr C hC hI
  unfold ac24
  simp only [go_sem, Nat.reduceBEq, Nat.reduceAdd]
  refine call_pure2 hC (Whose_sem κ b pence) rfl (PVleL_refl _) ?_
  rintro r hr2
  by_cases h0 : errF b true = 0
  · rw [if_pos h0] at hr2 ⊢
    subst hr2
    have hd : decide ((0 : Int) < ((natL (whoseL b pence)).length : Int)) = decide (whoseL b pence ≠ []) := decide_eq_decide.2 (by
      rw [natL_len]
      exact ⟨fun h => List.length_pos_iff.1 (by omega), fun h => by have := List.length_pos_iff.2 h; omega⟩)
    simp only [go_sem, Nat.reduceBEq, List.length_map, hd]
    exact retQ_two rfl rfl rfl
  · rw [if_neg h0] at hr2 ⊢
    subst hr2
    simp only [go_sem, Nat.reduceBEq, List.length_nil, List.map_nil, Int.natCast_zero]
    exact retQ_two rfl rfl rfl
def dearE (b : EBook) : PV := if 0 < (dearF (lossN b) b.jobs.length).2 then .tup [pi (dearF (lossN b) b.jobs.length).1, pi 0] else .tup [pi 0, pi 4]
theorem Dear_sem (κ : KS) (b : EBook) : Sem1 17 [.agg (ebC κ b)] (if errF b true = 0 then dearE b else .tup [pi 0, pi (errF b true)]) := by
  refine semC_of_exec' mixed Tryz.func17 (by kernel_rfl) (by kernel_rfl) ac17_ok 1 rfl (by decide) [(.tmp 2), (.tmp 3)] (by kernel_rfl) ?_
  intro hr C hC hI
  unfold ac17
  simp only [go_sem, Nat.reduceBEq, Nat.reduceAdd]
  refine rightE hC κ b true (fun hne => ?_) (fun h0 => ?_)
  · rw [if_neg hne]
    simp only [go_sem, Nat.reduceBEq, eq_true hne, decide_true]
    exact retQ_two rfl rfl rfl
  · obtain ⟨ho, hk, hw⟩ := errF_ok h0
    rw [if_pos h0]
    unfold dearE
    simp only [go_sem, Nat.reduceBEq, decide_false, not_true_eq_false]
    refine call_pure2 hC (dear_sem κ ho (known_ne hw) known_lt) rfl (PVleL_refl _) ?_
    rintro _ rfl
    by_cases hp : 0 < (dearF (lossN b) b.jobs.length).2
    · rw [if_pos hp, decide_eq_true hp]
      simp only [go_sem, Nat.reduceBEq]
      exact retQ_two rfl rfl rfl
    · rw [if_neg hp, decide_eq_false hp]
      simp only [go_sem, Nat.reduceBEq]
      exact retQ_two rfl rfl rfl
def okP (n : Int) : Bool := decide (0 ≤ n ∧ n ≤ 600)
theorem Pay_sem (κ : KS) (b : EBook) (n : Int) : Sem1 29 [.agg (ebC κ b), pi n] (if errE b (okP n) = 0 then .tup [pis ((purP b.coins n.toNat).take b.coins.length), pi 0] else .tup [pis [], pi (errE b (okP n))]) := by
  refine semC_of_exec' mixed Tryz.func29 (by kernel_rfl) (by kernel_rfl) ac29_ok 2 rfl (by decide) [(.tmp 4), (.tmp 5)] (by kernel_rfl) ?_
  intro hr C hC hI
  unfold ac29
  simp only [go_sem, Nat.reduceBEq, Nat.reduceAdd]
  refine call_pure2 hC (within_sem n 0 600) rfl (PVleL_refl _) ?_
  rintro r rfl
  simp only [go_sem, Nat.reduceBEq]
  refine call_pure2 hC (askedBook_sem κ b (okP n)) rfl (PVleL_refl _) ?_
  rintro _ rfl
  by_cases h0 : errE b (okP n) = 0
  · obtain ⟨ho, hk⟩ := errE_ok h0
    have hn := of_decide_eq_true hk
    obtain ⟨m, rfl⟩ : ∃ m : Nat, n = m := ⟨n.toNat, by omega⟩
    rw [if_pos h0, h0, Int.toNat_natCast]
    simp only [go_sem, Nat.reduceBEq, decide_false, not_true_eq_false]
    refine call_pure2 hC (pay_sem κ.e (coins_ok ho.2.2.2.2.2.2) (pence := m) (by omega)) rfl (PVleL_refl _) ?_
    rintro _ rfl
    simp only [go_sem, Nat.reduceBEq]
    exact retQ_two_le rfl rfl (PVle.sh _ _ _) (PVle.refl _) rfl
  · rw [if_neg h0]
    simp only [go_sem, Nat.reduceBEq, eq_false h0, decide_true, not_false_eq_true]
    exact retQ_two_le rfl rfl (PVle.nil _ _ _) (PVle.refl _) rfl
end Go.Proofs.YtlcpplkbmlmmbaaGreat.Mk.Me
namespace Go.Proofs.YtlcpplkbmlmmbaaGreat.Mk
open Go.RowKit Ls
def exL (l : List Int) (j : Nat) : List (Int × Int) := (List.range j).map fun (k : Nat) => ((k : Int), 2 ^ exV l k)
def pickI (b : MBook) (o u k : Nat) : Int := (listI (pickN b o u k : Nat) 5).getD 0 0
def pickL (b : MBook) (o u j : Nat) : List Int := (List.range j).map (pickI b o u)
def anyL (bits : List Int) (j : Nat) : List Int := (List.range j).map fun (k : Nat) => rndI (takeL bits k) 5
end Go.Proofs.YtlcpplkbmlmmbaaGreat.Mk
