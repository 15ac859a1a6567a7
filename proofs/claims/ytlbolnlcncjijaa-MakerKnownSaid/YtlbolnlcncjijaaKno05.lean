/- Contracts of maker: what the package returns. Allocation and store within a tree. -/
import Derived.Test.YtlbolnlcncjijaaKno04
import Derived.Test.YtlbolnlcncjijaaKno01
namespace Go.Proofs.Ytlbolnlcncjijaa.Mk
open Go.RowKit Ls
def ac39 : AC := (AC.seq (AC.ops [(AOp.mk (some 2) (AK.box 4 (AX.t 0)) none 0 false true), (AOp.mk (some 4) (AK.mv (AX.c PV.nilp)) none 1 false true), (AOp.mk (some 5) (AK.mv (AX.c (PV.val (Value.int IntKind.i64 0)))) none 2 false true)]) (AC.seq (AC.seq (AC.ops [(AOp.mk (some 7) (AK.ld (some 4) (AX.t 2)) none 0 false true), (AOp.mk (some 8) (AK.call 12 [(AX.t 7)]) none 1 false true), (AOp.mk (some 6) (AK.mv (AX.t 8)) none 2 false true)]) (AC.seq (AC.ops [(AOp.mk (some 9) (AK.mv (AX.t 6)) none 0 false true), (AOp.mk (some 10) (AK.bin false BinOp.neq (AX.t 9) (AX.c (PV.val (Value.int IntKind.i64 0)))) none 1 false true)]) (AC.cond (AX.t 10) (AC.seq (AC.ops [(AOp.mk (some 11) (AK.mv (AX.t 6)) none 0 false true), (AOp.mk (some 4) (AK.mv (AX.c PV.nilp)) none 1 false true), (AOp.mk (some 5) (AK.mv (AX.t 11)) none 2 false true)]) AC.ret) AC.skip))) (AC.seq (AC.seq (AC.ops [(AOp.mk (some 12) (AK.mv (AX.t 1)) none 0 false true), (AOp.mk (some 13) (AK.un UnOp.not (AX.t 12)) none 1 false true)]) (AC.cond (AX.t 13) (AC.seq (AC.ops [(AOp.mk (some 4) (AK.mv (AX.c PV.nilp)) none 0 false true), (AOp.mk (some 5) (AK.mv (AX.c (PV.val (Value.int IntKind.i64 51)))) none 1 false true)]) AC.ret) AC.skip)) (AC.seq (AC.ops [(AOp.mk (some 14) (AK.ld (some 4) (AX.t 2)) none 0 false true), (AOp.mk (some 15) (AK.call 68 [(AX.t 14)]) none 1 false true), (AOp.mk (some 4) (AK.mv (AX.t 15)) none 2 false true), (AOp.mk (some 5) (AK.mv (AX.c (PV.val (Value.int IntKind.i64 0)))) none 3 false true)]) AC.ret))))
theorem ac39_ok : cCode Try.prog (fun _ => false) Try.f39.ntmps (Try.f39.body.getD .skip) = some ac39 := by kernel_rfl
def ac34 : AC := (AC.seq (AC.ops [(AOp.mk (some 2) (AK.box 4 (AX.t 0)) none 0 false true), (AOp.mk (some 4) (AK.mv (AX.c PV.nilp)) none 1 false true), (AOp.mk (some 5) (AK.mv (AX.c (PV.val (Value.int IntKind.i64 0)))) none 2 false true)]) (AC.seq (AC.ops [(AOp.mk (some 9) (AK.ld (some 4) (AX.t 2)) none 0 false true), (AOp.mk (some 10) (AK.mv (AX.t 1)) none 1 false true), (AOp.mk (some 11) (AK.call 39 [(AX.t 9), (AX.t 10)]) none 2 false true), (AOp.mk (some 8) (AK.mv (AX.t 11)) none 3 false true), (AOp.mk (some 12) (AK.ext (AX.t 8) 0) none 4 false true), (AOp.mk (some 13) (AK.ext (AX.t 8) 1) none 5 false true), (AOp.mk (some 6) (AK.mv (AX.t 12)) none 6 false true), (AOp.mk (some 7) (AK.mv (AX.t 13)) none 7 false true)]) (AC.seq (AC.seq (AC.ops [(AOp.mk (some 14) (AK.mv (AX.t 7)) none 0 false true), (AOp.mk (some 15) (AK.bin false BinOp.neq (AX.t 14) (AX.c (PV.val (Value.int IntKind.i64 0)))) none 1 false true)]) (AC.cond (AX.t 15) (AC.seq (AC.ops [(AOp.mk (some 16) (AK.mv (AX.t 7)) none 0 false true), (AOp.mk (some 4) (AK.mv (AX.c PV.nilp)) none 1 false true), (AOp.mk (some 5) (AK.mv (AX.t 16)) none 2 false true)]) AC.ret) AC.skip)) (AC.seq (AC.seq (AC.ops [(AOp.mk (some 17) (AK.mv (AX.t 6)) none 0 false true), (AOp.mk (some 18) (AK.nilc (AX.t 17)) none 1 false true), (AOp.mk (some 19) (AK.fadr 4 (AX.t 18)) none 2 false true), (AOp.mk (some 20) (AK.ld (some 6) (AX.t 19)) none 3 false true), (AOp.mk (some 21) (AK.call 40 [(AX.t 20)]) none 4 false true)]) (AC.cond (AX.t 21) (AC.seq (AC.ops [(AOp.mk (some 4) (AK.mv (AX.c PV.nilp)) none 0 false true), (AOp.mk (some 5) (AK.mv (AX.c (PV.val (Value.int IntKind.i64 52)))) none 1 false true)]) AC.ret) AC.skip)) (AC.seq (AC.ops [(AOp.mk (some 22) (AK.mv (AX.t 6)) none 0 false true), (AOp.mk (some 4) (AK.mv (AX.t 22)) none 1 false true), (AOp.mk (some 5) (AK.mv (AX.c (PV.val (Value.int IntKind.i64 0)))) none 2 false true)]) AC.ret)))))
theorem ac34_ok : cCode Try.prog (fun _ => false) Try.f34.ntmps (Try.f34.body.getD .skip) = some ac34 := by kernel_rfl
def ac16 : AC := (AC.seq (AC.ops [(AOp.mk (some 1) (AK.box 4 (AX.t 0)) none 0 false true), (AOp.mk (some 2) (AK.mv (AX.c (PV.val (Value.bool false)))) none 1 false true), (AOp.mk (some 3) (AK.mv (AX.c (PV.val (Value.int IntKind.i64 0)))) none 2 false true)]) (AC.seq (AC.ops [(AOp.mk (some 7) (AK.ld (some 4) (AX.t 1)) none 0 false true), (AOp.mk (some 8) (AK.call 39 [(AX.t 7), (AX.c (PV.val (Value.bool true)))]) none 1 false true), (AOp.mk (some 6) (AK.mv (AX.t 8)) none 2 false true), (AOp.mk (some 9) (AK.ext (AX.t 6) 0) none 3 false true), (AOp.mk (some 10) (AK.ext (AX.t 6) 1) none 4 false true), (AOp.mk (some 4) (AK.mv (AX.t 9)) none 5 false true), (AOp.mk (some 5) (AK.mv (AX.t 10)) none 6 false true)]) (AC.seq (AC.seq (AC.ops [(AOp.mk (some 11) (AK.mv (AX.t 5)) none 0 false true), (AOp.mk (some 12) (AK.bin false BinOp.neq (AX.t 11) (AX.c (PV.val (Value.int IntKind.i64 0)))) none 1 false true)]) (AC.cond (AX.t 12) (AC.seq (AC.ops [(AOp.mk (some 13) (AK.mv (AX.t 5)) none 0 false true), (AOp.mk (some 2) (AK.mv (AX.c (PV.val (Value.bool false)))) none 1 false true), (AOp.mk (some 3) (AK.mv (AX.t 13)) none 2 false true)]) AC.ret) AC.skip)) (AC.seq (AC.ops [(AOp.mk (some 14) (AK.mv (AX.t 4)) none 0 false true), (AOp.mk (some 15) (AK.nilc (AX.t 14)) none 1 false true), (AOp.mk (some 16) (AK.fadr 4 (AX.t 15)) none 2 false true), (AOp.mk (some 17) (AK.ld (some 6) (AX.t 16)) none 3 false true), (AOp.mk (some 18) (AK.call 40 [(AX.t 17)]) none 4 false true), (AOp.mk (some 19) (AK.un UnOp.not (AX.t 18)) none 5 false true), (AOp.mk (some 2) (AK.mv (AX.t 19)) none 6 false true), (AOp.mk (some 3) (AK.mv (AX.c (PV.val (Value.int IntKind.i64 0)))) none 7 false true)]) AC.ret))))
theorem ac16_ok : cCode Try.prog (fun _ => false) Try.f16.ntmps (Try.f16.body.getD .skip) = some ac16 := by kernel_rfl
def ac10 : AC := (AC.seq (AC.ops [(AOp.mk (some 1) (AK.box 4 (AX.t 0)) none 0 false true), (AOp.mk (some 2) (AK.mv (AX.c (PV.sl SK.full 0 []))) none 1 false true), (AOp.mk (some 3) (AK.mv (AX.c (PV.val (Value.int IntKind.i64 0)))) none 2 false true)]) (AC.seq (AC.ops [(AOp.mk (some 7) (AK.ld (some 4) (AX.t 1)) none 0 false true), (AOp.mk (some 8) (AK.call 34 [(AX.t 7), (AX.c (PV.val (Value.bool true)))]) none 1 false true), (AOp.mk (some 6) (AK.mv (AX.t 8)) none 2 false true), (AOp.mk (some 9) (AK.ext (AX.t 6) 0) none 3 false true), (AOp.mk (some 10) (AK.ext (AX.t 6) 1) none 4 false true), (AOp.mk (some 4) (AK.mv (AX.t 9)) none 5 false true), (AOp.mk (some 5) (AK.mv (AX.t 10)) none 6 false true)]) (AC.seq (AC.seq (AC.ops [(AOp.mk (some 11) (AK.mv (AX.t 5)) none 0 false true), (AOp.mk (some 12) (AK.bin false BinOp.neq (AX.t 11) (AX.c (PV.val (Value.int IntKind.i64 0)))) none 1 false true)]) (AC.cond (AX.t 12) (AC.seq (AC.ops [(AOp.mk (some 13) (AK.mv (AX.t 5)) none 0 false true), (AOp.mk (some 2) (AK.mv (AX.c (PV.sl SK.full 0 []))) none 1 false true), (AOp.mk (some 3) (AK.mv (AX.t 13)) none 2 false true)]) AC.ret) AC.skip)) (AC.seq (AC.ops [(AOp.mk (some 14) (AK.mv (AX.t 4)) none 0 false true), (AOp.mk (some 15) (AK.call 35 [(AX.t 14)]) none 1 false true), (AOp.mk (some 2) (AK.mv (AX.t 15)) none 2 false true), (AOp.mk (some 3) (AK.mv (AX.c (PV.val (Value.int IntKind.i64 0)))) none 3 false true)]) AC.ret))))
theorem ac10_ok : cCode Try.prog (fun _ => false) Try.f10.ntmps (Try.f10.body.getD .skip) = some ac10 := by kernel_rfl
def ac17 : AC := (AC.seq (AC.ops [(AOp.mk (some 2) (AK.box 4 (AX.t 0)) none 0 false true), (AOp.mk (some 4) (AK.mv (AX.c (PV.val (Value.int IntKind.i64 0)))) none 1 false true), (AOp.mk (some 5) (AK.mv (AX.c (PV.val (Value.int IntKind.i64 0)))) none 2 false true)]) (AC.seq (AC.ops [(AOp.mk (some 11) (AK.ld (some 4) (AX.t 2)) none 0 true false), (AOp.mk (some 12) (AK.ld (some 4) (AX.t 2)) none 1 true false), (AOp.mk (some 13) (AK.mv (AX.t 1)) none 2 true false), (AOp.mk (some 14) (AK.call 41 [(AX.t 12), (AX.t 13)]) none 3 false false), (AOp.mk (some 15) (AK.call 34 [(AX.t 11), (AX.t 14)]) none 4 false true), (AOp.mk (some 10) (AK.mv (AX.t 15)) none 5 true true), (AOp.mk (some 16) (AK.ext (AX.t 10) 0) none 6 true false), (AOp.mk (some 17) (AK.ext (AX.t 10) 1) none 7 true false), (AOp.mk (some 6) (AK.mv (AX.t 16)) none 8 true false), (AOp.mk (some 7) (AK.mv (AX.t 17)) none 9 true true)]) (AC.seq (AC.seq (AC.ops [(AOp.mk (some 18) (AK.mv (AX.t 7)) none 0 false true), (AOp.mk (some 19) (AK.bin false BinOp.neq (AX.t 18) (AX.c (PV.val (Value.int IntKind.i64 0)))) none 1 false true)]) (AC.cond (AX.t 19) (AC.seq (AC.ops [(AOp.mk (some 20) (AK.mv (AX.t 7)) none 0 false true), (AOp.mk (some 4) (AK.mv (AX.c (PV.val (Value.int IntKind.i64 0)))) none 1 false true), (AOp.mk (some 5) (AK.mv (AX.t 20)) none 2 false true)]) AC.ret) AC.skip)) (AC.seq (AC.ops [(AOp.mk (some 22) (AK.mv (AX.t 6)) none 0 false true), (AOp.mk (some 23) (AK.mv (AX.t 1)) none 1 false true), (AOp.mk (some 24) (AK.call 42 [(AX.t 22), (AX.t 23)]) none 2 false true), (AOp.mk (some 21) (AK.mv (AX.t 24)) none 3 false true), (AOp.mk (some 25) (AK.ext (AX.t 21) 0) none 4 false true), (AOp.mk (some 26) (AK.ext (AX.t 21) 1) none 5 false true), (AOp.mk (some 8) (AK.mv (AX.t 25)) none 6 false true), (AOp.mk (some 9) (AK.mv (AX.t 26)) none 7 false true)]) (AC.seq (AC.seq (AC.ops [(AOp.mk (some 27) (AK.mv (AX.t 9)) none 0 false true), (AOp.mk (some 28) (AK.un UnOp.not (AX.t 27)) none 1 false true)]) (AC.cond (AX.t 28) (AC.seq (AC.ops [(AOp.mk (some 4) (AK.mv (AX.c (PV.val (Value.int IntKind.i64 0)))) none 0 false true), (AOp.mk (some 5) (AK.mv (AX.c (PV.val (Value.int IntKind.i64 4)))) none 1 false true)]) AC.ret) AC.skip)) (AC.seq (AC.ops [(AOp.mk (some 29) (AK.mv (AX.t 8)) none 0 false true), (AOp.mk (some 4) (AK.mv (AX.t 29)) none 1 false true), (AOp.mk (some 5) (AK.mv (AX.c (PV.val (Value.int IntKind.i64 0)))) none 2 false true)]) AC.ret))))))
theorem ac17_ok : cCode Try.prog (fun _ => false) Try.f17.ntmps (Try.f17.body.getD .skip) = some ac17 := by kernel_rfl
def ac18 : AC := (AC.seq (AC.ops [(AOp.mk (some 3) (AK.box 4 (AX.t 0)) none 0 false true), (AOp.mk (some 6) (AK.mv (AX.c (PV.val (Value.int IntKind.i64 0)))) none 1 false true), (AOp.mk (some 7) (AK.mv (AX.c (PV.val (Value.int IntKind.i64 0)))) none 2 false true)]) (AC.seq (AC.ops [(AOp.mk (some 11) (AK.ld (some 4) (AX.t 3)) none 0 true false), (AOp.mk (some 12) (AK.ld (some 4) (AX.t 3)) none 1 true false), (AOp.mk (some 13) (AK.mv (AX.t 1)) none 2 true false), (AOp.mk (some 14) (AK.call 41 [(AX.t 12), (AX.t 13)]) none 3 false false), (AOp.mk (some 15) (AK.mv (AX.t 14)) none 4 true false), (AOp.mk (some 16) (AK.ld (some 4) (AX.t 3)) (some (15, true)) 5 true false), (AOp.mk (some 17) (AK.mv (AX.t 2)) (some (15, true)) 6 true false), (AOp.mk (some 18) (AK.call 36 [(AX.t 16), (AX.t 17)]) (some (15, true)) 7 false false), (AOp.mk (some 19) (AK.pick (AX.t 15) (AX.t 18) (AX.c (PV.val (Value.bool false)))) none 8 true false), (AOp.mk (some 20) (AK.call 34 [(AX.t 11), (AX.t 19)]) none 9 false true), (AOp.mk (some 10) (AK.mv (AX.t 20)) none 10 true true), (AOp.mk (some 21) (AK.ext (AX.t 10) 0) none 11 true false), (AOp.mk (some 22) (AK.ext (AX.t 10) 1) none 12 true false), (AOp.mk (some 8) (AK.mv (AX.t 21)) none 13 true false), (AOp.mk (some 9) (AK.mv (AX.t 22)) none 14 true true)]) (AC.seq (AC.seq (AC.ops [(AOp.mk (some 23) (AK.mv (AX.t 9)) none 0 false true), (AOp.mk (some 24) (AK.bin false BinOp.neq (AX.t 23) (AX.c (PV.val (Value.int IntKind.i64 0)))) none 1 false true)]) (AC.cond (AX.t 24) (AC.seq (AC.ops [(AOp.mk (some 25) (AK.mv (AX.t 9)) none 0 false true), (AOp.mk (some 6) (AK.mv (AX.c (PV.val (Value.int IntKind.i64 0)))) none 1 false true), (AOp.mk (some 7) (AK.mv (AX.t 25)) none 2 false true)]) AC.ret) AC.skip)) (AC.seq (AC.seq (AC.ops [(AOp.mk (some 26) (AK.mv (AX.t 8)) none 0 false true), (AOp.mk (some 27) (AK.mv (AX.t 1)) none 1 false true), (AOp.mk (some 28) (AK.call 43 [(AX.t 26), (AX.t 27)]) none 2 false true), (AOp.mk (some 29) (AK.un UnOp.not (AX.t 28)) none 3 false true)]) (AC.cond (AX.t 29) (AC.seq (AC.ops [(AOp.mk (some 6) (AK.mv (AX.c (PV.val (Value.int IntKind.i64 0)))) none 0 false true), (AOp.mk (some 7) (AK.mv (AX.c (PV.val (Value.int IntKind.i64 4)))) none 1 false true)]) AC.ret) AC.skip)) (AC.seq (AC.ops [(AOp.mk (some 30) (AK.mv (AX.t 8)) none 0 false true), (AOp.mk (some 31) (AK.mv (AX.t 1)) none 1 false true), (AOp.mk (some 32) (AK.mv (AX.t 2)) none 2 false true), (AOp.mk (some 33) (AK.build [(PV.val (Value.int IntKind.i64 0)), (PV.val (Value.int IntKind.i64 0))] [(0, (1, (AX.t 31))), (1, (1, (AX.t 32)))]) none 3 false true), (AOp.mk (some 34) (AK.call 44 [(AX.t 30), (AX.t 33)]) none 4 false true), (AOp.mk (some 6) (AK.mv (AX.t 34)) none 5 false true), (AOp.mk (some 7) (AK.mv (AX.c (PV.val (Value.int IntKind.i64 0)))) none 6 false true)]) AC.ret)))))
theorem ac18_ok : cCode Try.prog (fun _ => false) Try.f18.ntmps (Try.f18.body.getD .skip) = some ac18 := by kernel_rfl
def ac11 : AC := (AC.seq (AC.ops [(AOp.mk (some 2) (AK.box 4 (AX.t 0)) none 0 false true), (AOp.mk (some 4) (AK.mv (AX.c (PV.sl SK.full 0 []))) none 1 false true), (AOp.mk (some 5) (AK.mv (AX.c (PV.val (Value.int IntKind.i64 0)))) none 2 false true)]) (AC.seq (AC.ops [(AOp.mk (some 9) (AK.ld (some 4) (AX.t 2)) none 0 true false), (AOp.mk (some 10) (AK.ld (some 4) (AX.t 2)) none 1 true false), (AOp.mk (some 11) (AK.mv (AX.t 1)) none 2 true false), (AOp.mk (some 12) (AK.call 36 [(AX.t 10), (AX.t 11)]) none 3 false false), (AOp.mk (some 13) (AK.call 34 [(AX.t 9), (AX.t 12)]) none 4 false true), (AOp.mk (some 8) (AK.mv (AX.t 13)) none 5 true true), (AOp.mk (some 14) (AK.ext (AX.t 8) 0) none 6 true false), (AOp.mk (some 15) (AK.ext (AX.t 8) 1) none 7 true false), (AOp.mk (some 6) (AK.mv (AX.t 14)) none 8 true false), (AOp.mk (some 7) (AK.mv (AX.t 15)) none 9 true true)]) (AC.seq (AC.seq (AC.ops [(AOp.mk (some 16) (AK.mv (AX.t 7)) none 0 false true), (AOp.mk (some 17) (AK.bin false BinOp.neq (AX.t 16) (AX.c (PV.val (Value.int IntKind.i64 0)))) none 1 false true)]) (AC.cond (AX.t 17) (AC.seq (AC.ops [(AOp.mk (some 18) (AK.mv (AX.t 7)) none 0 false true), (AOp.mk (some 4) (AK.mv (AX.c (PV.sl SK.full 0 []))) none 1 false true), (AOp.mk (some 5) (AK.mv (AX.t 18)) none 2 false true)]) AC.ret) AC.skip)) (AC.seq (AC.ops [(AOp.mk (some 19) (AK.mv (AX.t 6)) none 0 false true), (AOp.mk (some 20) (AK.mv (AX.t 1)) none 1 false true), (AOp.mk (some 21) (AK.call 37 [(AX.t 19), (AX.t 20)]) none 2 false true), (AOp.mk (some 4) (AK.mv (AX.t 21)) none 3 false true), (AOp.mk (some 5) (AK.mv (AX.c (PV.val (Value.int IntKind.i64 0)))) none 4 false true)]) AC.ret))))
theorem ac11_ok : cCode Try.prog (fun _ => false) Try.f11.ntmps (Try.f11.body.getD .skip) = some ac11 := by kernel_rfl
def ac19 : AC := (AC.seq (AC.ops [(AOp.mk (some 3) (AK.box 4 (AX.t 0)) none 0 false true), (AOp.mk (some 6) (AK.mv (AX.c (PV.val (Value.bool false)))) none 1 false true), (AOp.mk (some 7) (AK.mv (AX.c (PV.val (Value.int IntKind.i64 0)))) none 2 false true)]) (AC.seq (AC.ops [(AOp.mk (some 11) (AK.ld (some 4) (AX.t 3)) none 0 true false), (AOp.mk (some 12) (AK.ld (some 4) (AX.t 3)) none 1 true false), (AOp.mk (some 13) (AK.mv (AX.t 1)) none 2 true false), (AOp.mk (some 14) (AK.call 41 [(AX.t 12), (AX.t 13)]) none 3 false false), (AOp.mk (some 15) (AK.mv (AX.t 14)) none 4 true false), (AOp.mk (some 16) (AK.ld (some 4) (AX.t 3)) (some (15, true)) 5 true false), (AOp.mk (some 17) (AK.mv (AX.t 2)) (some (15, true)) 6 true false), (AOp.mk (some 18) (AK.call 41 [(AX.t 16), (AX.t 17)]) (some (15, true)) 7 false false), (AOp.mk (some 19) (AK.pick (AX.t 15) (AX.t 18) (AX.c (PV.val (Value.bool false)))) none 8 true false), (AOp.mk (some 20) (AK.mv (AX.t 19)) none 9 true false), (AOp.mk (some 21) (AK.mv (AX.t 1)) (some (20, true)) 10 true false), (AOp.mk (some 22) (AK.mv (AX.t 2)) (some (20, true)) 11 true false), (AOp.mk (some 23) (AK.bin false BinOp.neq (AX.t 21) (AX.t 22)) (some (20, true)) 12 true false), (AOp.mk (some 24) (AK.pick (AX.t 20) (AX.t 23) (AX.c (PV.val (Value.bool false)))) none 13 true false), (AOp.mk (some 25) (AK.call 39 [(AX.t 11), (AX.t 24)]) none 14 false true), (AOp.mk (some 10) (AK.mv (AX.t 25)) none 15 true true), (AOp.mk (some 26) (AK.ext (AX.t 10) 0) none 16 true false), (AOp.mk (some 27) (AK.ext (AX.t 10) 1) none 17 true false), (AOp.mk (some 8) (AK.mv (AX.t 26)) none 18 true false), (AOp.mk (some 9) (AK.mv (AX.t 27)) none 19 true true)]) (AC.seq (AC.seq (AC.ops [(AOp.mk (some 28) (AK.mv (AX.t 9)) none 0 false true), (AOp.mk (some 29) (AK.bin false BinOp.neq (AX.t 28) (AX.c (PV.val (Value.int IntKind.i64 0)))) none 1 false true)]) (AC.cond (AX.t 29) (AC.seq (AC.ops [(AOp.mk (some 30) (AK.mv (AX.t 9)) none 0 false true), (AOp.mk (some 6) (AK.mv (AX.c (PV.val (Value.bool false)))) none 1 false true), (AOp.mk (some 7) (AK.mv (AX.t 30)) none 2 false true)]) AC.ret) AC.skip)) (AC.seq (AC.ops [(AOp.mk (some 31) (AK.mv (AX.t 8)) none 0 false true), (AOp.mk (some 32) (AK.mv (AX.t 1)) none 1 false true), (AOp.mk (some 33) (AK.mv (AX.t 2)) none 2 false true), (AOp.mk (some 34) (AK.call 45 [(AX.t 31), (AX.t 32), (AX.t 33)]) none 3 false true), (AOp.mk (some 6) (AK.mv (AX.t 34)) none 4 false true), (AOp.mk (some 7) (AK.mv (AX.c (PV.val (Value.int IntKind.i64 0)))) none 5 false true)]) AC.ret))))
theorem ac19_ok : cCode Try.prog (fun _ => false) Try.f19.ntmps (Try.f19.body.getD .skip) = some ac19 := by kernel_rfl
def ac20 : AC := (AC.seq (AC.ops [(AOp.mk (some 1) (AK.box 4 (AX.t 0)) none 0 false true), (AOp.mk (some 2) (AK.mv (AX.c (PV.val (Value.int IntKind.i64 0)))) none 1 false true), (AOp.mk (some 3) (AK.mv (AX.c (PV.val (Value.int IntKind.i64 0)))) none 2 false true)]) (AC.seq (AC.ops [(AOp.mk (some 7) (AK.ld (some 4) (AX.t 1)) none 0 false true), (AOp.mk (some 8) (AK.call 34 [(AX.t 7), (AX.c (PV.val (Value.bool true)))]) none 1 false true), (AOp.mk (some 6) (AK.mv (AX.t 8)) none 2 false true), (AOp.mk (some 9) (AK.ext (AX.t 6) 0) none 3 false true), (AOp.mk (some 10) (AK.ext (AX.t 6) 1) none 4 false true), (AOp.mk (some 4) (AK.mv (AX.t 9)) none 5 false true), (AOp.mk (some 5) (AK.mv (AX.t 10)) none 6 false true)]) (AC.seq (AC.seq (AC.ops [(AOp.mk (some 11) (AK.mv (AX.t 5)) none 0 false true), (AOp.mk (some 12) (AK.bin false BinOp.neq (AX.t 11) (AX.c (PV.val (Value.int IntKind.i64 0)))) none 1 false true)]) (AC.cond (AX.t 12) (AC.seq (AC.ops [(AOp.mk (some 13) (AK.mv (AX.t 5)) none 0 false true), (AOp.mk (some 2) (AK.mv (AX.c (PV.val (Value.int IntKind.i64 0)))) none 1 false true), (AOp.mk (some 3) (AK.mv (AX.t 13)) none 2 false true)]) AC.ret) AC.skip)) (AC.seq (AC.seq (AC.ops [(AOp.mk (some 14) (AK.mv (AX.t 4)) none 0 false true), (AOp.mk (some 15) (AK.call 35 [(AX.t 14)]) none 1 false true), (AOp.mk (some 16) (AK.len (AX.t 15)) none 2 false true), (AOp.mk (some 17) (AK.bin false BinOp.lss (AX.t 16) (AX.c (PV.val (Value.int IntKind.i64 2)))) none 3 false true)]) (AC.cond (AX.t 17) (AC.seq (AC.ops [(AOp.mk (some 2) (AK.mv (AX.c (PV.val (Value.int IntKind.i64 0)))) none 0 false true), (AOp.mk (some 3) (AK.mv (AX.c (PV.val (Value.int IntKind.i64 4)))) none 1 false true)]) AC.ret) AC.skip)) (AC.seq (AC.ops [(AOp.mk (some 18) (AK.mv (AX.t 4)) none 0 false true), (AOp.mk (some 19) (AK.mv (AX.t 4)) none 1 false true), (AOp.mk (some 20) (AK.mkf 46 [(AX.t 19)] []) none 2 false true), (AOp.mk (some 21) (AK.build [PV.nilp, (PV.val Value.nilFunc)] [(0, (1, (AX.t 18))), (1, (1, (AX.t 20)))]) none 3 false true), (AOp.mk (some 22) (AK.call 47 [(AX.t 21)]) none 4 false true), (AOp.mk (some 2) (AK.mv (AX.t 22)) none 5 false true), (AOp.mk (some 3) (AK.mv (AX.c (PV.val (Value.int IntKind.i64 0)))) none 6 false true)]) AC.ret)))))
theorem ac20_ok : cCode Try.prog (fun _ => false) Try.f20.ntmps (Try.f20.body.getD .skip) = some ac20 := by kernel_rfl
theorem real_row {args : List PV} {i j x : Nat} {cs : List PV} {k k' : SK} {sz sz' : Nat} {es es' : List (List PV)} (h : ∃ g w vs, Agree g w ∧ ArgsP g args vs) (hi : args[i]? = some (.agg cs)) (hj : cs[j]? = some (.sl k sz es)) (hx : es[x]? = some [.sl k' sz' es']) : es'.length ≤ 140737488355328 := by
  obtain ⟨g, w, vs, hA, ha⟩ := h
  have hlt : i < vs.length := by rw [← ha.len]; exact (List.getElem?_eq_some_iff.1 hi).1
  have := ha.at_ i _ _ hi (List.getElem?_eq_getElem hlt)
  generalize vs[i] = v at this
  cases this with
  | agg _ us hl h1 hh =>
    have hlt2 : j < us.size := by rw [← hl]; exact (List.getElem?_eq_some_iff.1 hj).1
    have := hh j _ _ hj (Array.getElem?_eq_getElem hlt2)
    generalize us[j] = u at this
    cases this with
    | sl _ _ _ ad n c f hl hn hc hm hk hz hat hh =>
      have := hh x 0 _ _ hx rfl
      generalize f x 0 = y at this
      cases this with
      | sl _ _ _ ad2 n2 c2 f2 hl2 hn2 hc2 hm2 hk2 hz2 hat2 hh2 => omega
theorem real_nK {k k2 : SK} {b : MBook} {r : List PV} (h : ∃ g w vs, Agree g w ∧ ArgsP g (.agg (bookC k k2 b) :: r) vs) : nK b ≤ 140737488355328 := by
  unfold nK
  cases hm : b.makers with
  | nil => simp
  | cons x l =>
    have := real_row (i := 0) (j := 0) (x := 0) (es' := x.map fun y => [pi y]) (k' := .sh) (sz' := 1) h rfl rfl (by rw [hm]; rfl)
    rw [List.length_map] at this
    exact this
def errA (b : MBook) (known : Bool) : Int := if okBook b then (if known then 0 else 51) else 50
def errR (b : MBook) (known : Bool) : Int := if okBook b then (if known then (if rightB b then 0 else 52) else 51) else 50
theorem askedBook_sem (k k2 : SK) (b : MBook) (known : Bool) : Sem1 39 [.agg (bookC k k2 b), pb known] (.tup [if errA b known = 0 then bookP k k2 b else .nilp, pi (errA b known)]) := by
  refine semC_of_exec' mixed Try.func39 (by kernel_rfl) (by kernel_rfl) ac39_ok 2 rfl (by decide) [(.tmp 4), (.tmp 5)] (by kernel_rfl) ?_
  intro hr C hC hI
  unfold ac39
  simp only [go_sem, Nat.reduceBEq, Nat.reduceAdd]
  refine call_pure2 hC (Check_sem k k2 b) rfl (PVleL_refl _) ?_
  rintro r rfl
  simp only [go_sem, Nat.reduceBEq]
  by_cases ho : okBook b
  · rw [if_pos ho]
    refine ⟨fun h => absurd rfl h, fun _ => ?_⟩
    cases known
    · have he : errA b false = 51 := by unfold errA; rw [if_pos ho]; rfl
      rw [he]
      simp only [go_sem, Nat.reduceBEq]
      exact retQ_two rfl rfl rfl
    · have he : errA b true = 0 := by unfold errA; rw [if_pos ho]; rfl
      rw [he]
      simp only [go_sem, Nat.reduceBEq, Nat.reduceAdd]
      refine call_pure2 hC (bookOf_sem k k2 ho.1 (by have := ho.2; omega)) rfl (PVleL_refl _) ?_
      rintro r rfl
      simp only [go_sem, Nat.reduceBEq]
      exact retQ_two rfl rfl rfl
  · have he : errA b known = 50 := by unfold errA; rw [if_neg ho]
    rw [if_neg ho, he]
    refine ⟨fun _ => retQ_two rfl rfl rfl, fun h => absurd h (by decide)⟩
theorem lack_right {b : MBook} (ho : okC b) : lackB (seenN b) = !rightB b := by
  rw [Bool.eq_iff_iff, lack_iff, Bool.not_eq_true', Bool.eq_false_iff, Ne]
  unfold rightB
  rw [List.all_eq_true]
  constructor
  · rintro ⟨k, hk, h⟩ H
    rcases Nat.lt_or_ge k (nK b) with hkn | hkn
    · have := H k (List.mem_range.2 hkn)
      rw [h] at this
      simp at this
    · rw [seen_out ho hkn] at h
      cases h
  · intro H
    refine Classical.byContradiction fun hn => H fun k hk => ?_
    have hk := List.mem_range.1 hk
    rw [decide_eq_true_eq]
    intro h0
    exact hn ⟨k, by have := ho.2.1; omega, h0⟩
theorem rightBook_sem (k k2 : SK) (b : MBook) (known : Bool) : Sem1 34 [.agg (bookC k k2 b), pb known] (.tup [if errR b known = 0 then bookP k k2 b else .nilp, pi (errR b known)]) := by
  refine semC_of_exec' mixed Try.func34 (by kernel_rfl) (by kernel_rfl) ac34_ok 2 rfl (by decide) [(.tmp 4), (.tmp 5)] (by kernel_rfl) ?_
  intro hr C hC hI
  unfold ac34
  simp only [go_sem, Nat.reduceBEq, Nat.reduceAdd]
  refine call_pure2 hC (askedBook_sem k k2 b known) rfl (PVleL_refl _) ?_
  rintro r rfl
  simp only [go_sem, Nat.reduceBEq]
  by_cases ho : okBook b
  · have hl := lack_right ho.1
    cases known
    · have he : errA b false = 51 := by unfold errA; rw [if_pos ho]; rfl
      have he2 : errR b false = 51 := by unfold errR; rw [if_pos ho]; rfl
      rw [he, he2]
      simp only [go_sem, decide_true, not_false_eq_true, false_implies, true_implies, Int.reduceEq]
      exact retQ_two rfl rfl rfl
    · have he : errA b true = 0 := by unfold errA; rw [if_pos ho]; rfl
      rw [he, if_pos rfl]
      simp only [go_sem, Nat.reduceBEq, Nat.reduceAdd, Nat.reduceLeDiff, decide_false, not_true_eq_false, false_implies, true_implies]
      refine call_pure2 hC (lacksSome_sem (seenN b)) rfl (PVleL_refl _) ?_
      rintro r rfl
      simp only [go_sem, Nat.reduceBEq]
      rw [hl]
      cases hr2 : rightB b
      · have he2 : errR b true = 52 := by unfold errR; rw [if_pos ho, hr2]; rfl
        rw [he2]
        simp only [go_sem]
        exact retQ_two rfl rfl rfl
      · have he2 : errR b true = 0 := by unfold errR; rw [if_pos ho, hr2]; rfl
        rw [he2, if_pos rfl]
        simp only [go_sem, Nat.reduceBEq]
        exact retQ_two rfl rfl rfl
  · have he : errA b known = 50 := by unfold errA; rw [if_neg ho]
    have he2 : errR b known = 50 := by unfold errR; rw [if_neg ho]
    rw [he, he2]
    simp only [go_sem, decide_true, not_false_eq_true, false_implies, true_implies, Int.reduceEq]
    exact retQ_two rfl rfl rfl
theorem askP {C : Con} (hC : ∀ f args rd K s, SemP Try.prog Fence.wide f args rd K s → C.call f args rd K s) (k k2 : SK) (b : MBook) (known : Bool) {rd : List Nat} {K : AV → AS → Prop} {s : AS}
    (h1 : errA b known ≠ 0 → K (.p (.tup [.nilp, pi (errA b known)])) s) (h2 : errA b known = 0 → K (.p (.tup [bookP k k2 b, pi 0])) s) : C.call 39 [.p (.agg (bookC k k2 b)), .p (pb known)] rd K s := by
  refine call_pure2 hC (askedBook_sem k k2 b known) rfl (PVleL_refl _) ?_
  rintro r rfl
  by_cases he : errA b known = 0
  · rw [if_pos he, he]; exact h2 he
  · rw [if_neg he]; exact h1 he
theorem rightP {C : Con} (hC : ∀ f args rd K s, SemP Try.prog Fence.wide f args rd K s → C.call f args rd K s) (k k2 : SK) (b : MBook) (known : Bool) {rd : List Nat} {K : AV → AS → Prop} {s : AS}
    (h1 : errR b known ≠ 0 → K (.p (.tup [.nilp, pi (errR b known)])) s) (h2 : errR b known = 0 → K (.p (.tup [bookP k k2 b, pi 0])) s) : C.call 34 [.p (.agg (bookC k k2 b)), .p (pb known)] rd K s := by
  refine call_pure2 hC (rightBook_sem k k2 b known) rfl (PVleL_refl _) ?_
  rintro r rfl
  by_cases he : errR b known = 0
  · rw [if_pos he, he]; exact h2 he
  · rw [if_neg he]; exact h1 he
theorem errA_ok {b : MBook} {known : Bool} (h : errA b known = 0) : okBook b ∧ known = true := by
  unfold errA at h
  split at h
  · rename_i ho
    split at h
    · rename_i hk; exact ⟨ho, hk⟩
    · omega
  · omega
theorem errR_ok {b : MBook} {known : Bool} (h : errR b known = 0) : okBook b ∧ known = true ∧ rightB b = true := by
  unfold errR at h
  split at h
  · rename_i ho
    split at h
    · rename_i hk
      split at h
      · rename_i hr; exact ⟨ho, hk, hr⟩
      · omega
    · omega
  · omega
def okM (b : MBook) (n : Int) : Bool := decide (0 ≤ n ∧ n < b.makers.length)
def okK (b : MBook) (n : Int) : Bool := decide (0 ≤ n ∧ n < (nK b : Int))
theorem okM_nat {b : MBook} {n : Int} (h : okM b n = true) : ∃ m : Nat, n = m ∧ m < b.makers.length := by
  have := of_decide_eq_true h
  exact ⟨n.toNat, by omega, by omega⟩
theorem okK_nat {b : MBook} {n : Int} (h : okK b n = true) : ∃ m : Nat, n = m ∧ m < nK b := by
  have := of_decide_eq_true h
  exact ⟨n.toNat, by omega, by omega⟩
theorem Right_sem (k k2 : SK) (b : MBook) : Sem1 16 [.agg (bookC k k2 b)] (if errA b true = 0 then .tup [pb (rightB b), pi 0] else .tup [pb false, pi (errA b true)]) := by
  refine semC_of_exec' mixed Try.func16 (by kernel_rfl) (by kernel_rfl) ac16_ok 1 rfl (by decide) [(.tmp 2), (.tmp 3)] (by kernel_rfl) ?_
  intro hr C hC hI
  unfold ac16
  simp only [go_sem, Nat.reduceBEq, Nat.reduceAdd]
  refine askP hC k k2 b true (fun hne => ?_) (fun h0 => ?_)
  · rw [if_neg hne]
    simp only [go_sem, Nat.reduceBEq, eq_true hne, decide_true]
    exact retQ_two rfl rfl rfl
  · obtain ⟨ho, -⟩ := errA_ok h0
    have hl := lack_right ho.1
    rw [if_pos h0]
    simp only [go_sem, Nat.reduceBEq, Nat.reduceAdd, Nat.reduceLeDiff, decide_false, not_true_eq_false]
    refine call_pure2 hC (lacksSome_sem (seenN b)) rfl (PVleL_refl _) ?_
    rintro r rfl
    simp only [go_sem, Nat.reduceBEq]
    rw [hl]
    cases rightB b
    · simp only [go_sem, Nat.reduceBEq]
      exact retQ_two rfl rfl rfl
    · simp only [go_sem, Nat.reduceBEq]
      exact retQ_two rfl rfl rfl
theorem Who_sem (k k2 : SK) (b : MBook) : Sem1 10 [.agg (bookC k k2 b)] (if errR b true = 0 then .tup [pis (natL (whoL b)), pi 0] else .tup [pis [], pi (errR b true)]) := by
  refine semC_of_exec' mixed Try.func10 (by kernel_rfl) (by kernel_rfl) ac10_ok 1 rfl (by decide) [(.tmp 2), (.tmp 3)] (by kernel_rfl) ?_
  intro hr C hC hI
  unfold ac10
  simp only [go_sem, Nat.reduceBEq, Nat.reduceAdd]
  refine rightP hC k k2 b true (fun hne => ?_) (fun h0 => ?_)
  · rw [if_neg hne]
    simp only [go_sem, Nat.reduceBEq, eq_true hne, decide_true]
    exact retQ_two_le rfl rfl (PVle.nil _ _ _) (PVle.refl _) rfl
  · obtain ⟨ho, -⟩ := errR_ok h0
    rw [if_pos h0]
    simp only [go_sem, Nat.reduceBEq, decide_false, not_true_eq_false]
    refine call_pure2 hC (possible_sem k k2 ho.1) rfl (PVleL_refl _) ?_
    rintro r rfl
    simp only [go_sem, Nat.reduceBEq]
    exact retQ_two_le rfl rfl (PVle.sh _ _ _) (PVle.refl _) rfl
def needsR (o : Option Nat) : PV := match o with | some z => .tup [pi (z : Nat), pi 0] | none => .tup [pi 0, pi 4]
theorem Needs_sem (k k2 : SK) (b : MBook) (n : Int) : Sem1 17 [.agg (bookC k k2 b), pi n] (if errR b (okM b n) = 0 then needsR (needsO b n.toNat) else .tup [pi 0, pi (errR b (okM b n))]) := by
  refine semC_of_exec' mixed Try.func17 (by kernel_rfl) (by kernel_rfl) ac17_ok 2 rfl (by decide) [(.tmp 4), (.tmp 5)] (by kernel_rfl) ?_
  intro hr C hC hI
  unfold ac17
  simp only [go_sem, Nat.reduceBEq, Nat.reduceAdd]
  have hlen := real_aggL (i := 0) (j := 0) hr rfl rfl
  rw [List.length_map] at hlen
  refine call_pure2 hC (hasMaker_sem k k2 b n hlen) rfl (PVleL_refl _) ?_
  rintro r rfl
  simp only [go_sem, Nat.reduceBEq]
  refine rightP hC k k2 b (okM b n) (fun hne => ?_) (fun h0 => ?_)
  · rw [if_neg hne]
    simp only [go_sem, Nat.reduceBEq, eq_true hne, decide_true]
    exact retQ_two rfl rfl rfl
  · obtain ⟨ho, hk, -⟩ := errR_ok h0
    obtain ⟨m, rfl, hm⟩ := okM_nat hk
    rw [if_pos h0, Int.toNat_natCast]
    simp only [go_sem, Nat.reduceBEq, decide_false, not_true_eq_false]
    refine call_pure2 hC (needs_sem k k2 ho.1 hm) rfl (PVleL_refl _) ?_
    rintro r rfl
    simp only [go_sem, Nat.reduceBEq]
    cases needsO b m with
    | none =>
      simp only [go_sem, Nat.reduceBEq, needsP]
      exact retQ_two rfl rfl rfl
    | some z =>
      simp only [go_sem, Nat.reduceBEq, needsP]
      exact retQ_two rfl rfl rfl
theorem hasM_sem (k k2 : SK) (b : MBook) (n : Int) (hl : b.makers.length ≤ 140737488355328) : Sem1 41 [.agg (bookC k k2 b), pi n] (pb (okM b n)) := hasMaker_sem k k2 b n hl
theorem hasK_sem (k k2 : SK) (b : MBook) (n : Int) (hl : nK b ≤ 140737488355328) : Sem1 36 [.agg (bookC k k2 b), pi n] (pb (okK b n)) := hasKind_sem k k2 b n hl
theorem Changed_sem (k k2 : SK) (b : MBook) (n p : Int) : Sem1 18 [.agg (bookC k k2 b), pi n, pi p] (if errR b (okM b n && okK b p) = 0 then (if possB b n.toNat then .tup [pi (verdictI b n.toNat p.toNat), pi 0] else .tup [pi 0, pi 4]) else .tup [pi 0, pi (errR b (okM b n && okK b p))]) := by
  refine semC_of_exec' mixed Try.func18 (by kernel_rfl) (by kernel_rfl) ac18_ok 3 rfl (by decide) [(.tmp 6), (.tmp 7)] (by kernel_rfl) ?_
  intro hr C hC hI
  unfold ac18
  simp only [go_sem, Nat.reduceBEq, Nat.reduceAdd]
  have hlen := real_aggL (i := 0) (j := 0) hr rfl rfl
  rw [List.length_map] at hlen
  have hlk := real_nK hr
  refine call_pure2 hC (hasM_sem k k2 b n hlen) rfl (PVleL_refl _) ?_
  rintro r rfl
  simp only [go_sem, Nat.reduceBEq]
  cases hM : okM b n
  · have hne : errR b false ≠ 0 := fun h => by have := (errR_ok h).2.1; cases this
    rw [Bool.false_and, if_neg hne]
    simp only [go_sem, Nat.reduceBEq]
    refine rightP hC k k2 b false (fun hne => ?_) (fun h0 => absurd h0 hne)
    simp only [go_sem, Nat.reduceBEq, eq_true hne, decide_true]
    exact retQ_two rfl rfl rfl
  · rw [Bool.true_and]
    simp only [go_sem, Nat.reduceBEq, Nat.reduceAdd]
    refine call_pure2 hC (hasK_sem k k2 b p hlk) rfl (PVleL_refl _) ?_
    rintro r rfl
    simp only [go_sem, Nat.reduceBEq]
    refine rightP hC k k2 b (okK b p) (fun hne => ?_) (fun h0 => ?_)
    · rw [if_neg hne]
      simp only [go_sem, Nat.reduceBEq, eq_true hne, decide_true]
      exact retQ_two rfl rfl rfl
    · obtain ⟨ho, hk, -⟩ := errR_ok h0
      obtain ⟨m, rfl, hm⟩ := okM_nat hM
      obtain ⟨q, rfl, hq⟩ := okK_nat hk
      rw [if_pos h0, Int.toNat_natCast, Int.toNat_natCast]
      simp only [go_sem, Nat.reduceBEq, decide_false, not_true_eq_false]
      refine call_pure2 hC (isPossible_sem k k2 ho.1 hm) rfl (PVleL_refl _) ?_
      rintro r rfl
      simp only [go_sem, Nat.reduceBEq]
      cases possB b m
      · simp only [go_sem, Nat.reduceBEq]
        exact retQ_two rfl rfl rfl
      · simp only [go_sem, Nat.reduceBEq, Nat.reduceAdd, Nat.reduceLeDiff]
        refine call_pure2 hC (verdict_sem k k2 ho.1 hm hq) rfl (PVleL_refl _) ?_
        rintro r rfl
        simp only [go_sem, Nat.reduceBEq]
        exact retQ_two rfl rfl rfl
theorem Values_sem (k k2 : SK) (b : MBook) (p : Int) : Sem1 11 [.agg (bookC k k2 b), pi p] (if errR b (okK b p) = 0 then .tup [pis (natL (valuesL b p.toNat)), pi 0] else .tup [pis [], pi (errR b (okK b p))]) := by
  refine semC_of_exec' mixed Try.func11 (by kernel_rfl) (by kernel_rfl) ac11_ok 2 rfl (by decide) [(.tmp 4), (.tmp 5)] (by kernel_rfl) ?_
  intro hr C hC hI
  unfold ac11
  simp only [go_sem, Nat.reduceBEq, Nat.reduceAdd]
  have hlk := real_nK hr
  refine call_pure2 hC (hasK_sem k k2 b p hlk) rfl (PVleL_refl _) ?_
  rintro r rfl
  simp only [go_sem, Nat.reduceBEq]
  refine rightP hC k k2 b (okK b p) (fun hne => ?_) (fun h0 => ?_)
  · rw [if_neg hne]
    simp only [go_sem, Nat.reduceBEq, eq_true hne, decide_true]
    exact retQ_two_le rfl rfl (PVle.nil _ _ _) (PVle.refl _) rfl
  · obtain ⟨ho, hk, -⟩ := errR_ok h0
    obtain ⟨q, rfl, hq⟩ := okK_nat hk
    rw [if_pos h0, Int.toNat_natCast]
    simp only [go_sem, Nat.reduceBEq, decide_false, not_true_eq_false]
    refine call_pure2 hC (values_sem k k2 ho.1 hq) rfl (PVleL_refl _) ?_
    rintro r rfl
    simp only [go_sem, Nat.reduceBEq]
    exact retQ_two_le rfl rfl (PVle.sh _ _ _) (PVle.refl _) rfl
def okT (b : MBook) (n p : Int) : Bool := okM b n && okM b p && decide (n ≠ p)
theorem Told_sem (k k2 : SK) (b : MBook) (n p : Int) : Sem1 19 [.agg (bookC k k2 b), pi n, pi p] (if errA b (okT b n p) = 0 then .tup [pb (!bothB b n.toNat p.toNat), pi 0] else .tup [pb false, pi (errA b (okT b n p))]) := by
  unfold okT
  refine semC_of_exec' mixed Try.func19 (by kernel_rfl) (by kernel_rfl) ac19_ok 3 rfl (by decide) [(.tmp 6), (.tmp 7)] (by kernel_rfl) ?_
  intro hr C hC hI
  unfold ac19
  simp only [go_sem, Nat.reduceBEq, Nat.reduceAdd]
  have hlen := real_aggL (i := 0) (j := 0) hr rfl rfl
  rw [List.length_map] at hlen
  have bad : errA b false ≠ 0 := fun h => by have := (errA_ok h).2; cases this
  refine call_pure2 hC (hasM_sem k k2 b n hlen) rfl (PVleL_refl _) ?_
  rintro r rfl
  simp only [go_sem, Nat.reduceBEq]
  cases hM : okM b n
  · rw [Bool.false_and, Bool.false_and, if_neg bad]
    simp only [go_sem, Nat.reduceBEq]
    refine askP hC k k2 b false (fun hne => ?_) (fun h0 => absurd h0 bad)
    simp only [go_sem, Nat.reduceBEq, eq_true hne, decide_true]
    exact retQ_two rfl rfl rfl
  · rw [Bool.true_and]
    simp only [go_sem, Nat.reduceBEq, Nat.reduceAdd]
    refine call_pure2 hC (hasM_sem k k2 b p hlen) rfl (PVleL_refl _) ?_
    rintro r rfl
    simp only [go_sem, Nat.reduceBEq]
    cases hP : okM b p
    · rw [Bool.false_and, if_neg bad]
      simp only [go_sem, Nat.reduceBEq]
      refine askP hC k k2 b false (fun hne => ?_) (fun h0 => absurd h0 bad)
      simp only [go_sem, Nat.reduceBEq, eq_true hne, decide_true]
      exact retQ_two rfl rfl rfl
    · rw [Bool.true_and]
      simp only [go_sem, Nat.reduceBEq]
      refine askP hC k k2 b (decide (n ≠ p)) (fun hne => ?_) (fun h0 => ?_)
      · rw [if_neg hne]
        simp only [go_sem, Nat.reduceBEq, eq_true hne, decide_true]
        exact retQ_two rfl rfl rfl
      · obtain ⟨ho, -⟩ := errA_ok h0
        obtain ⟨m, rfl, hm⟩ := okM_nat hM
        obtain ⟨u, rfl, hu⟩ := okM_nat hP
        rw [if_pos h0, Int.toNat_natCast, Int.toNat_natCast]
        simp only [go_sem, Nat.reduceBEq, decide_false, not_true_eq_false]
        refine call_pure2 hC (areTold_sem k k2 ho.1 hm hu) rfl (PVleL_refl _) ?_
        rintro r rfl
        simp only [go_sem, Nat.reduceBEq]
        exact retQ_two rfl rfl rfl
theorem Look_sem (k k2 : SK) (b : MBook) : Sem1 20 [.agg (bookC k k2 b)] (if errR b true = 0 then (if (whoL b).length < 2 then .tup [pi 0, pi 4] else .tup [pi (lookN b : Nat), pi 0]) else .tup [pi 0, pi (errR b true)]) := by
  refine semC_of_exec' mixed Try.func20 (by kernel_rfl) (by kernel_rfl) ac20_ok 1 rfl (by decide) [(.tmp 2), (.tmp 3)] (by kernel_rfl) ?_
  intro hr C hC hI
  unfold ac20
  simp only [go_sem, Nat.reduceBEq, Nat.reduceAdd]
  refine rightP hC k k2 b true (fun hne => ?_) (fun h0 => ?_)
  · rw [if_neg hne]
    simp only [go_sem, Nat.reduceBEq, eq_true hne, decide_true]
    exact retQ_two rfl rfl rfl
  · obtain ⟨ho, -⟩ := errR_ok h0
    rw [if_pos h0]
    simp only [go_sem, Nat.reduceBEq, decide_false, not_true_eq_false]
    refine call_pure2 hC (possible_sem k k2 ho.1) rfl (PVleL_refl _) ?_
    rintro r rfl
    simp only [go_sem, Nat.reduceBEq, Nat.reduceAdd, Nat.reduceLeDiff, List.length_map, natL_len]
    refine ⟨fun hlt => ?_, fun hlt => ?_⟩
    · rw [if_pos (by omega)]
      exact retQ_two rfl rfl rfl
    · rw [if_neg (by omega)]
      refine call_pure2 hC (first_sem k k2 ho.1 (by have := ho.2; omega)) rfl (PVleL_refl _) ?_
      rintro r rfl
      simp only [go_sem, Nat.reduceBEq]
      exact retQ_two rfl rfl rfl
end Go.Proofs.Ytlbolnlcncjijaa.Mk
namespace Go.Proofs.Ytlbolnlcncjijaa
open Go.RowKit
section
variable {C : Con} {rd : List Nat} {d : Option Nat} {i : Nat} {tk lst : Bool} {s : AS} {K : List Nat → AS → Prop}
def stGB (lst : Bool) (id off n : Nat) (k : Option ABlk) (c : List AV) (rd : List Nat) (d : Option Nat) (s : AS) (K : AS → Prop) : Prop :=
  match k with
  | some (.cells cs) => (lst = true ∨ id ∉ rd) ∧ off + n ≤ cs.length ∧ K (({ s with loc := s.loc.set id (.cells (putCells cs off c)) } : AS).put d (.p .und))
  | some (.prt m cs) => (lst = true ∨ id ∉ rd) ∧ m ≤ off ∧ off + n ≤ cs.length ∧ K (({ s with loc := s.loc.set id (.prt m (putCells cs off c)) } : AS).put d (.p .und))
  | _ => False
def stG (v : AV) (u : Option (List AV)) (lst : Bool) (n : Nat) (rd : List Nat) (d : Option Nat) (s : AS) (K : AS → Prop) : Prop :=
  match v, u with
  | .loc id off, some c => stGB lst id off n s.loc[id]? c rd d s K
  | _, _ => False
theorem gs_stA {n : Nat} {a x : AX} : gstep C rd ⟨d, .st n a x, none, i, tk, lst⟩ s K = stG (a.ev s) (cellsA n (x.ev s)) lst n (bif lst then [] else rd) d s (K (bif lst then [] else rd)) := by
  rw [gs_eff rfl]
  simp only [effQ, stG, stGB]
  cases a.ev s with
  | loc id off =>
    cases cellsA n (x.ev s) with
    | none => rfl
    | some v =>
      simp only
      cases s.loc[id]? with
      | none => rfl
      | some k => cases k <;> rfl
  | _ => rfl
theorem stG_loc {id off n : Nat} {c : List AV} {K : AS → Prop} : stG (.loc id off) (some c) lst n rd d s K = stGB lst id off n s.loc[id]? c rd d s K := rfl
theorem stGB_cells {id off n : Nat} {cs c : List AV} {K : AS → Prop} : stGB lst id off n (some (.cells cs)) c rd d s K = ((lst = true ∨ id ∉ rd) ∧ off + n ≤ cs.length ∧ K (({ s with loc := s.loc.set id (.cells (putCells cs off c)) } : AS).put d (.p .und))) := rfl
end
end Go.Proofs.Ytlbolnlcncjijaa
