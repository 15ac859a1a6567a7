/- Contracts of the reference of maker: truths, who is possible. -/
import Derived.Test.YthaplmohhbdfeaaZy07
namespace Go.Proofs.Ythaplmohhbdfeaa.Mk
open Go.RowKit Ls
def ac67 : AC := (AC.seq (AC.ops [(AOp.mk (some 1) (AK.box 4 (AX.t 0)) none 0 false true), (AOp.mk (some 2) (AK.mv (AX.c (PV.val (Value.int IntKind.i64 0)))) none 1 false true)]) (AC.seq (AC.ops [(AOp.mk (some 3) (AK.fadr 0 (AX.t 1)) none 0 false true), (AOp.mk (some 4) (AK.ld none (AX.t 3)) none 1 false true), (AOp.mk (some 5) (AK.iadrS 1 (AX.t 4) (AX.c (PV.val (Value.int IntKind.i64 0)))) none 2 false true), (AOp.mk (some 6) (AK.ld none (AX.t 5)) none 3 false true), (AOp.mk (some 7) (AK.len (AX.t 6)) none 4 false true), (AOp.mk (some 2) (AK.mv (AX.t 7)) none 5 false true)]) AC.ret))
theorem ac67_ok : cCode Try.prog (fun _ => false) Try.f67.ntmps (Try.f67.body.getD .skip) = some ac67 := by kernel_rfl
def ac75 : AC := (AC.seq (AC.ops [(AOp.mk (some 2) (AK.box 4 (AX.t 0)) none 0 false true), (AOp.mk (some 4) (AK.mv (AX.c (PV.val (Value.bool false)))) none 1 false true)]) (AC.seq (AC.ops [(AOp.mk (some 5) (AK.mv (AX.t 1)) none 0 false true), (AOp.mk (some 6) (AK.fadr 0 (AX.t 2)) none 1 false true), (AOp.mk (some 7) (AK.ld none (AX.t 6)) none 2 false true), (AOp.mk (some 8) (AK.len (AX.t 7)) none 3 false true), (AOp.mk (some 9) (AK.bin false BinOp.sub (AX.t 8) (AX.c (PV.val (Value.int IntKind.i64 1)))) none 4 false true), (AOp.mk (some 10) (AK.call 43 [(AX.t 5), (AX.c (PV.val (Value.int IntKind.i64 0))), (AX.t 9)]) none 5 false true), (AOp.mk (some 4) (AK.mv (AX.t 10)) none 6 false true)]) AC.ret))
theorem ac75_ok : cCode Try.prog (fun _ => false) Try.f75.ntmps (Try.f75.body.getD .skip) = some ac75 := by kernel_rfl
def ac68 : AC := (AC.seq (AC.ops [(AOp.mk (some 2) (AK.box 4 (AX.t 0)) none 0 false true), (AOp.mk (some 4) (AK.mv (AX.c (PV.val (Value.bool false)))) none 1 false true)]) (AC.seq (AC.ops [(AOp.mk (some 5) (AK.mv (AX.t 1)) none 0 false true), (AOp.mk (some 6) (AK.ld (some 4) (AX.t 2)) none 1 false true), (AOp.mk (some 7) (AK.call 67 [(AX.t 6)]) none 2 false true), (AOp.mk (some 8) (AK.bin false BinOp.sub (AX.t 7) (AX.c (PV.val (Value.int IntKind.i64 1)))) none 3 false true), (AOp.mk (some 9) (AK.call 43 [(AX.t 5), (AX.c (PV.val (Value.int IntKind.i64 0))), (AX.t 8)]) none 4 false true), (AOp.mk (some 4) (AK.mv (AX.t 9)) none 5 false true)]) AC.ret))
theorem ac68_ok : cCode Try.prog (fun _ => false) Try.f68.ntmps (Try.f68.body.getD .skip) = some ac68 := by kernel_rfl
def ac104 : AC := (AC.seq (AC.ops [(AOp.mk (some 2) (AK.box 4 (AX.t 0)) none 0 false true), (AOp.mk (some 4) (AK.mv (AX.c (PV.val (Value.int IntKind.i64 0)))) none 1 false true)]) (AC.seq (AC.ops [(AOp.mk (some 5) (AK.mv (AX.c (PV.val (Value.int IntKind.i64 31)))) none 0 false true)]) (AC.seq (AC.seq (AC.ops [(AOp.mk (some 6) (AK.mv (AX.c (PV.val (Value.int IntKind.i64 0)))) none 0 false true)]) (AC.block 0 (AC.loop (AC.seq (AC.seq (AC.ops [(AOp.mk (some 7) (AK.mv (AX.t 6)) none 0 false true), (AOp.mk (some 8) (AK.fadr 1 (AX.t 2)) none 1 false true), (AOp.mk (some 9) (AK.ld none (AX.t 8)) none 2 false true), (AOp.mk (some 10) (AK.len (AX.t 9)) none 3 false true), (AOp.mk (some 11) (AK.bin false BinOp.lss (AX.t 7) (AX.t 10)) none 4 false true)]) (AC.cond (AX.t 11) AC.skip (AC.exit 0))) (AC.seq (AC.block 1 (AC.seq (AC.ops [(AOp.mk (some 14) (AK.fadr 1 (AX.t 2)) none 0 false true), (AOp.mk (some 15) (AK.ld none (AX.t 14)) none 1 false true), (AOp.mk (some 16) (AK.mv (AX.t 6)) none 2 false true), (AOp.mk (some 17) (AK.iadrS 2 (AX.t 15) (AX.t 16)) none 3 false true), (AOp.mk (some 18) (AK.fadr 0 (AX.t 17)) none 4 false true), (AOp.mk (some 19) (AK.ld none (AX.t 18)) none 5 false true), (AOp.mk (some 20) (AK.mv (AX.t 1)) none 6 false true), (AOp.mk (some 21) (AK.bin false BinOp.eql (AX.t 19) (AX.t 20)) none 7 false true)]) (AC.cond (AX.t 21) (AC.ops [(AOp.mk (some 22) (AK.mv (AX.t 5)) none 0 false true), (AOp.mk (some 23) (AK.fadr 1 (AX.t 2)) none 1 false true), (AOp.mk (some 24) (AK.ld none (AX.t 23)) none 2 false true), (AOp.mk (some 25) (AK.mv (AX.t 6)) none 3 false true), (AOp.mk (some 26) (AK.iadrS 2 (AX.t 24) (AX.t 25)) none 4 false true), (AOp.mk (some 27) (AK.fadr 1 (AX.t 26)) none 5 false true), (AOp.mk (some 28) (AK.ld none (AX.t 27)) none 6 false true), (AOp.mk (some 29) (AK.bin false BinOp.and (AX.t 22) (AX.t 28)) none 7 false true), (AOp.mk (some 5) (AK.mv (AX.t 29)) none 8 false true)]) AC.skip))) (AC.ops [(AOp.mk (some 12) (AK.mv (AX.t 6)) none 0 false true), (AOp.mk (some 13) (AK.bin false BinOp.add (AX.t 12) (AX.c (PV.val (Value.int IntKind.i64 1)))) none 1 false true), (AOp.mk (some 6) (AK.mv (AX.t 13)) none 2 false true)])))))) (AC.seq (AC.ops [(AOp.mk (some 30) (AK.mv (AX.t 5)) none 0 false true), (AOp.mk (some 4) (AK.mv (AX.t 30)) none 1 false true)]) AC.ret))))
theorem ac104_ok : cCode Try.prog (fun _ => false) Try.f104.ntmps (Try.f104.body.getD .skip) = some ac104 := by kernel_rfl
def ac65 : AC := (AC.seq (AC.ops [(AOp.mk (some 1) (AK.box 4 (AX.t 0)) none 0 false true), (AOp.mk (some 2) (AK.mv (AX.c (PV.val (Value.bool false)))) none 1 false true)]) (AC.seq (AC.ops [(AOp.mk (some 3) (AK.mv (AX.c (PV.val (Value.bool true)))) none 0 false true)]) (AC.seq (AC.seq (AC.ops [(AOp.mk (some 4) (AK.mv (AX.c (PV.val (Value.int IntKind.i64 0)))) none 0 false true)]) (AC.block 0 (AC.loop (AC.seq (AC.seq (AC.ops [(AOp.mk (some 5) (AK.mv (AX.t 4)) none 0 false true), (AOp.mk (some 6) (AK.ld (some 4) (AX.t 1)) none 1 false true), (AOp.mk (some 7) (AK.call 67 [(AX.t 6)]) none 2 false true), (AOp.mk (some 8) (AK.bin false BinOp.lss (AX.t 5) (AX.t 7)) none 3 false true)]) (AC.cond (AX.t 8) AC.skip (AC.exit 0))) (AC.seq (AC.block 1 (AC.ops [(AOp.mk (some 11) (AK.mv (AX.t 3)) none 0 false true), (AOp.mk (some 12) (AK.mv (AX.t 11)) none 1 false true), (AOp.mk (some 13) (AK.ld (some 4) (AX.t 1)) (some (12, true)) 2 false true), (AOp.mk (some 14) (AK.mv (AX.t 4)) (some (12, true)) 3 false true), (AOp.mk (some 15) (AK.call 104 [(AX.t 13), (AX.t 14)]) (some (12, true)) 4 false true), (AOp.mk (some 16) (AK.bin false BinOp.neq (AX.t 15) (AX.c (PV.val (Value.int IntKind.i64 0)))) (some (12, true)) 5 false true), (AOp.mk (some 17) (AK.pick (AX.t 12) (AX.t 16) (AX.c (PV.val (Value.bool false)))) none 6 false true), (AOp.mk (some 3) (AK.mv (AX.t 17)) none 7 false true)])) (AC.ops [(AOp.mk (some 9) (AK.mv (AX.t 4)) none 0 false true), (AOp.mk (some 10) (AK.bin false BinOp.add (AX.t 9) (AX.c (PV.val (Value.int IntKind.i64 1)))) none 1 false true), (AOp.mk (some 4) (AK.mv (AX.t 10)) none 2 false true)])))))) (AC.seq (AC.ops [(AOp.mk (some 18) (AK.mv (AX.t 3)) none 0 false true), (AOp.mk (some 2) (AK.mv (AX.t 18)) none 1 false true)]) AC.ret))))
theorem ac65_ok : cCode Try.prog (fun _ => false) Try.f65.ntmps (Try.f65.body.getD .skip) = some ac65 := by kernel_rfl
def ac116 : AC := (AC.seq (AC.ops [(AOp.mk (some 2) (AK.box 4 (AX.t 0)) none 0 false true), (AOp.mk (some 4) (AK.mv (AX.c (PV.val (Value.bool false)))) none 1 false true)]) (AC.seq (AC.ops [(AOp.mk (some 5) (AK.mv (AX.t 1)) none 0 true false), (AOp.mk (some 6) (AK.fadr 3 (AX.t 2)) none 1 true true), (AOp.mk (some 7) (AK.ld none (AX.t 6)) none 2 true true), (AOp.mk (some 8) (AK.bin false BinOp.and (AX.t 5) (AX.t 7)) none 3 true true), (AOp.mk (some 9) (AK.bin false BinOp.eql (AX.t 8) (AX.c (PV.val (Value.int IntKind.i64 0)))) none 4 true true), (AOp.mk (some 10) (AK.mv (AX.t 9)) none 5 true true), (AOp.mk (some 11) (AK.mv (AX.t 1)) (some (10, true)) 6 true false), (AOp.mk (some 12) (AK.ld (some 4) (AX.t 2)) (some (10, true)) 7 true false), (AOp.mk (some 16) (AK.fadr 2 (AX.t 2)) (some (10, true)) 11 true false), (AOp.mk (some 17) (AK.ld none (AX.t 16)) (some (10, true)) 12 true false), (AOp.mk (some 13) (AK.call 67 [(AX.t 12)]) (some (10, true)) 8 false false), (AOp.mk (some 14) (AK.call 42 [(AX.t 11), (AX.t 13)]) (some (10, true)) 9 false false), (AOp.mk (some 15) (AK.len (AX.t 14)) (some (10, true)) 10 true false), (AOp.mk (some 18) (AK.bin false BinOp.leq (AX.t 15) (AX.t 17)) (some (10, true)) 13 true true), (AOp.mk (some 19) (AK.pick (AX.t 10) (AX.t 18) (AX.c (PV.val (Value.bool false)))) none 14 true true), (AOp.mk (some 4) (AK.mv (AX.t 19)) none 15 true true)]) AC.ret))
theorem ac116_ok : cCode Try.prog (fun _ => false) Try.f116.ntmps (Try.f116.body.getD .skip) = some ac116 := by kernel_rfl
def ac120 : AC := (AC.seq (AC.ops [(AOp.mk (some 4) (AK.box 4 (AX.t 0)) none 0 false true), (AOp.mk (some 8) (AK.mv (AX.c (PV.val (Value.int IntKind.i64 0)))) none 1 false true)]) (AC.seq (AC.seq (AC.ops [(AOp.mk (some 9) (AK.mv (AX.t 2)) none 0 false true), (AOp.mk (some 10) (AK.mv (AX.t 3)) none 1 false true), (AOp.mk (some 11) (AK.call 44 [(AX.t 9), (AX.t 10)]) none 2 false true)]) (AC.cond (AX.t 11) (AC.seq (AC.ops [(AOp.mk (some 12) (AK.ld (some 4) (AX.t 4)) none 0 false true), (AOp.mk (some 13) (AK.mv (AX.t 3)) none 1 false true), (AOp.mk (some 14) (AK.call 104 [(AX.t 12), (AX.t 13)]) none 2 false true), (AOp.mk (some 8) (AK.mv (AX.t 14)) none 3 false true)]) AC.ret) AC.skip)) (AC.seq (AC.ops [(AOp.mk (some 15) (AK.ld (some 4) (AX.t 4)) none 0 true false), (AOp.mk (some 16) (AK.mv (AX.t 3)) none 1 true false), (AOp.mk (some 18) (AK.fadr 0 (AX.t 4)) none 3 true false), (AOp.mk (some 19) (AK.ld none (AX.t 18)) none 4 true false), (AOp.mk (some 20) (AK.mv (AX.t 1)) none 5 true false), (AOp.mk (some 21) (AK.iadrS 1 (AX.t 19) (AX.t 20)) none 6 true false), (AOp.mk (some 22) (AK.ld none (AX.t 21)) none 7 true false), (AOp.mk (some 23) (AK.mv (AX.t 3)) none 8 true false), (AOp.mk (some 24) (AK.iadrS 1 (AX.t 22) (AX.t 23)) none 9 true false), (AOp.mk (some 25) (AK.ld none (AX.t 24)) none 10 true false), (AOp.mk (some 17) (AK.call 104 [(AX.t 15), (AX.t 16)]) none 2 false false), (AOp.mk (some 26) (AK.bin false BinOp.and (AX.t 17) (AX.t 25)) none 11 true true), (AOp.mk (some 8) (AK.mv (AX.t 26)) none 12 true true)]) AC.ret)))
theorem ac120_ok : cCode Try.prog (fun _ => false) Try.f120.ntmps (Try.f120.body.getD .skip) = some ac120 := by kernel_rfl
def ac117 : AC := (AC.seq (AC.ops [(AOp.mk (some 3) (AK.box 4 (AX.t 0)) none 0 false true), (AOp.mk (some 6) (AK.mv (AX.c (PV.val (Value.bool false)))) none 1 false true)]) (AC.seq (AC.ops [(AOp.mk (some 7) (AK.mv (AX.c (PV.val (Value.bool true)))) none 0 false true)]) (AC.seq (AC.seq (AC.ops [(AOp.mk (some 8) (AK.mv (AX.c (PV.val (Value.int IntKind.i64 0)))) none 0 false true)]) (AC.block 0 (AC.loop (AC.seq (AC.seq (AC.ops [(AOp.mk (some 9) (AK.mv (AX.t 8)) none 0 false true), (AOp.mk (some 10) (AK.ld (some 4) (AX.t 3)) none 1 false true), (AOp.mk (some 11) (AK.call 67 [(AX.t 10)]) none 2 false true), (AOp.mk (some 12) (AK.bin false BinOp.lss (AX.t 9) (AX.t 11)) none 3 false true)]) (AC.cond (AX.t 12) AC.skip (AC.exit 0))) (AC.seq (AC.block 1 (AC.ops [(AOp.mk (some 15) (AK.mv (AX.t 7)) none 0 false true), (AOp.mk (some 16) (AK.mv (AX.t 15)) none 1 false true), (AOp.mk (some 17) (AK.ld (some 4) (AX.t 3)) (some (16, true)) 2 false true), (AOp.mk (some 18) (AK.mv (AX.t 1)) (some (16, true)) 3 false true), (AOp.mk (some 19) (AK.mv (AX.t 2)) (some (16, true)) 4 false true), (AOp.mk (some 20) (AK.mv (AX.t 8)) (some (16, true)) 5 false true), (AOp.mk (some 21) (AK.call 120 [(AX.t 17), (AX.t 18), (AX.t 19), (AX.t 20)]) (some (16, true)) 6 false true), (AOp.mk (some 22) (AK.bin false BinOp.neq (AX.t 21) (AX.c (PV.val (Value.int IntKind.i64 0)))) (some (16, true)) 7 false true), (AOp.mk (some 23) (AK.pick (AX.t 16) (AX.t 22) (AX.c (PV.val (Value.bool false)))) none 8 false true), (AOp.mk (some 7) (AK.mv (AX.t 23)) none 9 false true)])) (AC.ops [(AOp.mk (some 13) (AK.mv (AX.t 8)) none 0 false true), (AOp.mk (some 14) (AK.bin false BinOp.add (AX.t 13) (AX.c (PV.val (Value.int IntKind.i64 1)))) none 1 false true), (AOp.mk (some 8) (AK.mv (AX.t 14)) none 2 false true)])))))) (AC.seq (AC.ops [(AOp.mk (some 24) (AK.mv (AX.t 7)) none 0 false true), (AOp.mk (some 6) (AK.mv (AX.t 24)) none 1 false true)]) AC.ret))))
theorem ac117_ok : cCode Try.prog (fun _ => false) Try.f117.ntmps (Try.f117.body.getD .skip) = some ac117 := by kernel_rfl
def ac80 : AC := (AC.seq (AC.ops [(AOp.mk (some 2) (AK.box 4 (AX.t 0)) none 0 false true), (AOp.mk (some 4) (AK.mv (AX.c (PV.sl SK.full 0 []))) none 1 false true)]) (AC.seq (AC.ops [(AOp.mk (some 7) (AK.bslice false 3 1 0 [(PV.val (Value.int IntKind.i64 0))] []) none 0 false true), (AOp.mk (some 5) (AK.mv (AX.t 7)) none 1 false true)]) (AC.seq (AC.seq (AC.ops [(AOp.mk (some 6) (AK.mv (AX.c (PV.val (Value.int IntKind.i64 0)))) none 0 false true)]) (AC.block 0 (AC.loop (AC.seq (AC.seq (AC.ops [(AOp.mk (some 8) (AK.mv (AX.t 6)) none 0 false true), (AOp.mk (some 9) (AK.ld (some 4) (AX.t 2)) none 1 false true), (AOp.mk (some 10) (AK.call 67 [(AX.t 9)]) none 2 false true), (AOp.mk (some 11) (AK.bin false BinOp.shl (AX.c (PV.val (Value.int IntKind.i64 1))) (AX.t 10)) none 3 false true), (AOp.mk (some 12) (AK.bin false BinOp.lss (AX.t 8) (AX.t 11)) none 4 false true)]) (AC.cond (AX.t 12) AC.skip (AC.exit 0))) (AC.seq (AC.block 1 (AC.seq (AC.ops [(AOp.mk (some 15) (AK.ld (some 4) (AX.t 2)) none 0 false true), (AOp.mk (some 16) (AK.mv (AX.t 6)) none 1 false true), (AOp.mk (some 17) (AK.call 116 [(AX.t 15), (AX.t 16)]) none 2 false true), (AOp.mk (some 18) (AK.mv (AX.t 17)) none 3 false true), (AOp.mk (some 19) (AK.ld (some 4) (AX.t 2)) (some (18, true)) 4 false true), (AOp.mk (some 20) (AK.mv (AX.t 1)) (some (18, true)) 5 false true), (AOp.mk (some 21) (AK.mv (AX.t 6)) (some (18, true)) 6 false true), (AOp.mk (some 22) (AK.call 117 [(AX.t 19), (AX.t 20), (AX.t 21)]) (some (18, true)) 7 false true), (AOp.mk (some 23) (AK.pick (AX.t 18) (AX.t 22) (AX.c (PV.val (Value.bool false)))) none 8 false true)]) (AC.cond (AX.t 23) (AC.ops [(AOp.mk (some 24) (AK.mv (AX.t 5)) none 0 false true), (AOp.mk (some 25) (AK.mv (AX.t 6)) none 1 false true), (AOp.mk (some 26) (AK.bslice false 3 1 1 [(PV.val (Value.int IntKind.i64 0))] [(0, (1, (AX.t 25)))]) none 2 false true), (AOp.mk (some 27) (AK.app false 3 1 8 [(PV.val (Value.int IntKind.i64 0))] (AX.t 24) (AX.t 26)) none 3 false true), (AOp.mk (some 5) (AK.mv (AX.t 27)) none 4 false true)]) AC.skip))) (AC.ops [(AOp.mk (some 13) (AK.mv (AX.t 6)) none 0 false true), (AOp.mk (some 14) (AK.bin false BinOp.add (AX.t 13) (AX.c (PV.val (Value.int IntKind.i64 1)))) none 1 false true), (AOp.mk (some 6) (AK.mv (AX.t 14)) none 2 false true)])))))) (AC.seq (AC.ops [(AOp.mk (some 28) (AK.mv (AX.t 5)) none 0 false true), (AOp.mk (some 4) (AK.mv (AX.t 28)) none 1 false true)]) AC.ret))))
theorem ac80_ok : cCode Try.prog (fun _ => false) Try.f80.ntmps (Try.f80.body.getD .skip) = some ac80 := by kernel_rfl
def ac76 : AC := (AC.seq (AC.ops [(AOp.mk (some 2) (AK.box 4 (AX.t 0)) none 0 false true), (AOp.mk (some 4) (AK.mv (AX.c (PV.val (Value.bool false)))) none 1 false true)]) (AC.seq (AC.ops [(AOp.mk (some 5) (AK.ld (some 4) (AX.t 2)) none 0 false true), (AOp.mk (some 6) (AK.mv (AX.t 1)) none 1 false true), (AOp.mk (some 7) (AK.call 80 [(AX.t 5), (AX.t 6)]) none 2 false true), (AOp.mk (some 8) (AK.len (AX.t 7)) none 3 false true), (AOp.mk (some 9) (AK.bin false BinOp.gtr (AX.t 8) (AX.c (PV.val (Value.int IntKind.i64 0)))) none 4 false true), (AOp.mk (some 4) (AK.mv (AX.t 9)) none 5 false true)]) AC.ret))
theorem ac76_ok : cCode Try.prog (fun _ => false) Try.f76.ntmps (Try.f76.body.getD .skip) = some ac76 := by kernel_rfl
def ac72 : AC := (AC.seq (AC.ops [(AOp.mk (some 1) (AK.box 4 (AX.t 0)) none 0 false true), (AOp.mk (some 2) (AK.mv (AX.c (PV.sl SK.full 0 []))) none 1 false true)]) (AC.seq (AC.ops [(AOp.mk (some 5) (AK.bslice false 3 1 0 [(PV.val (Value.int IntKind.i64 0))] []) none 0 false true), (AOp.mk (some 3) (AK.mv (AX.t 5)) none 1 false true)]) (AC.seq (AC.seq (AC.ops [(AOp.mk (some 4) (AK.mv (AX.c (PV.val (Value.int IntKind.i64 0)))) none 0 false true)]) (AC.block 0 (AC.loop (AC.seq (AC.seq (AC.ops [(AOp.mk (some 6) (AK.mv (AX.t 4)) none 0 false true), (AOp.mk (some 7) (AK.fadr 0 (AX.t 1)) none 1 false true), (AOp.mk (some 8) (AK.ld none (AX.t 7)) none 2 false true), (AOp.mk (some 9) (AK.len (AX.t 8)) none 3 false true), (AOp.mk (some 10) (AK.bin false BinOp.lss (AX.t 6) (AX.t 9)) none 4 false true)]) (AC.cond (AX.t 10) AC.skip (AC.exit 0))) (AC.seq (AC.block 1 (AC.seq (AC.ops [(AOp.mk (some 13) (AK.ld (some 4) (AX.t 1)) none 0 false true), (AOp.mk (some 14) (AK.mv (AX.t 4)) none 1 false true), (AOp.mk (some 15) (AK.call 76 [(AX.t 13), (AX.t 14)]) none 2 false true)]) (AC.cond (AX.t 15) (AC.ops [(AOp.mk (some 16) (AK.mv (AX.t 3)) none 0 false true), (AOp.mk (some 17) (AK.mv (AX.t 4)) none 1 false true), (AOp.mk (some 18) (AK.bslice false 3 1 1 [(PV.val (Value.int IntKind.i64 0))] [(0, (1, (AX.t 17)))]) none 2 false true), (AOp.mk (some 19) (AK.app false 3 1 8 [(PV.val (Value.int IntKind.i64 0))] (AX.t 16) (AX.t 18)) none 3 false true), (AOp.mk (some 3) (AK.mv (AX.t 19)) none 4 false true)]) AC.skip))) (AC.ops [(AOp.mk (some 11) (AK.mv (AX.t 4)) none 0 false true), (AOp.mk (some 12) (AK.bin false BinOp.add (AX.t 11) (AX.c (PV.val (Value.int IntKind.i64 1)))) none 1 false true), (AOp.mk (some 4) (AK.mv (AX.t 12)) none 2 false true)])))))) (AC.seq (AC.ops [(AOp.mk (some 20) (AK.mv (AX.t 3)) none 0 false true), (AOp.mk (some 2) (AK.mv (AX.t 20)) none 1 false true)]) AC.ret))))
theorem ac72_ok : cCode Try.prog (fun _ => false) Try.f72.ntmps (Try.f72.body.getD .skip) = some ac72 := by kernel_rfl
def ac71 : AC := (AC.seq (AC.ops [(AOp.mk (some 2) (AK.box 4 (AX.t 0)) none 0 false true), (AOp.mk (some 4) (AK.mv (AX.c (PV.val (Value.int IntKind.i64 0)))) none 1 false true)]) (AC.seq (AC.seq (AC.ops [(AOp.mk (some 5) (AK.mv (AX.t 1)) none 0 false true), (AOp.mk (some 6) (AK.un UnOp.not (AX.t 5)) none 1 false true)]) (AC.cond (AX.t 6) (AC.seq (AC.ops [(AOp.mk (some 4) (AK.mv (AX.c (PV.val (Value.int IntKind.i64 51)))) none 0 false true)]) AC.ret) AC.skip)) (AC.seq (AC.seq (AC.ops [(AOp.mk (some 7) (AK.ld (some 4) (AX.t 2)) none 0 false true), (AOp.mk (some 8) (AK.call 65 [(AX.t 7)]) none 1 false true), (AOp.mk (some 9) (AK.un UnOp.not (AX.t 8)) none 2 false true)]) (AC.cond (AX.t 9) (AC.seq (AC.ops [(AOp.mk (some 4) (AK.mv (AX.c (PV.val (Value.int IntKind.i64 52)))) none 0 false true)]) AC.ret) AC.skip)) (AC.seq (AC.ops [(AOp.mk (some 4) (AK.mv (AX.c (PV.val (Value.int IntKind.i64 0)))) none 0 false true)]) AC.ret))))
theorem ac71_ok : cCode Try.prog (fun _ => false) Try.f71.ntmps (Try.f71.body.getD .skip) = some ac71 := by kernel_rfl
theorem filt_next (p : Nat → Bool) (j : Nat) : ((natL ((List.range (j + 1)).filter p)).map fun x => [pi x]) = ((natL ((List.range j).filter p)).map fun x => [pi x]) ++ if p j then [[pi j]] else [] := by
  unfold natL
  rw [List.range_succ, List.filter_append, List.map_append, List.map_append]
  congr 1
  cases h : p j <;> simp [h]
theorem filt_len (p : Nat → Bool) (j : Nat) : (natL ((List.range j).filter p)).length ≤ j := by
  rw [natL_len]
  exact Nat.le_trans (List.length_filter_le ..) (by simp)
/-- Is a set of kinds one that repairs can have changed? -/
def chgB (b : MBook) (c : Nat) : Bool := decide (c &&& fixN b = 0) && decide ((cntN c (nK b) : Int) ≤ b.repairs)
section
variable (k k2 : SK) {b : MBook} (ho : okC b)
include ho
theorem rkinds_sem : Sem1 67 [.agg (bookC k k2 b)] (pi (nK b)) := by
  obtain ⟨hz, hfl⟩ := ho.first
  have e0 : iadrS' 1 (.p (.sl k 1 (rowsC b.makers))) (.p (pi 0)) = some (.p (.ptr [pis b.makers[0]] 0)) := iadr_map (f := fun h => [pis h]) (kd := k) (sz := 1) hz
  refine semC_of_exec' mixed Try.func67 (by kernel_rfl) (by kernel_rfl) ac67_ok 1 rfl (by decide) [(.tmp 2)] (by kernel_rfl) ?_
  intro hr C hC hI
  unfold ac67
  simp only [go_sem, Nat.reduceBEq, Nat.reduceAdd, e0, List.length_map, hfl]
  exact retQ_one rfl rfl
theorem risMaker_sem (n : Int) : Sem1 75 [.agg (bookC k k2 b), pi n] (pb (okM b n)) := by
  have h1 := ho.1
  refine semC_of_exec' mixed Try.func75 (by kernel_rfl) (by kernel_rfl) ac75_ok 2 rfl (by decide) [(.tmp 4)] (by kernel_rfl) ?_
  intro hr C hC hI
  unfold ac75
  simp only [go_sem, Nat.reduceBEq, Nat.reduceAdd, List.length_map, wrap_id (n := (b.makers.length : Int) - 1) (by omega) (by omega)]
  refine call_pure2 hC (In_sem n 0 ((b.makers.length : Int) - 1)) rfl (PVleL_refl _) ?_
  rintro r rfl
  simp only [go_sem, Nat.reduceBEq]
  refine retQ_one rfl (congrArg pb (decide_eq_decide.2 ?_))
  omega
theorem risKind_sem (n : Int) : Sem1 68 [.agg (bookC k k2 b), pi n] (pb (okK b n)) := by
  have h1 := ho.2.1
  refine semC_of_exec' mixed Try.func68 (by kernel_rfl) (by kernel_rfl) ac68_ok 2 rfl (by decide) [(.tmp 4)] (by kernel_rfl) ?_
  intro hr C hC hI
  unfold ac68
  simp only [go_sem, Nat.reduceBEq, Nat.reduceAdd]
  refine call_pure2 hC (rkinds_sem k k2 ho) rfl (PVleL_refl _) ?_
  rintro r rfl
  simp only [go_sem, Nat.reduceBEq, wrap_id (n := (nK b : Int) - 1) (by omega) (by omega)]
  refine call_pure2 hC (In_sem n 0 ((nK b : Int) - 1)) rfl (PVleL_refl _) ?_
  rintro r rfl
  simp only [go_sem, Nat.reduceBEq]
  refine retQ_one rfl (congrArg pb (decide_eq_decide.2 ?_))
  omega
theorem rseen_sem (q : Nat) : Sem1 104 [.agg (bookC k k2 b), pi q] (pi (seenN b q : Nat)) := by
  refine semC_of_exec' mixed Try.func104 (by kernel_rfl) (by kernel_rfl) ac104_ok 2 rfl (by decide) [(.tmp 4)] (by kernel_rfl) ?_
  intro hr C hC hI
  unfold ac104
  simp only [go_sem, Nat.reduceBEq, Nat.reduceAdd]
  have hl0 := real_aggL (i := 0) (j := 1) hr rfl rfl
  rw [List.length_map] at hl0
  refine loop_k b.seen.length (fun _ => True) [1, 2] (fun i => [(5, .p (pi (seenL (b.seen.take i) q : Nat))), (6, .p (pi i))]) trivial rfl ⟨rfl, by simp, by simp⟩ (by simp [seenL, wkT, look, AV.lo]) ?_
  rintro i ⟨hi, -⟩
  simp only [go_sem, Nat.reduceBEq, List.length_map]
  refine ⟨fun d5 => ?_, fun d5 => ?_⟩
  · have hi2 : i < b.seen.length := by omega
    obtain ⟨⟨q1, q2⟩, q3, q4⟩ := ho.2.2.2.1 _ (List.getElem_mem hi2)
    have hst := seen_step hi2 q
    have ej := iadr_map (f := fun m : Int × Int => [pi m.1, pi m.2]) (kd := k2) (sz := 2) hi2
    obtain ⟨v, ev⟩ : ∃ v : Nat, b.seen[i].2 = v := ⟨b.seen[i].2.toNat, by omega⟩
    have hand : binS false .and (.p (pi (seenL (b.seen.take i) q : Nat))) (.p (pi b.seen[i].2)) = some (.p (pi ((seenL (b.seen.take i) q &&& v : Nat) : Int))) := by
      rw [ev]
      exact bin_andN (by have := seenL_le (b.seen.take i) q; omega) (by omega)
    rw [ev, Int.toNat_natCast] at hst
    simp only [go_sem, Nat.reduceBEq, ej]
    refine ⟨fun e5 => ?_, fun e5 => ?_⟩
    · rw [if_pos e5] at hst
      simp only [go_sem, Nat.reduceBEq, hand, wrap_succ (k := i) (by omega)]
      refine ⟨⟨i + 1, hi2, trivial⟩, by simp only; omega, ?_⟩
      simp only [hst]
      exact by simp [Wk, wkT, wkL, look, AV.lo, AV.lo.loL, ABlk.toZ]
    · rw [if_neg e5] at hst
      simp only [go_sem, wrap_succ (k := i) (by omega)]
      refine ⟨⟨i + 1, hi2, trivial⟩, by simp only; omega, ?_⟩
      simp only [hst]
      exact by simp [Wk, wkT, wkL, look, AV.lo, AV.lo.loL, ABlk.toZ]
  · have hin : i = b.seen.length := by omega
    subst hin
    rw [List.take_length]
    exact retQ_one rfl rfl
theorem rright_sem : Sem1 65 [.agg (bookC k k2 b)] (pb (rightB b)) := by
  have h2 := ho.2.1
  refine semC_of_exec' mixed Try.func65 (by kernel_rfl) (by kernel_rfl) ac65_ok 1 rfl (by decide) [(.tmp 2)] (by kernel_rfl) ?_
  intro hr C hC hI
  unfold ac65
  simp only [go_sem, Nat.reduceBEq, Nat.reduceAdd]
  refine loop_k (nK b) (fun _ => True) [1] (fun j => [(3, .p (pb ((List.range j).all fun q => decide (seenN b q ≠ 0)))), (4, .p (pi j))]) trivial rfl ⟨rfl, by simp, by simp⟩ (by simp [wkT, look, AV.lo]) ?_
  rintro j ⟨hj, -⟩
  simp only [go_sem, Nat.reduceBEq, Nat.reduceAdd]
  refine call_pure2 hC (rkinds_sem k k2 ho) rfl (PVleL_refl _) ?_
  rintro r rfl
  simp only [go_sem, Nat.reduceBEq]
  refine ⟨fun d5 => ?_, fun d5 => ?_⟩
  · have hj2 : j < nK b := by omega
    have hn : ((List.range (j + 1)).all fun q => decide (seenN b q ≠ 0)) = (((List.range j).all fun q => decide (seenN b q ≠ 0)) && decide (seenN b j ≠ 0)) := by
      rw [List.range_succ, List.all_append]
      simp
    have hd : decide (¬ (seenN b j : Int) = 0) = decide (seenN b j ≠ 0) := decide_eq_decide.2 (by omega)
    cases ha : (List.range j).all fun q => decide (seenN b q ≠ 0)
    · rw [ha, Bool.false_and] at hn
      simp only [go_sem, Nat.reduceBEq, wrap_succ (k := j) (by omega)]
      refine ⟨⟨j + 1, hj2, trivial⟩, by simp only; omega, ?_⟩
      simp only [hn]
      exact by simp [Wk, wkT, wkL, look, AV.lo, AV.lo.loL, ABlk.toZ]
    · rw [ha, Bool.true_and] at hn
      simp only [go_sem, Nat.reduceBEq, Nat.reduceAdd]
      refine call_pure2 hC (rseen_sem k k2 ho j) rfl (PVleL_refl _) ?_
      rintro r rfl
      simp only [go_sem, Nat.reduceBEq, hd, wrap_succ (k := j) (by omega)]
      refine ⟨⟨j + 1, hj2, trivial⟩, by simp only; omega, ?_⟩
      simp only [hn]
      exact by simp [Wk, wkT, wkL, look, AV.lo, AV.lo.loL, ABlk.toZ]
  · have hjn : j = nK b := by omega
    subst hjn
    exact retQ_one rfl rfl
theorem rvalues_sem {m q : Nat} (hm : m < b.makers.length) (hq : q < nK b) (c : Nat) : Sem1 120 [.agg (bookC k k2 b), pi m, pi c, pi q] (pi (valN b m c q : Nat)) := by
  have h2 := ho.2.1
  have em2 := iadr_map (f := fun h => [pis h]) (kd := k) (sz := 1) hm
  obtain ⟨hrow, hrx⟩ := ho.row hm
  have hjl : q < b.makers[m].length := by omega
  obtain ⟨k1, k3, k4⟩ := ho.mk hm hq
  have hval := mk_get hm hjl
  rw [k4] at hval
  have hand : binS false .and (.p (pi (seenN b q : Nat))) (.p (pi (mkN b m q : Nat))) = some (.p (pi (ownN b m q : Nat))) := by
    unfold ownN
    rw [Nat.and_comm]
    exact bin_andN (by have := seen_le b q; omega) (by omega)
  have hv : valN b m c q = if c.testBit q then seenN b q else ownN b m q := rfl
  refine semC_of_exec' mixed Try.func120 (by kernel_rfl) (by kernel_rfl) ac120_ok 4 rfl (by decide) [(.tmp 8)] (by kernel_rfl) ?_
  intro hr C hC hI
  unfold ac120
  simp only [go_sem, Nat.reduceBEq, Nat.reduceAdd]
  refine call_pure2 hC (Of_sem (c : Nat) q (by omega)) rfl (PVleL_refl _) ?_
  rintro r rfl
  simp only [go_sem, Nat.reduceBEq, of_bit (s := c) (i := q) (by omega)]
  cases hb : c.testBit q
  · rw [hb, if_neg (by decide)] at hv
    rw [hv]
    simp only [go_sem, Nat.reduceBEq, Nat.reduceAdd, em2, iadr_pis hjl, hval]
    refine call_pure2 hC (rseen_sem k k2 ho q) rfl (PVleL_refl _) ?_
    rintro r rfl
    simp only [go_sem, Nat.reduceBEq, hand]
    exact retQ_one rfl rfl
  · rw [hb, if_pos rfl] at hv
    rw [hv]
    simp only [go_sem, Nat.reduceBEq, Nat.reduceAdd]
    refine call_pure2 hC (rseen_sem k k2 ho q) rfl (PVleL_refl _) ?_
    rintro r rfl
    simp only [go_sem, Nat.reduceBEq]
    exact retQ_one rfl rfl
theorem rchanges_sem {c : Nat} (hc : c < 2 ^ nK b) : Sem1 116 [.agg (bookC k k2 b), pi c] (pb (chgB b c)) := by
  have h2 := ho.2.1
  have h64 := pow_le64 ho
  obtain ⟨hfx, hfl⟩ := ho.fix
  have hcl : (listI (c : Nat) (nK b)).length = cntN c (nK b) := by
    unfold listI cntN
    rw [List.length_map]
    exact filt_eq fun i hi => by rw [of_bit (by omega)]
  have hand : binS false .and (.p (pi (c : Nat))) (.p (pi b.fixed)) = some (.p (pi ((c &&& fixN b : Nat) : Int))) := by
    rw [hfx]
    exact bin_andN (by omega) (by omega)
  have hd : decide (((c &&& fixN b : Nat) : Int) = 0) = decide (c &&& fixN b = 0) := decide_eq_decide.2 (by omega)
  have hL := List_sem (c : Nat) (nK b) (by omega)
  have he : chgB b c = (decide (c &&& fixN b = 0) && decide ((cntN c (nK b) : Int) ≤ b.repairs)) := rfl
  obtain ⟨z, hz⟩ : ∃ z, decide (c &&& fixN b = 0) = z := ⟨_, rfl⟩
  rw [hz] at hd he
  rw [he]
  refine semC_of_exec' mixed Try.func116 (by kernel_rfl) (by kernel_rfl) ac116_ok 2 rfl (by decide) [(.tmp 4)] (by kernel_rfl) ?_
  intro hr C hC hI
  unfold ac116
  simp only [go_sem, Nat.reduceBEq, Nat.reduceAdd, hand, hd]
  cases z
  · simp only [go_sem, Nat.reduceBEq]
    exact retQ_one rfl rfl
  · simp only [go_sem, Nat.reduceBEq, Nat.reduceAdd]
    refine call_pure2 hC (rkinds_sem k k2 ho) rfl (PVleL_refl _) ?_
    rintro r rfl
    simp only [go_sem, Nat.reduceBEq]
    refine call_pure2 hC (hL) rfl (PVleL_refl _) ?_
    rintro r rfl
    simp only [go_sem, Nat.reduceBEq, List.length_map, hcl]
    exact retQ_one rfl rfl
def fitB (b : MBook) (m c j : Nat) : Bool := (List.range j).all fun q => decide (valN b m c q ≠ 0)
theorem rfits_sem {m : Nat} (hm : m < b.makers.length) (c : Nat) : Sem1 117 [.agg (bookC k k2 b), pi m, pi c] (pb (fitB b m c (nK b))) := by
  have h2 := ho.2.1
  refine semC_of_exec' mixed Try.func117 (by kernel_rfl) (by kernel_rfl) ac117_ok 3 rfl (by decide) [(.tmp 6)] (by kernel_rfl) ?_
  intro hr C hC hI
  unfold ac117
  simp only [go_sem, Nat.reduceBEq, Nat.reduceAdd]
  refine loop_k (nK b) (fun _ => True) [1, 2, 3] (fun j => [(7, .p (pb (fitB b m c j))), (8, .p (pi j))]) trivial rfl ⟨rfl, by simp, by simp⟩ (by simp [fitB, wkT, look, AV.lo]) ?_
  rintro j ⟨hj, -⟩
  simp only [go_sem, Nat.reduceBEq, Nat.reduceAdd]
  refine call_pure2 hC (rkinds_sem k k2 ho) rfl (PVleL_refl _) ?_
  rintro r rfl
  simp only [go_sem, Nat.reduceBEq]
  refine ⟨fun d5 => ?_, fun d5 => ?_⟩
  · have hj2 : j < nK b := by omega
    have hn : fitB b m c (j + 1) = (fitB b m c j && decide (valN b m c j ≠ 0)) := by
      unfold fitB
      rw [List.range_succ, List.all_append]
      simp
    have hd : decide (¬ (valN b m c j : Int) = 0) = decide (valN b m c j ≠ 0) := decide_eq_decide.2 (by omega)
    cases ha : fitB b m c j
    · rw [ha, Bool.false_and] at hn
      simp only [go_sem, Nat.reduceBEq, wrap_succ (k := j) (by omega)]
      refine ⟨⟨j + 1, hj2, trivial⟩, by simp only; omega, ?_⟩
      simp only [hn]
      exact by simp [Wk, wkT, wkL, look, AV.lo, AV.lo.loL, ABlk.toZ]
    · rw [ha, Bool.true_and] at hn
      simp only [go_sem, Nat.reduceBEq, Nat.reduceAdd]
      refine call_pure2 hC (rvalues_sem k k2 ho hm hj2 c) rfl (PVleL_refl _) ?_
      rintro r rfl
      simp only [go_sem, Nat.reduceBEq, hd, wrap_succ (k := j) (by omega)]
      refine ⟨⟨j + 1, hj2, trivial⟩, by simp only; omega, ?_⟩
      simp only [hn]
      exact by simp [Wk, wkT, wkL, look, AV.lo, AV.lo.loL, ABlk.toZ]
  · have hjn : j = nK b := by omega
    subst hjn
    exact retQ_one rfl rfl
theorem rtruths_sem {m : Nat} (hm : m < b.makers.length) : Sem1 80 [.agg (bookC k k2 b), pi m] (pis (natL (truthsL b m))) := by
  have h2 := ho.2.1
  have h64 := pow_le64 ho
  have hsl := shl6 (m := nK b) (by omega)
  refine semC_of_exec' mixed Try.func80 (by kernel_rfl) (by kernel_rfl) ac80_ok 2 rfl (by decide) [(.tmp 4)] (by kernel_rfl) ?_
  intro hr C hC hI
  unfold ac80
  simp only [go_sem, Nat.reduceBEq, Nat.reduceAdd]
  refine loop_g (α := Nat × Option Nat) (fun a => a.1 ≤ 2 ^ nK b ∧ (a.2 = none → ((natL ((List.range a.1).filter (truthB b m))).map fun x => [pi x]) = [])) (fun a => 2 ^ nK b - a.1) [1, 2] (fun a => [(5, .p (slG 3 a.2 ((natL ((List.range a.1).filter (truthB b m))).map fun x => [pi x]))), (6, .p (pi a.1))]) (fun _ => [.cells ((bookC k k2 b).map .p)]) (fun a => a.2.toList) (0, none) ⟨Nat.zero_le _, fun _ => rfl⟩ (by simp [Wk, wkT, wkL, look, AV.lo, AV.lo.loL, upS_eq, keepS_nil, keepS_cons, slG]) ?_
  rintro ⟨j, o⟩ ⟨hj, h0⟩
  replace hj : j ≤ 2 ^ nK b := hj
  replace h0 : o = none → ((natL ((List.range j).filter (truthB b m))).map fun x => [pi x]) = [] := h0
  have hnx := filt_next (truthB b m) j
  have hfl := filt_len (truthB b m) j
  simp only [go_sem, Nat.reduceBEq, Nat.reduceAdd]
  refine call_pure2 hC (rkinds_sem k k2 ho) rfl (PVleL_refl _) ?_
  rintro r rfl
  simp only [go_sem, Nat.reduceBEq, Nat.reduceAdd, bin_shl (show ¬ (nK b : Int) < 0 by omega), hsl]
  refine ⟨fun c5 => ?_, fun c5 => ?_⟩
  · have hj2 : j < 2 ^ nK b := by omega
    have ht : truthB b m j = (chgB b j && fitB b m j (nK b)) := rfl
    have stay : truthB b m j = false → ((natL ((List.range (j + 1)).filter (truthB b m))).map fun x => [pi x]) = ((natL ((List.range j).filter (truthB b m))).map fun x => [pi x]) := fun h => by
      rw [hnx, h]
      simp
    refine call_pure2 hC (rchanges_sem k k2 ho hj2) rfl (PVleL_refl _) ?_
    rintro r rfl
    simp only [go_sem, Nat.reduceBEq]
    cases hch : chgB b j
    · rw [hch, Bool.false_and] at ht
      have hst := stay ht
      simp only [go_sem, Nat.reduceBEq, wrap_succ (k := j) (by omega)]
      refine ⟨⟨(j + 1, o), hj2, fun h => by show ((natL ((List.range (j + 1)).filter (truthB b m))).map fun x => [pi x]) = []; rw [hst]; exact h0 h⟩, by simp only; omega, ?_⟩
      simp only [hst]
      cases o <;> simp [Wk, wkT, wkL, look, AV.lo, AV.lo.loL]
    · rw [hch, Bool.true_and] at ht
      simp only [go_sem, Nat.reduceBEq, Nat.reduceAdd]
      refine call_pure2 hC (rfits_sem k k2 ho hm j) rfl (PVleL_refl _) ?_
      rintro r rfl
      simp only [go_sem, Nat.reduceBEq]
      cases hfi : fitB b m j (nK b)
      · rw [hfi] at ht
        have hst := stay ht
        simp only [go_sem, Nat.reduceBEq, wrap_succ (k := j) (by omega)]
        refine ⟨⟨(j + 1, o), hj2, fun h => by show ((natL ((List.range (j + 1)).filter (truthB b m))).map fun x => [pi x]) = []; rw [hst]; exact h0 h⟩, by simp only; omega, ?_⟩
        simp only [hst]
        cases o <;> simp [Wk, wkT, wkL, look, AV.lo, AV.lo.loL]
      · rw [hfi] at ht
        rw [ht, if_pos rfl] at hnx
        simp only [go_sem, Nat.reduceBEq]
        refine app_slG h0 (by rw [List.length_map]; omega) (by simp) fun tk htk => ?_
        simp only [go_sem, Nat.reduceBEq, wrap_succ (k := j) (by omega)]
        refine ⟨⟨(j + 1, some tk), hj2, (fun h => by cases h)⟩, by simp only; omega, ?_⟩
        simp only [hnx]
        refine ⟨by simp [wkT, look, AV.lo], by simp [wkL, AV.lo, AV.lo.loL, ABlk.toZ], by simp, by simp, rfl, rfl, by simp⟩
  · have hjn : j = 2 ^ nK b := by omega
    subst hjn
    exact retQ_slG h0 rfl rfl
theorem rpossible_sem {m : Nat} (hm : m < b.makers.length) : Sem1 76 [.agg (bookC k k2 b), pi m] (pb (possB b m)) := by
  refine semC_of_exec' mixed Try.func76 (by kernel_rfl) (by kernel_rfl) ac76_ok 2 rfl (by decide) [(.tmp 4)] (by kernel_rfl) ?_
  intro hr C hC hI
  unfold ac76
  simp only [go_sem, Nat.reduceBEq, Nat.reduceAdd]
  refine call_pure2 hC (rtruths_sem k k2 ho hm) rfl (PVleL_refl _) ?_
  rintro r rfl
  simp only [go_sem, Nat.reduceBEq, List.length_map, natL_len]
  refine retQ_one rfl (congrArg pb (decide_eq_decide.2 ?_))
  rw [Int.natCast_pos, List.length_pos_iff]
theorem rwho_sem : Sem1 72 [.agg (bookC k k2 b)] (pis (natL (whoL b))) := by
  have h1 := ho.1
  refine semC_of_exec' mixed Try.func72 (by kernel_rfl) (by kernel_rfl) ac72_ok 1 rfl (by decide) [(.tmp 2)] (by kernel_rfl) ?_
  intro hr C hC hI
  unfold ac72
  simp only [go_sem, Nat.reduceBEq, Nat.reduceAdd]
  refine loop_g (α := Nat × Option Nat) (fun a => a.1 ≤ b.makers.length ∧ (a.2 = none → ((natL ((List.range a.1).filter (possB b))).map fun x => [pi x]) = [])) (fun a => b.makers.length - a.1) [1] (fun a => [(3, .p (slG 3 a.2 ((natL ((List.range a.1).filter (possB b))).map fun x => [pi x]))), (4, .p (pi a.1))]) (fun _ => [.cells ((bookC k k2 b).map .p)]) (fun a => a.2.toList) (0, none) ⟨by omega, fun _ => rfl⟩ (by simp [Wk, wkT, wkL, look, AV.lo, AV.lo.loL, upS_eq, keepS_nil, keepS_cons, slG]) ?_
  rintro ⟨j, o⟩ ⟨hj, h0⟩
  replace hj : j ≤ b.makers.length := hj
  replace h0 : o = none → ((natL ((List.range j).filter (possB b))).map fun x => [pi x]) = [] := h0
  have hnx := filt_next (possB b) j
  have hfl := filt_len (possB b) j
  simp only [go_sem, Nat.reduceBEq, Nat.reduceAdd, List.length_map]
  refine ⟨fun c5 => ?_, fun c5 => ?_⟩
  · have hj2 : j < b.makers.length := by omega
    refine call_pure2 hC (rpossible_sem k k2 ho hj2) rfl (PVleL_refl _) ?_
    rintro r rfl
    simp only [go_sem, Nat.reduceBEq]
    cases hp : possB b j
    · have hst : ((natL ((List.range (j + 1)).filter (possB b))).map fun x => [pi x]) = ((natL ((List.range j).filter (possB b))).map fun x => [pi x]) := by
        rw [hnx, hp]
        simp
      simp only [go_sem, Nat.reduceBEq, wrap_succ (k := j) (by omega)]
      refine ⟨⟨(j + 1, o), hj2, fun h => by show ((natL ((List.range (j + 1)).filter (possB b))).map fun x => [pi x]) = []; rw [hst]; exact h0 h⟩, by simp only; omega, ?_⟩
      simp only [hst]
      cases o <;> simp [Wk, wkT, wkL, look, AV.lo, AV.lo.loL]
    · rw [hp, if_pos rfl] at hnx
      simp only [go_sem, Nat.reduceBEq]
      refine app_slG h0 (by rw [List.length_map]; omega) (by simp) fun tk htk => ?_
      simp only [go_sem, Nat.reduceBEq, wrap_succ (k := j) (by omega)]
      refine ⟨⟨(j + 1, some tk), hj2, (fun h => by cases h)⟩, by simp only; omega, ?_⟩
      simp only [hnx]
      refine ⟨by simp [wkT, look, AV.lo], by simp [wkL, AV.lo, AV.lo.loL, ABlk.toZ], by simp, by simp, rfl, rfl, by simp⟩
  · have hjn : j = b.makers.length := by omega
    subst hjn
    exact retQ_slG h0 rfl rfl
theorem rasked_sem (ok : Bool) : Sem1 71 [.agg (bookC k k2 b), pb ok] (pi (if ok then (if rightB b then 0 else 52) else 51)) := by
  refine semC_of_exec' mixed Try.func71 (by kernel_rfl) (by kernel_rfl) ac71_ok 2 rfl (by decide) [(.tmp 4)] (by kernel_rfl) ?_
  intro hr C hC hI
  unfold ac71
  simp only [go_sem, Nat.reduceBEq, Nat.reduceAdd]
  cases ok
  · simp only [go_sem, Nat.reduceBEq]
    exact retQ_one rfl rfl
  · simp only [go_sem, Nat.reduceBEq, Nat.reduceAdd]
    refine call_pure2 hC (rright_sem k k2 ho) rfl (PVleL_refl _) ?_
    rintro r rfl
    simp only [go_sem, Nat.reduceBEq]
    cases rightB b
    · simp only [go_sem, Nat.reduceBEq]
      exact retQ_one rfl rfl
    · simp only [go_sem, Nat.reduceBEq]
      exact retQ_one rfl rfl
end
end Go.Proofs.Ythaplmohhbdfeaa.Mk
