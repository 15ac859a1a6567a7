/- Contracts of dapple: sets, what is valid. -/
import Derived.Test.YtlbolnlcncjijaaGreatGa15
namespace Go.Proofs.YtlbolnlcncjijaaGreat
open Go.RowKit
def ac48 : AC := (AC.seq (AC.ops [(AOp.mk (some 6) (AK.mv (AX.c (PV.val (Value.bool false)))) none 0 false true)]) (AC.seq (AC.ops [(AOp.mk (some 7) (AK.mv (AX.t 1)) none 0 false true), (AOp.mk (some 8) (AK.mv (AX.t 0)) none 1 false true), (AOp.mk (some 9) (AK.bin false BinOp.leq (AX.t 7) (AX.t 8)) none 2 false true), (AOp.mk (some 10) (AK.mv (AX.t 9)) none 3 false true), (AOp.mk (some 11) (AK.mv (AX.t 0)) (some (10, true)) 4 false true), (AOp.mk (some 12) (AK.mv (AX.t 2)) (some (10, true)) 5 false true), (AOp.mk (some 13) (AK.bin false BinOp.leq (AX.t 11) (AX.t 12)) (some (10, true)) 6 false true), (AOp.mk (some 14) (AK.pick (AX.t 10) (AX.t 13) (AX.c (PV.val (Value.bool false)))) none 7 false true), (AOp.mk (some 6) (AK.mv (AX.t 14)) none 8 false true)]) AC.ret))
theorem ac48_ok : cCode Tryz.prog (fun _ => false) Tryz.f48.ntmps (Tryz.f48.body.getD .skip) = some ac48 := by kernel_rfl
def ac51 : AC := (AC.seq (AC.ops [(AOp.mk (some 2) (AK.mv (AX.c (PV.val (Value.int IntKind.i64 0)))) none 0 false true)]) (AC.seq (AC.ops [(AOp.mk (some 3) (AK.mv (AX.t 0)) none 0 false true), (AOp.mk (some 4) (AK.bin false BinOp.shl (AX.c (PV.val (Value.int IntKind.i64 1))) (AX.t 3)) none 1 false true), (AOp.mk (some 2) (AK.mv (AX.t 4)) none 2 false true)]) AC.ret))
theorem ac51_ok : cCode Tryz.prog (fun _ => false) Tryz.f51.ntmps (Tryz.f51.body.getD .skip) = some ac51 := by kernel_rfl
def ac98 : AC := (AC.seq (AC.ops [(AOp.mk (some 2) (AK.mv (AX.c (PV.val (Value.bool false)))) none 0 false true)]) (AC.seq (AC.ops [(AOp.mk (some 3) (AK.mv (AX.t 0)) none 0 false true), (AOp.mk (some 4) (AK.mv (AX.t 0)) none 1 false true), (AOp.mk (some 5) (AK.bin false BinOp.sub (AX.t 4) (AX.c (PV.val (Value.int IntKind.i64 1)))) none 2 false true), (AOp.mk (some 6) (AK.bin false BinOp.and (AX.t 3) (AX.t 5)) none 3 false true), (AOp.mk (some 7) (AK.bin false BinOp.neq (AX.t 6) (AX.c (PV.val (Value.int IntKind.i64 0)))) none 4 false true), (AOp.mk (some 2) (AK.mv (AX.t 7)) none 5 false true)]) AC.ret))
theorem ac98_ok : cCode Tryz.prog (fun _ => false) Tryz.f98.ntmps (Tryz.f98.body.getD .skip) = some ac98 := by kernel_rfl
def ac80 : AC := (AC.seq (AC.ops [(AOp.mk (some 4) (AK.mv (AX.c (PV.val (Value.bool false)))) none 0 false true)]) (AC.seq (AC.ops [(AOp.mk (some 5) (AK.mv (AX.t 0)) none 0 false true), (AOp.mk (some 6) (AK.mv (AX.t 1)) none 1 false true), (AOp.mk (some 7) (AK.bin false BinOp.and (AX.t 5) (AX.t 6)) none 2 false true), (AOp.mk (some 8) (AK.bin false BinOp.neq (AX.t 7) (AX.c (PV.val (Value.int IntKind.i64 0)))) none 3 false true), (AOp.mk (some 4) (AK.mv (AX.t 8)) none 4 false true)]) AC.ret))
theorem ac80_ok : cCode Tryz.prog (fun _ => false) Tryz.f80.ntmps (Tryz.f80.body.getD .skip) = some ac80 := by kernel_rfl
def ac79 : AC := (AC.seq (AC.ops [(AOp.mk (some 4) (AK.mv (AX.c (PV.val (Value.bool false)))) none 0 false true)]) (AC.seq (AC.ops [(AOp.mk (some 4) (AK.mv (AX.c (PV.val (Value.bool true)))) none 0 false true)]) AC.ret))
theorem ac79_ok : cCode Tryz.prog (fun _ => false) Tryz.f79.ntmps (Tryz.f79.body.getD .skip) = some ac79 := by kernel_rfl
def ac81 : AC := (AC.seq (AC.ops [(AOp.mk (some 4) (AK.mv (AX.c (PV.val (Value.bool false)))) none 0 false true)]) (AC.seq (AC.ops [(AOp.mk (some 5) (AK.mv (AX.t 0)) none 0 false true), (AOp.mk (some 6) (AK.mv (AX.t 1)) none 1 false true), (AOp.mk (some 7) (AK.bin false BinOp.eql (AX.t 5) (AX.t 6)) none 2 false true), (AOp.mk (some 8) (AK.mv (AX.t 7)) none 3 false true), (AOp.mk (some 9) (AK.mv (AX.t 0)) (some (8, true)) 4 false true), (AOp.mk (some 10) (AK.call 98 [(AX.t 9)]) (some (8, true)) 5 false true), (AOp.mk (some 11) (AK.un UnOp.not (AX.t 10)) (some (8, true)) 6 false true), (AOp.mk (some 12) (AK.pick (AX.t 8) (AX.t 11) (AX.c (PV.val (Value.bool false)))) none 7 false true), (AOp.mk (some 4) (AK.mv (AX.t 12)) none 8 false true)]) AC.ret))
theorem ac81_ok : cCode Tryz.prog (fun _ => false) Tryz.f81.ntmps (Tryz.f81.body.getD .skip) = some ac81 := by kernel_rfl
def ac37 : AC := (AC.seq (AC.ops [(AOp.mk (some 2) (AK.new (PV.agg [(PV.val (Value.int IntKind.i64 0)), (PV.val (Value.int IntKind.i64 0))])) none 0 false true)]) (AC.seq (AC.ops [(AOp.mk (some 3) (AK.mv (AX.t 0)) none 0 false true), (AOp.mk (some 4) (AK.build [(PV.val (Value.int IntKind.i64 0)), (PV.val (Value.int IntKind.i64 0))] [(0, (1, (AX.t 3)))]) none 1 false true), (AOp.mk none (AK.st 2 (AX.t 2) (AX.t 4)) none 2 false true)]) AC.ret))
theorem ac37_ok : cCode Tryz.prog (fun _ => false) Tryz.f37.ntmps (Tryz.f37.body.getD .skip) = some ac37 := by kernel_rfl
def ac77 : AC := (AC.seq (AC.ops [(AOp.mk (some 2) (AK.mv (AX.c (PV.val (Value.bool false)))) none 0 false true)]) (AC.seq (AC.ops [(AOp.mk (some 3) (AK.mv (AX.t 0)) none 0 false true), (AOp.mk (some 4) (AK.call 48 [(AX.t 3), (AX.c (PV.val (Value.int IntKind.i64 1))), (AX.c (PV.val (Value.int IntKind.i64 15)))]) none 1 false true), (AOp.mk (some 5) (AK.un UnOp.not (AX.t 4)) none 2 false true), (AOp.mk (some 2) (AK.mv (AX.t 5)) none 3 false true)]) AC.ret))
theorem ac77_ok : cCode Tryz.prog (fun _ => false) Tryz.f77.ntmps (Tryz.f77.body.getD .skip) = some ac77 := by kernel_rfl
def ac56 : AC := (AC.seq (AC.ops [(AOp.mk (some 2) (AK.box 2 (AX.t 0)) none 0 false true), (AOp.mk (some 4) (AK.mv (AX.c (PV.val (Value.bool false)))) none 1 false true)]) (AC.seq (AC.ops [(AOp.mk (some 5) (AK.mv (AX.c (PV.val (Value.func (Fn.func 77) #[] #[])))) none 0 false true)]) (AC.seq (AC.ops [(AOp.mk (some 6) (AK.mv (AX.t 1)) none 0 false true), (AOp.mk (some 7) (AK.len (AX.t 6)) none 1 false true), (AOp.mk (some 8) (AK.fadr 0 (AX.t 2)) none 2 false true), (AOp.mk (some 9) (AK.ld none (AX.t 8)) none 3 false true), (AOp.mk (some 10) (AK.bin false BinOp.eql (AX.t 7) (AX.t 9)) none 4 false true), (AOp.mk (some 11) (AK.mv (AX.t 10)) none 5 false true), (AOp.mk (some 12) (AK.mv (AX.t 1)) (some (11, true)) 6 false true), (AOp.mk (some 13) (AK.mv (AX.t 5)) (some (11, true)) 7 false true), (AOp.mk (some 14) (AK.call 49 [(AX.t 12), (AX.t 13)]) (some (11, true)) 8 false true), (AOp.mk (some 15) (AK.un UnOp.not (AX.t 14)) (some (11, true)) 9 false true), (AOp.mk (some 16) (AK.pick (AX.t 11) (AX.t 15) (AX.c (PV.val (Value.bool false)))) none 10 false true), (AOp.mk (some 4) (AK.mv (AX.t 16)) none 11 false true)]) AC.ret)))
theorem ac56_ok : cCode Tryz.prog (fun _ => false) Tryz.f56.ntmps (Tryz.f56.body.getD .skip) = some ac56 := by kernel_rfl
def ac55 : AC := (AC.seq (AC.ops [(AOp.mk (some 3) (AK.mv (AX.c (PV.val (Value.bool false)))) none 0 false true)]) (AC.seq (AC.ops [(AOp.mk (some 4) (AK.ld (some 2) (AX.t 1)) none 0 false true), (AOp.mk (some 5) (AK.mv (AX.t 0)) none 1 false true), (AOp.mk (some 6) (AK.call 56 [(AX.t 4), (AX.t 5)]) none 2 false true), (AOp.mk (some 7) (AK.un UnOp.not (AX.t 6)) none 3 false true), (AOp.mk (some 3) (AK.mv (AX.t 7)) none 4 false true)]) AC.ret))
theorem ac55_ok : cCode Tryz.prog (fun _ => false) Tryz.f55.ntmps (Tryz.f55.body.getD .skip) = some ac55 := by kernel_rfl
def ac32 : AC := (AC.seq (AC.ops [(AOp.mk (some 1) (AK.box 2 (AX.t 0)) none 0 false true), (AOp.mk (some 2) (AK.mv (AX.c (PV.val (Value.bool false)))) none 1 false true)]) (AC.seq (AC.ops [(AOp.mk (some 4) (AK.mkf 55 [] [(AX.t 1)]) none 0 false true), (AOp.mk (some 3) (AK.mv (AX.t 4)) none 1 false true)]) (AC.seq (AC.ops [(AOp.mk (some 5) (AK.fadr 0 (AX.t 1)) none 0 false true), (AOp.mk (some 6) (AK.ld none (AX.t 5)) none 1 false true), (AOp.mk (some 7) (AK.call 48 [(AX.t 6), (AX.c (PV.val (Value.int IntKind.i64 1))), (AX.c (PV.val (Value.int IntKind.i64 8)))]) none 2 false true), (AOp.mk (some 8) (AK.mv (AX.t 7)) none 3 false true), (AOp.mk (some 9) (AK.fadr 1 (AX.t 1)) (some (8, true)) 4 false true), (AOp.mk (some 10) (AK.ld none (AX.t 9)) (some (8, true)) 5 false true), (AOp.mk (some 11) (AK.len (AX.t 10)) (some (8, true)) 6 false true), (AOp.mk (some 12) (AK.call 48 [(AX.t 11), (AX.c (PV.val (Value.int IntKind.i64 1))), (AX.c (PV.val (Value.int IntKind.i64 6)))]) (some (8, true)) 7 false true), (AOp.mk (some 13) (AK.pick (AX.t 8) (AX.t 12) (AX.c (PV.val (Value.bool false)))) none 8 false true), (AOp.mk (some 14) (AK.mv (AX.t 13)) none 9 false true), (AOp.mk (some 15) (AK.fadr 1 (AX.t 1)) (some (14, true)) 10 false true), (AOp.mk (some 16) (AK.ld none (AX.t 15)) (some (14, true)) 11 false true), (AOp.mk (some 17) (AK.mv (AX.t 3)) (some (14, true)) 12 false true), (AOp.mk (some 18) (AK.call 57 [(AX.t 16), (AX.t 17)]) (some (14, true)) 13 false true), (AOp.mk (some 19) (AK.un UnOp.not (AX.t 18)) (some (14, true)) 14 false true), (AOp.mk (some 20) (AK.pick (AX.t 14) (AX.t 19) (AX.c (PV.val (Value.bool false)))) none 15 false true), (AOp.mk (some 2) (AK.mv (AX.t 20)) none 16 false true)]) AC.ret)))
theorem ac32_ok : cCode Tryz.prog (fun _ => false) Tryz.f32.ntmps (Tryz.f32.body.getD .skip) = some ac32 := by kernel_rfl
def ac17 : AC := (AC.seq (AC.ops [(AOp.mk (some 1) (AK.box 2 (AX.t 0)) none 0 false true), (AOp.mk (some 2) (AK.mv (AX.c (PV.val (Value.int IntKind.i64 0)))) none 1 false true)]) (AC.seq (AC.seq (AC.ops [(AOp.mk (some 3) (AK.ld (some 2) (AX.t 1)) none 0 false true), (AOp.mk (some 4) (AK.call 32 [(AX.t 3)]) none 1 false true), (AOp.mk (some 5) (AK.un UnOp.not (AX.t 4)) none 2 false true)]) (AC.cond (AX.t 5) (AC.seq (AC.ops [(AOp.mk (some 2) (AK.mv (AX.c (PV.val (Value.int IntKind.i64 70)))) none 0 false true)]) AC.ret) AC.skip)) (AC.seq (AC.ops [(AOp.mk (some 2) (AK.mv (AX.c (PV.val (Value.int IntKind.i64 0)))) none 0 false true)]) AC.ret)))
theorem ac17_ok : cCode Tryz.prog (fun _ => false) Tryz.f17.ntmps (Tryz.f17.body.getD .skip) = some ac17 := by kernel_rfl
def ac58 : AC := (AC.seq (AC.ops [(AOp.mk (some 2) (AK.box 2 (AX.t 0)) none 0 false true), (AOp.mk (some 4) (AK.mv (AX.c (PV.val (Value.bool false)))) none 1 false true)]) (AC.seq (AC.ops [(AOp.mk (some 5) (AK.mv (AX.t 1)) none 0 false true), (AOp.mk (some 6) (AK.fadr 1 (AX.t 2)) none 1 false true), (AOp.mk (some 7) (AK.ld none (AX.t 6)) none 2 false true), (AOp.mk (some 8) (AK.len (AX.t 7)) none 3 false true), (AOp.mk (some 9) (AK.bin false BinOp.sub (AX.t 8) (AX.c (PV.val (Value.int IntKind.i64 1)))) none 4 false true), (AOp.mk (some 10) (AK.call 48 [(AX.t 5), (AX.c (PV.val (Value.int IntKind.i64 0))), (AX.t 9)]) none 5 false true), (AOp.mk (some 4) (AK.mv (AX.t 10)) none 6 false true)]) AC.ret))
theorem ac58_ok : cCode Tryz.prog (fun _ => false) Tryz.f58.ntmps (Tryz.f58.body.getD .skip) = some ac58 := by kernel_rfl
def ac33 : AC := (AC.seq (AC.ops [(AOp.mk (some 3) (AK.box 2 (AX.t 0)) none 0 false true), (AOp.mk (some 6) (AK.mv (AX.c (PV.val (Value.bool false)))) none 1 false true)]) (AC.seq (AC.ops [(AOp.mk (some 7) (AK.ld (some 2) (AX.t 3)) none 0 false true), (AOp.mk (some 8) (AK.mv (AX.t 1)) none 1 false true), (AOp.mk (some 9) (AK.call 58 [(AX.t 7), (AX.t 8)]) none 2 false true), (AOp.mk (some 10) (AK.mv (AX.t 9)) none 3 false true), (AOp.mk (some 11) (AK.ld (some 2) (AX.t 3)) (some (10, true)) 4 false true), (AOp.mk (some 12) (AK.mv (AX.t 2)) (some (10, true)) 5 false true), (AOp.mk (some 13) (AK.call 58 [(AX.t 11), (AX.t 12)]) (some (10, true)) 6 false true), (AOp.mk (some 14) (AK.pick (AX.t 10) (AX.t 13) (AX.c (PV.val (Value.bool false)))) none 7 false true), (AOp.mk (some 15) (AK.mv (AX.t 14)) none 8 false true), (AOp.mk (some 16) (AK.mv (AX.t 1)) (some (15, true)) 9 false true), (AOp.mk (some 17) (AK.mv (AX.t 2)) (some (15, true)) 10 false true), (AOp.mk (some 18) (AK.bin false BinOp.neq (AX.t 16) (AX.t 17)) (some (15, true)) 11 false true), (AOp.mk (some 19) (AK.pick (AX.t 15) (AX.t 18) (AX.c (PV.val (Value.bool false)))) none 12 false true), (AOp.mk (some 6) (AK.mv (AX.t 19)) none 13 false true)]) AC.ret))
theorem ac33_ok : cCode Tryz.prog (fun _ => false) Tryz.f33.ntmps (Tryz.f33.body.getD .skip) = some ac33 := by kernel_rfl
def ac47 : AC := (AC.seq (AC.ops [(AOp.mk (some 2) (AK.mv (AX.c (PV.val (Value.bool false)))) none 0 false true)]) (AC.seq (AC.ops [(AOp.mk (some 3) (AK.mv (AX.t 0)) none 0 false true), (AOp.mk (some 4) (AK.call 48 [(AX.t 3), (AX.c (PV.val (Value.int IntKind.i64 0))), (AX.c (PV.val (Value.int IntKind.i64 3)))]) none 1 false true), (AOp.mk (some 5) (AK.un UnOp.not (AX.t 4)) none 2 false true), (AOp.mk (some 2) (AK.mv (AX.t 5)) none 3 false true)]) AC.ret))
theorem ac47_ok : cCode Tryz.prog (fun _ => false) Tryz.f47.ntmps (Tryz.f47.body.getD .skip) = some ac47 := by kernel_rfl
def ac26 : AC := (AC.seq (AC.ops [(AOp.mk (some 2) (AK.box 2 (AX.t 0)) none 0 false true), (AOp.mk (some 4) (AK.mv (AX.c (PV.val (Value.bool false)))) none 1 false true)]) (AC.seq (AC.ops [(AOp.mk (some 5) (AK.mv (AX.c (PV.val (Value.func (Fn.func 47) #[] #[])))) none 0 false true)]) (AC.seq (AC.ops [(AOp.mk (some 6) (AK.mv (AX.t 1)) none 0 false true), (AOp.mk (some 7) (AK.len (AX.t 6)) none 1 false true), (AOp.mk (some 8) (AK.fadr 0 (AX.t 2)) none 2 false true), (AOp.mk (some 9) (AK.ld none (AX.t 8)) none 3 false true), (AOp.mk (some 10) (AK.bin false BinOp.eql (AX.t 7) (AX.t 9)) none 4 false true), (AOp.mk (some 11) (AK.mv (AX.t 10)) none 5 false true), (AOp.mk (some 12) (AK.mv (AX.t 1)) (some (11, true)) 6 false true), (AOp.mk (some 13) (AK.mv (AX.t 5)) (some (11, true)) 7 false true), (AOp.mk (some 14) (AK.call 49 [(AX.t 12), (AX.t 13)]) (some (11, true)) 8 false true), (AOp.mk (some 15) (AK.un UnOp.not (AX.t 14)) (some (11, true)) 9 false true), (AOp.mk (some 16) (AK.pick (AX.t 11) (AX.t 15) (AX.c (PV.val (Value.bool false)))) none 10 false true), (AOp.mk (some 4) (AK.mv (AX.t 16)) none 11 false true)]) AC.ret)))
theorem ac26_ok : cCode Tryz.prog (fun _ => false) Tryz.f26.ntmps (Tryz.f26.body.getD .skip) = some ac26 := by kernel_rfl
def ac49 : AC := (AC.seq (AC.ops [(AOp.mk (some 4) (AK.mv (AX.c (PV.val (Value.bool false)))) none 0 false true)]) (AC.seq (AC.ops [(AOp.mk (some 5) (AK.mv (AX.t 0)) none 0 false true), (AOp.mk (some 6) (AK.mv (AX.t 1)) none 1 false true), (AOp.mk (some 7) (AK.call 74 [(AX.t 5), (AX.t 6)]) none 2 false true), (AOp.mk (some 8) (AK.bin false BinOp.geq (AX.t 7) (AX.c (PV.val (Value.int IntKind.i64 0)))) none 3 false true), (AOp.mk (some 4) (AK.mv (AX.t 8)) none 4 false true)]) AC.ret))
theorem ac49_ok : cCode Tryz.prog (fun _ => false) Tryz.f49.ntmps (Tryz.f49.body.getD .skip) = some ac49 := by kernel_rfl
def ac74 : AC := (AC.seq (AC.ops [(AOp.mk (some 4) (AK.mv (AX.c (PV.val (Value.int IntKind.i64 0)))) none 0 false true)]) (AC.seq (AC.seq (AC.ops [(AOp.mk (some 6) (AK.mv (AX.t 0)) none 0 false true), (AOp.mk (some 7) (AK.len (AX.t 6)) none 1 false true), (AOp.mk (some 8) (AK.mv (AX.c (PV.val (Value.int IntKind.i64 0)))) none 2 false true)]) (AC.block 0 (AC.loop (AC.seq (AC.ops [(AOp.mk (some 9) (AK.bin false BinOp.lss (AX.t 8) (AX.t 7)) none 0 false true)]) (AC.seq (AC.cond (AX.t 9) AC.skip (AC.exit 0)) (AC.seq (AC.block 1 (AC.seq (AC.ops [(AOp.mk (some 10) (AK.mv (AX.t 8)) none 0 false true), (AOp.mk (some 5) (AK.mv (AX.t 10)) none 1 false true)]) (AC.seq (AC.ops [(AOp.mk (some 11) (AK.mv (AX.t 1)) none 0 false true), (AOp.mk (some 12) (AK.mv (AX.t 0)) none 1 false true), (AOp.mk (some 13) (AK.mv (AX.t 5)) none 2 false true), (AOp.mk (some 14) (AK.iadrS 1 (AX.t 12) (AX.t 13)) none 3 false true), (AOp.mk (some 15) (AK.ld none (AX.t 14)) none 4 false true), (AOp.mk (some 16) (AK.callv (AX.t 11) [(AX.t 15)]) none 5 false true)]) (AC.cond (AX.t 16) (AC.seq (AC.ops [(AOp.mk (some 17) (AK.mv (AX.t 5)) none 0 false true), (AOp.mk (some 4) (AK.mv (AX.t 17)) none 1 false true)]) AC.ret) AC.skip)))) (AC.ops [(AOp.mk (some 18) (AK.bin false BinOp.add (AX.t 8) (AX.c (PV.val (Value.int IntKind.i64 1)))) none 0 false true), (AOp.mk (some 8) (AK.mv (AX.t 18)) none 1 false true)]))))))) (AC.seq (AC.ops [(AOp.mk (some 4) (AK.mv (AX.c (PV.val (Value.int IntKind.i64 (-1))))) none 0 false true)]) AC.ret)))
theorem ac74_ok : cCode Tryz.prog (fun _ => false) Tryz.f74.ntmps (Tryz.f74.body.getD .skip) = some ac74 := by kernel_rfl
def ac57 : AC := (AC.seq (AC.ops [(AOp.mk (some 4) (AK.mv (AX.c (PV.val (Value.bool false)))) none 0 false true)]) (AC.seq (AC.ops [(AOp.mk (some 5) (AK.mv (AX.t 0)) none 0 false true), (AOp.mk (some 6) (AK.mv (AX.t 1)) none 1 false true), (AOp.mk (some 7) (AK.call 78 [(AX.t 5), (AX.t 6)]) none 2 false true), (AOp.mk (some 8) (AK.bin false BinOp.geq (AX.t 7) (AX.c (PV.val (Value.int IntKind.i64 0)))) none 3 false true), (AOp.mk (some 4) (AK.mv (AX.t 8)) none 4 false true)]) AC.ret))
theorem ac57_ok : cCode Tryz.prog (fun _ => false) Tryz.f57.ntmps (Tryz.f57.body.getD .skip) = some ac57 := by kernel_rfl
def ac78 : AC := (AC.seq (AC.ops [(AOp.mk (some 4) (AK.mv (AX.c (PV.val (Value.int IntKind.i64 0)))) none 0 false true)]) (AC.seq (AC.seq (AC.ops [(AOp.mk (some 6) (AK.mv (AX.t 0)) none 0 false true), (AOp.mk (some 7) (AK.len (AX.t 6)) none 1 false true), (AOp.mk (some 8) (AK.mv (AX.c (PV.val (Value.int IntKind.i64 0)))) none 2 false true)]) (AC.block 0 (AC.loop (AC.seq (AC.ops [(AOp.mk (some 9) (AK.bin false BinOp.lss (AX.t 8) (AX.t 7)) none 0 false true)]) (AC.seq (AC.cond (AX.t 9) AC.skip (AC.exit 0)) (AC.seq (AC.block 1 (AC.seq (AC.ops [(AOp.mk (some 10) (AK.mv (AX.t 8)) none 0 false true), (AOp.mk (some 5) (AK.mv (AX.t 10)) none 1 false true)]) (AC.seq (AC.ops [(AOp.mk (some 11) (AK.mv (AX.t 1)) none 0 false true), (AOp.mk (some 12) (AK.mv (AX.t 0)) none 1 false true), (AOp.mk (some 13) (AK.mv (AX.t 5)) none 2 false true), (AOp.mk (some 14) (AK.iadrS 1 (AX.t 12) (AX.t 13)) none 3 false true), (AOp.mk (some 15) (AK.ld none (AX.t 14)) none 4 false true), (AOp.mk (some 16) (AK.callv (AX.t 11) [(AX.t 15)]) none 5 false true)]) (AC.cond (AX.t 16) (AC.seq (AC.ops [(AOp.mk (some 17) (AK.mv (AX.t 5)) none 0 false true), (AOp.mk (some 4) (AK.mv (AX.t 17)) none 1 false true)]) AC.ret) AC.skip)))) (AC.ops [(AOp.mk (some 18) (AK.bin false BinOp.add (AX.t 8) (AX.c (PV.val (Value.int IntKind.i64 1)))) none 0 false true), (AOp.mk (some 8) (AK.mv (AX.t 18)) none 1 false true)]))))))) (AC.seq (AC.ops [(AOp.mk (some 4) (AK.mv (AX.c (PV.val (Value.int IntKind.i64 (-1))))) none 0 false true)]) AC.ret)))
theorem ac78_ok : cCode Tryz.prog (fun _ => false) Tryz.f78.ntmps (Tryz.f78.body.getD .skip) = some ac78 := by kernel_rfl
def ac34 : AC := (AC.seq (AC.ops [(AOp.mk (some 2) (AK.mv (AX.c (PV.sl SK.full 0 []))) none 0 false true)]) (AC.seq (AC.ops [(AOp.mk (some 4) (AK.mv (AX.t 0)) none 0 false true), (AOp.mk (some 5) (AK.len (AX.t 4)) none 1 false true), (AOp.mk (some 3) (AK.mv (AX.t 5)) none 2 false true)]) (AC.seq (AC.ops [(AOp.mk (some 6) (AK.mv (AX.t 0)) none 0 false true), (AOp.mk (some 7) (AK.mv (AX.t 3)) none 1 false true), (AOp.mk (some 8) (AK.mv (AX.t 3)) none 2 false true), (AOp.mk (some 9) (AK.slc 1 (AX.t 6) none (some (AX.t 7)) (some (AX.t 8))) none 3 false true), (AOp.mk (some 2) (AK.mv (AX.t 9)) none 4 false true)]) AC.ret)))
theorem ac34_ok : cCode Tryz.prog (fun _ => false) Tryz.f34.ntmps (Tryz.f34.body.getD .skip) = some ac34 := by kernel_rfl
def ac46 : AC := (AC.seq (AC.ops [(AOp.mk (some 4) (AK.mv (AX.c (PV.sl SK.full 0 []))) none 0 false true)]) (AC.seq (AC.ops [(AOp.mk (some 5) (AK.mv (AX.t 0)) none 0 false true), (AOp.mk (some 6) (AK.call 34 [(AX.t 5)]) none 1 false true), (AOp.mk (some 7) (AK.mv (AX.t 1)) none 2 false true), (AOp.mk (some 8) (AK.bslice false 3 1 1 [(PV.val (Value.int IntKind.i64 0))] [(0, (1, (AX.t 7)))]) none 3 false true), (AOp.mk (some 9) (AK.app false 3 1 8 [(PV.val (Value.int IntKind.i64 0))] (AX.t 6) (AX.t 8)) none 4 false true), (AOp.mk (some 4) (AK.mv (AX.t 9)) none 5 false true)]) AC.ret))
theorem ac46_ok : cCode Tryz.prog (fun _ => false) Tryz.f46.ntmps (Tryz.f46.body.getD .skip) = some ac46 := by kernel_rfl
def ac108 : AC := (AC.seq (AC.ops [(AOp.mk (some 4) (AK.mv (AX.c (PV.val (Value.int IntKind.i64 0)))) none 0 false true)]) (AC.seq (AC.seq (AC.ops [(AOp.mk (some 7) (AK.mv (AX.t 1)) none 0 false true), (AOp.mk (some 8) (AK.len (AX.t 7)) none 1 false true), (AOp.mk (some 9) (AK.mv (AX.c (PV.val (Value.int IntKind.i64 0)))) none 2 false true)]) (AC.block 0 (AC.loop (AC.seq (AC.ops [(AOp.mk (some 10) (AK.bin false BinOp.lss (AX.t 9) (AX.t 8)) none 0 false true)]) (AC.seq (AC.cond (AX.t 10) AC.skip (AC.exit 0)) (AC.seq (AC.block 1 (AC.seq (AC.ops [(AOp.mk (some 11) (AK.iadrS 1 (AX.t 7) (AX.t 9)) none 0 false true), (AOp.mk (some 12) (AK.ld none (AX.t 11)) none 1 false true), (AOp.mk (some 6) (AK.mv (AX.t 12)) none 2 false true)]) (AC.ops [(AOp.mk (some 13) (AK.mv (AX.t 0)) none 0 false true), (AOp.mk (some 14) (AK.mv (AX.t 6)) none 1 false true), (AOp.mk (some 15) (AK.mx true [(AX.t 13), (AX.t 14)]) none 2 false true), (AOp.mk (some 0) (AK.mv (AX.t 15)) none 3 false true)]))) (AC.ops [(AOp.mk (some 16) (AK.bin false BinOp.add (AX.t 9) (AX.c (PV.val (Value.int IntKind.i64 1)))) none 0 false true), (AOp.mk (some 9) (AK.mv (AX.t 16)) none 1 false true)]))))))) (AC.seq (AC.ops [(AOp.mk (some 17) (AK.mv (AX.t 0)) none 0 false true), (AOp.mk (some 4) (AK.mv (AX.t 17)) none 1 false true)]) AC.ret)))
theorem ac108_ok : cCode Tryz.prog (fun _ => false) Tryz.f108.ntmps (Tryz.f108.body.getD .skip) = some ac108 := by kernel_rfl
structure DBook where
  round : Int
  horses : List (List Int)
abbrev rowsC (hs : List (List Int)) : List (List PV) := hs.map fun h => [pis h]
abbrev bookC (k : SK) (b : DBook) : List PV := [pi b.round, .sl k 1 (rowsC b.horses)]
def andI (x y : Int) : Int := IntKind.i64.wrap ((BitVec.ofInt 64 x &&& BitVec.ofInt 64 y).toNat : Int)
def meetB (x y : Int) : Bool := decide (andI x y ≠ 0)
def openB (x : Int) : Bool := decide (andI x (IntKind.i64.wrap (x - 1)) ≠ 0)
def sureB (x y : Int) : Bool := decide (x = y) && !openB x
theorem within_sem (n a b : Int) : Sem1 48 [pi n, pi a, pi b] (pb (decide (a ≤ n ∧ n ≤ b))) := by
  refine semC_of_exec' mixed Tryz.func48 (by kernel_rfl) (by kernel_rfl) ac48_ok 3 rfl (by decide) [(.tmp 6)] (by kernel_rfl) ?_
  intro hr C hC hI
  unfold ac48
  simp only [go_sem, Nat.reduceBEq, Nat.reduceAdd]
  exact ⟨fun h => retQ_one rfl (by simp [h]), fun h => retQ_one rfl (by simp [h])⟩
theorem pow2_small {t : Int} (h : 0 ≤ t ∧ t ≤ 3) : IntKind.i64.wrap (1 * 2 ^ min t.toNat 64) = 2 ^ t.toNat := by
  have : t = 0 ∨ t = 1 ∨ t = 2 ∨ t = 3 := by omega
  rcases this with rfl | rfl | rfl | rfl <;> decide
theorem alone_sem {t : Int} (h : 0 ≤ t ∧ t ≤ 3) : Sem1 51 [pi t] (pi (2 ^ t.toNat)) := by
  refine semC_of_exec' mixed Tryz.func51 (by kernel_rfl) (by kernel_rfl) ac51_ok 1 rfl (by decide) [(.tmp 2)] (by kernel_rfl) ?_
  intro hr C hC hI
  unfold ac51
  simp only [go_sem, Nat.reduceBEq, bin_shl (show ¬ t < 0 by omega), pow2_small h]
  exact retQ_one rfl rfl
theorem isOpen_sem (x : Int) : Sem1 98 [pi x] (pb (openB x)) := by
  refine semC_of_exec' mixed Tryz.func98 (by kernel_rfl) (by kernel_rfl) ac98_ok 1 rfl (by decide) [(.tmp 2)] (by kernel_rfl) ?_
  intro hr C hC hI
  unfold ac98
  simp only [go_sem, Nat.reduceBEq, bin_and]
  exact retQ_one rfl rfl
theorem canBe_sem (x y : Int) : Sem1 80 [pi x, pi y] (pb (meetB x y)) := by
  refine semC_of_exec' mixed Tryz.func80 (by kernel_rfl) (by kernel_rfl) ac80_ok 2 rfl (by decide) [(.tmp 4)] (by kernel_rfl) ?_
  intro hr C hC hI
  unfold ac80
  simp only [go_sem, Nat.reduceBEq, bin_and]
  exact retQ_one rfl rfl
theorem stands_sem (x y : Int) : Sem1 79 [pi x, pi y] (pb true) := by
  refine semC_of_exec' mixed Tryz.func79 (by kernel_rfl) (by kernel_rfl) ac79_ok 2 rfl (by decide) [(.tmp 4)] (by kernel_rfl) ?_
  intro hr C hC hI
  unfold ac79
  simp only [go_sem]
  exact retQ_one rfl rfl
theorem surelyIs_sem (x y : Int) : Sem1 81 [pi x, pi y] (pb (sureB x y)) := by
  refine semC_of_exec' mixed Tryz.func81 (by kernel_rfl) (by kernel_rfl) ac81_ok 2 rfl (by decide) [(.tmp 4)] (by kernel_rfl) ?_
  intro hr C hC hI
  unfold ac81
  simp only [go_sem, Nat.reduceBEq]
  refine ⟨fun h => ?_, fun h => ?_⟩
  · refine call_pure2 hC (isOpen_sem ..) rfl (PVleL_refl _) ?_
    rintro r rfl
    simp only [go_sem, Nat.reduceBEq]
    refine retQ_one rfl ?_
    unfold sureB
    rw [decide_eq_true h, Bool.true_and]
  · refine retQ_one rfl ?_
    unfold sureB
    rw [decide_eq_false h, Bool.false_and]
theorem straight_sem (h : Int) : Sem1 37 [pi h] (.agg [pi h, pi 0]) := by
  refine semC_of_exec' mixed Tryz.func37 (by kernel_rfl) (by kernel_rfl) ac37_ok 1 rfl (by decide) [(.cell 2 81)] (by kernel_rfl) ?_
  intro hr C hC hI
  unfold ac37
  simp only [go_sem, Nat.reduceBEq, Nat.reduceAdd, Nat.reduceLeDiff, putCells]
  exact retQ_cell (n := some 2) (by kernel_rfl) rfl rfl
abbrev fnV (f : FuncId) : PV := .val (.func (.func f) #[] #[])
def idxI {α : Type} (l : List α) (p : α → Bool) : Int := match l.findIdx? p with | some i => i | none => -1
theorem idxI_neg {α : Type} {l : List α} {p : α → Bool} : 0 ≤ idxI l p ↔ l.any p = true := by
  unfold idxI
  cases h : l.findIdx? p with
  | none =>
    rw [List.findIdx?_eq_none_iff] at h
    simp only [List.any_eq_true]
    constructor
    · intro h0; omega
    · rintro ⟨x, hx, hp⟩; rw [h x hx] at hp; cases hp
  | some i =>
    rw [List.findIdx?_eq_some_iff_getElem] at h
    obtain ⟨h1, h2, -⟩ := h
    simp only [List.any_eq_true]
    exact ⟨fun _ => ⟨_, List.getElem_mem h1, h2⟩, fun _ => by omega⟩
theorem idxI_dec {α : Type} {l : List α} {p : α → Bool} : decide (0 ≤ idxI l p) = l.any p := by
  have := idxI_neg (l := l) (p := p)
  cases h : l.any p
  · rw [h] at this
    exact decide_eq_false fun h0 => by have := this.1 h0; cases this
  · exact decide_eq_true (this.2 h)
theorem idxI_some {α : Type} {l : List α} {p : α → Bool} {j : Nat} (h : j < l.length) (hp : p l[j] = true) (hn : ∀ x ∈ l.take j, p x = false) : idxI l p = j := by
  unfold idxI
  have : l.findIdx? p = some j := by
    rw [List.findIdx?_eq_some_iff_getElem]
    refine ⟨h, hp, fun i hi => ?_⟩
    have := hn l[i] (List.mem_iff_getElem.2 ⟨i, by rw [List.length_take]; omega, by simp⟩)
    simp [this]
  rw [this]
theorem idxI_none {α : Type} {l : List α} {p : α → Bool} (hn : ∀ x ∈ l, p x = false) : idxI l p = -1 := by
  unfold idxI
  rw [List.findIdx?_eq_none_iff.2 hn]
theorem take_next {α : Type} {l : List α} {j : Nat} (h : j < l.length) {P : α → Prop} (h1 : ∀ x ∈ l.take j, P x) (h2 : P l[j]) : ∀ x ∈ l.take (j + 1), P x := by
  intro x hx
  rw [List.take_succ_eq_append_getElem h, List.mem_append, List.mem_singleton] at hx
  rcases hx with hx | rfl
  · exact h1 x hx
  · exact h2
theorem IndexFunc_sem {f : FuncId} {p : Int → Bool} (hf : ∀ x, Sem1 f [pi x] (pb (p x))) (l : List Int) : Sem1 74 [pis l, fnV f] (pi (idxI l p)) := by
  refine semC_of_exec' mixed Tryz.func74 (by kernel_rfl) (by kernel_rfl) ac74_ok 2 rfl (by decide) [(.tmp 4)] (by kernel_rfl) ?_
  intro hr C hC hI
  unfold ac74
  simp only [go_sem, Nat.reduceBEq, List.length_map]
  have hl := real_len (i := 0) hr rfl
  rw [List.length_map] at hl
  refine loop_k l.length (fun j => ∀ x ∈ l.take j, p x = false) [0, 1, 7] (fun j => [(8, .p (pi j))]) (by simp) rfl ⟨rfl, by simp, by simp⟩ (by simp [wkT, look, AV.lo]) ?_
  rintro j ⟨hj, hok⟩
  simp only [go_sem, Nat.reduceBEq]
  refine ⟨fun h5 => ?_, fun h5 => ?_⟩
  · have hj2 : j < l.length := by omega
    simp only [go_sem, Nat.reduceBEq, iadr_pis hj2]
    refine call_pure2 hC (hf l[j]) rfl (PVleL_refl _) ?_
    rintro r rfl
    simp only [go_sem, Nat.reduceBEq]
    cases hp : p l[j]
    · simp only [go_sem, Nat.reduceBEq, wrap_succ (k := j) (by omega)]
      refine ⟨⟨j + 1, hj2, take_next hj2 hok hp⟩, by simp only; omega, by simp [Wk, wkT, wkL, look, AV.lo]⟩
    · simp only [go_sem, Nat.reduceBEq]
      exact retQ_one rfl (by rw [idxI_some hj2 hp hok])
  · have hjn : j = l.length := by omega
    subst hjn
    rw [List.take_length] at hok
    exact retQ_one rfl (by rw [idxI_none hok])
theorem ContainsFunc_sem {f : FuncId} {p : Int → Bool} (hf : ∀ x, Sem1 f [pi x] (pb (p x))) (l : List Int) : Sem1 49 [pis l, fnV f] (pb (l.any p)) := by
  refine semC_of_exec' mixed Tryz.func49 (by kernel_rfl) (by kernel_rfl) ac49_ok 2 rfl (by decide) [(.tmp 4)] (by kernel_rfl) ?_
  intro hr C hC hI
  unfold ac49
  simp only [go_sem, Nat.reduceBEq]
  refine call_pure2 hC (IndexFunc_sem hf l) rfl (PVleL_refl _) ?_
  rintro r rfl
  simp only [go_sem, Nat.reduceBEq]
  exact retQ_one rfl (congrArg pb idxI_dec)
theorem IndexFunc2_sem {f : FuncId} {cap : List PV} {p : List Int → Bool} (hf : ∀ x, Sem1 f (pis x :: cap) (pb (p x))) (k : SK) (l : List (List Int)) : Sem1 78 [.sl k 1 (rowsC l), .clo f [] cap] (pi (idxI l p)) := by
  refine semC_of_exec' mixed Tryz.func78 (by kernel_rfl) (by kernel_rfl) ac78_ok 2 rfl (by decide) [(.tmp 4)] (by kernel_rfl) ?_
  intro hr C hC hI
  unfold ac78
  simp only [go_sem, Nat.reduceBEq, List.length_map]
  have hl := real_len (i := 0) hr rfl
  rw [List.length_map] at hl
  refine loop_k l.length (fun j => ∀ x ∈ l.take j, p x = false) [0, 1, 7] (fun j => [(8, .p (pi j))]) (by simp) rfl ⟨rfl, by simp, by simp⟩ (by simp [wkT, look, AV.lo]) ?_
  rintro j ⟨hj, hok⟩
  simp only [go_sem, Nat.reduceBEq]
  refine ⟨fun h5 => ?_, fun h5 => ?_⟩
  · have hj2 : j < l.length := by omega
    simp only [go_sem, Nat.reduceBEq, iadr_map (f := fun h => [pis h]) hj2]
    refine call_pure hC (l := pis l[j] :: cap) (hf l[j]) (PVleL_refl _) ?_
    rintro r rfl
    simp only [go_sem, Nat.reduceBEq]
    cases hp : p l[j]
    · simp only [go_sem, Nat.reduceBEq, wrap_succ (k := j) (by omega)]
      refine ⟨⟨j + 1, hj2, take_next hj2 hok hp⟩, by simp only; omega, by simp [Wk, wkT, wkL, look, AV.lo]⟩
    · simp only [go_sem, Nat.reduceBEq]
      exact retQ_one rfl (by rw [idxI_some hj2 hp hok])
  · have hjn : j = l.length := by omega
    subst hjn
    rw [List.take_length] at hok
    exact retQ_one rfl (by rw [idxI_none hok])
theorem ContainsFunc2_sem {f : FuncId} {cap : List PV} {p : List Int → Bool} (hf : ∀ x, Sem1 f (pis x :: cap) (pb (p x))) (k : SK) (l : List (List Int)) : Sem1 57 [.sl k 1 (rowsC l), .clo f [] cap] (pb (l.any p)) := by
  refine semC_of_exec' mixed Tryz.func57 (by kernel_rfl) (by kernel_rfl) ac57_ok 2 rfl (by decide) [(.tmp 4)] (by kernel_rfl) ?_
  intro hr C hC hI
  unfold ac57
  simp only [go_sem, Nat.reduceBEq]
  refine call_pure2 hC (IndexFunc2_sem hf k l) rfl (PVleL_refl _) ?_
  rintro r rfl
  simp only [go_sem, Nat.reduceBEq]
  exact retQ_one rfl (congrArg pb idxI_dec)
def sizeB (x : Int) : Bool := decide (1 ≤ x ∧ x ≤ 15)
def numB (x : Int) : Bool := decide (0 ≤ x ∧ x ≤ 3)
theorem validHorse1_sem (x : Int) : Sem1 77 [pi x] (pb (!sizeB x)) := by
  refine semC_of_exec' mixed Tryz.func77 (by kernel_rfl) (by kernel_rfl) ac77_ok 1 rfl (by decide) [(.tmp 2)] (by kernel_rfl) ?_
  intro hr C hC hI
  unfold ac77
  simp only [go_sem, Nat.reduceBEq]
  refine call_pure2 hC (within_sem ..) rfl (PVleL_refl _) ?_
  rintro r rfl
  simp only [go_sem, Nat.reduceBEq]
  exact retQ_one rfl (by rw [sizeB, dec_not])
def nHorse (b : DBook) (h : List Int) : Bool := decide ((h.length : Int) = b.round ∧ ∀ x ∈ h, 1 ≤ x ∧ x ≤ 15)
def okHorse (b : DBook) (h : List Int) : Prop := (h.length : Int) = b.round ∧ ∀ x ∈ h, 1 ≤ x ∧ x ≤ 15
instance (b : DBook) (h : List Int) : Decidable (okHorse b h) := by unfold okHorse; infer_instance
theorem validHorse_sem (k : SK) (b : DBook) (h : List Int) : Sem1 56 [.agg (bookC k b), pis h] (pb (decide (okHorse b h))) := by
  refine semC_of_exec' mixed Tryz.func56 (by kernel_rfl) (by kernel_rfl) ac56_ok 2 rfl (by decide) [(.tmp 4)] (by kernel_rfl) ?_
  intro hr C hC hI
  unfold ac56
  simp only [go_sem, Nat.reduceBEq, Nat.reduceAdd, List.length_map]
  refine ⟨fun h1 => ?_, fun h1 => ?_⟩
  · refine call_pure2 hC (ContainsFunc_sem validHorse1_sem h) rfl (PVleL_refl _) ?_
    rintro r rfl
    simp only [go_sem, Nat.reduceBEq]
    refine retQ_one rfl (congrArg pb ?_)
    have : (h.any fun x => !sizeB x) = !decide (okHorse b h) := by
      rw [← List.not_all_eq_any_not]
      congr 1
      unfold okHorse
      rw [Bool.eq_iff_iff]
      simp [h1, sizeB]
    rw [this, Bool.not_not]
  · exact retQ_one rfl (congrArg pb (decide_eq_false fun h2 => h1 h2.1).symm)
theorem validBook1_sem (k : SK) (b : DBook) (h : List Int) : Sem1 55 [pis h, .ptr (bookC k b) 0] (pb (!nHorse b h)) := by
  refine semC_of_exec' mixed Tryz.func55 (by kernel_rfl) (by kernel_rfl) ac55_ok 2 rfl (by decide) [(.tmp 3)] (by kernel_rfl) ?_
  intro hr C hC hI
  unfold ac55
  simp only [go_sem, Nat.reduceBEq, Nat.reduceAdd]
  refine call_pure2 hC (validHorse_sem k b h) rfl (PVleL_refl _) ?_
  rintro r rfl
  simp only [go_sem, Nat.reduceBEq]
  exact retQ_one rfl (by rw [nHorse, dec_not]; rfl)
def okBook (b : DBook) : Prop := (1 ≤ b.round ∧ b.round ≤ 8) ∧ (1 ≤ b.horses.length ∧ b.horses.length ≤ 6) ∧ ∀ h ∈ b.horses, okHorse b h
instance (b : DBook) : Decidable (okBook b) := by unfold okBook; infer_instance
theorem validBook_sem (k : SK) (b : DBook) : Sem1 32 [.agg (bookC k b)] (pb (decide (okBook b))) := by
  refine semC_of_exec' mixed Tryz.func32 (by kernel_rfl) (by kernel_rfl) ac32_ok 1 rfl (by decide) [(.tmp 2)] (by kernel_rfl) ?_
  intro hr C hC hI
  unfold ac32
  simp only [go_sem, Nat.reduceBEq, Nat.reduceAdd]
  refine call_pure2 hC (within_sem ..) rfl (PVleL_refl _) ?_
  rintro r rfl
  simp only [go_sem, Nat.reduceBEq]
  refine ⟨fun h1 => ?_, fun h1 => ?_⟩
  rotate_left
  · exact retQ_one rfl (congrArg pb (decide_eq_false fun h => h1 h.1).symm)
  refine call_pure2 hC (within_sem ..) rfl (PVleL_refl _) ?_
  rintro r rfl
  simp only [go_sem, Nat.reduceBEq]
  rw [List.length_map]
  refine ⟨fun h2 => ?_, fun h2 => ?_⟩
  rotate_left
  · exact retQ_one rfl (congrArg pb (decide_eq_false fun h => h2 (by have := h.2.1; omega)).symm)
  refine call_purA hC (ContainsFunc2_sem (fun h => validBook1_sem k b h) k b.horses) (L' := [.frz (bookC k b)]) rfl (PVleL_refl _) ?_
  rintro r rfl
  simp only [go_sem, Nat.reduceBEq]
  refine retQ_one rfl (congrArg pb ?_)
  have : (b.horses.any fun h => !nHorse b h) = !decide (okBook b) := by
    rw [← List.not_all_eq_any_not]
    congr 1
    rw [Bool.eq_iff_iff, decide_eq_true_eq, List.all_eq_true]
    exact ⟨fun h => ⟨h1, by omega, fun x hx => of_decide_eq_true (h x hx)⟩, fun h x hx => decide_eq_true (h.2.2 x hx)⟩
  rw [this, Bool.not_not]
theorem Check_sem (k : SK) (b : DBook) : Sem1 17 [.agg (bookC k b)] (pi (if okBook b then 0 else 70)) := by
  refine semC_of_exec' mixed Tryz.func17 (by kernel_rfl) (by kernel_rfl) ac17_ok 1 rfl (by decide) [(.tmp 2)] (by kernel_rfl) ?_
  intro hr C hC hI
  unfold ac17
  simp only [go_sem, Nat.reduceBEq, Nat.reduceAdd]
  refine call_pure2 hC (validBook_sem k b) rfl (PVleL_refl _) ?_
  rintro r rfl
  simp only [go_sem, Nat.reduceBEq]
  refine ⟨fun h => ?_, fun h => ?_⟩
  · exact retQ_one rfl (by rw [if_neg h])
  · exact retQ_one rfl (by rw [if_pos h])
theorem hasHorse_sem (k : SK) (b : DBook) (n : Int) : Sem1 58 [.agg (bookC k b), pi n] (pb (decide (0 ≤ n ∧ n < b.horses.length))) := by
  refine semC_of_exec' mixed Tryz.func58 (by kernel_rfl) (by kernel_rfl) ac58_ok 2 rfl (by decide) [(.tmp 4)] (by kernel_rfl) ?_
  intro hr C hC hI
  unfold ac58
  simp only [go_sem, Nat.reduceBEq, Nat.reduceAdd, List.length_map]
  have hl := real_aggL (i := 0) (j := 1) hr rfl rfl
  rw [List.length_map] at hl
  refine call_pure2 hC (within_sem ..) rfl (PVleL_refl _) ?_
  rintro r rfl
  simp only [go_sem, Nat.reduceBEq]
  rw [wrap_id (n := (b.horses.length : Int) - 1) (by omega) (by omega)]
  exact retQ_one rfl (congrArg pb (decide_eq_decide.2 (by omega)))
theorem hasPair_sem (k : SK) (b : DBook) (n m : Int) : Sem1 33 [.agg (bookC k b), pi n, pi m] (pb (decide ((0 ≤ n ∧ n < b.horses.length) ∧ (0 ≤ m ∧ m < b.horses.length) ∧ n ≠ m))) := by
  refine semC_of_exec' mixed Tryz.func33 (by kernel_rfl) (by kernel_rfl) ac33_ok 3 rfl (by decide) [(.tmp 6)] (by kernel_rfl) ?_
  intro hr C hC hI
  unfold ac33
  simp only [go_sem, Nat.reduceBEq, Nat.reduceAdd]
  refine call_pure2 hC (hasHorse_sem k b n) rfl (PVleL_refl _) ?_
  rintro r rfl
  simp only [go_sem, Nat.reduceBEq, Nat.reduceAdd]
  refine ⟨fun h1 => ?_, fun h1 => retQ_one rfl (congrArg pb (decide_eq_false fun h => h1 h.1).symm)⟩
  refine call_pure2 hC (hasHorse_sem k b m) rfl (PVleL_refl _) ?_
  rintro r rfl
  simp only [go_sem, Nat.reduceBEq]
  refine ⟨fun h2 => ?_, fun h2 => retQ_one rfl (congrArg pb (decide_eq_false fun h => h2 h.2.1).symm)⟩
  exact retQ_one rfl (congrArg pb (by rw [Bool.eq_iff_iff]; simp [h1, h2]))
theorem isRow1_sem (x : Int) : Sem1 47 [pi x] (pb (!numB x)) := by
  refine semC_of_exec' mixed Tryz.func47 (by kernel_rfl) (by kernel_rfl) ac47_ok 1 rfl (by decide) [(.tmp 2)] (by kernel_rfl) ?_
  intro hr C hC hI
  unfold ac47
  simp only [go_sem, Nat.reduceBEq]
  refine call_pure2 hC (within_sem ..) rfl (PVleL_refl _) ?_
  rintro r rfl
  simp only [go_sem, Nat.reduceBEq]
  exact retQ_one rfl (by rw [numB, dec_not])
def okRow (b : DBook) (r : List Int) : Prop := (r.length : Int) = b.round ∧ ∀ x ∈ r, 0 ≤ x ∧ x ≤ 3
instance (b : DBook) (h : List Int) : Decidable (okRow b h) := by unfold okRow; infer_instance
theorem isRow_sem (k : SK) (b : DBook) (h : List Int) : Sem1 26 [.agg (bookC k b), pis h] (pb (decide (okRow b h))) := by
  refine semC_of_exec' mixed Tryz.func26 (by kernel_rfl) (by kernel_rfl) ac26_ok 2 rfl (by decide) [(.tmp 4)] (by kernel_rfl) ?_
  intro hr C hC hI
  unfold ac26
  simp only [go_sem, Nat.reduceBEq, Nat.reduceAdd, List.length_map]
  refine ⟨fun h1 => ?_, fun h1 => ?_⟩
  · refine call_pure2 hC (ContainsFunc_sem isRow1_sem h) rfl (PVleL_refl _) ?_
    rintro r rfl
    simp only [go_sem, Nat.reduceBEq]
    refine retQ_one rfl (congrArg pb ?_)
    have : (h.any fun x => !numB x) = !decide (okRow b h) := by
      rw [← List.not_all_eq_any_not]
      congr 1
      unfold okRow
      rw [Bool.eq_iff_iff]
      simp [h1, numB]
    rw [this, Bool.not_not]
  · exact retQ_one rfl (congrArg pb (decide_eq_false fun h2 => h1 h2.1).symm)
theorem handedOn_sem (k : SK) (sz : Nat) (l : List Int) (hsz : sz = 1 ∨ l = []) : Sem1 34 [.sl k sz (l.map fun x => [pi x])] (.sl .full 1 (l.map fun x => [pi x])) := by
  refine semC_of_exec' mixed Tryz.func34 (by kernel_rfl) (by kernel_rfl) ac34_ok 1 rfl (by decide) [(.tmp 2)] (by kernel_rfl) ?_
  intro hr C hC hI
  unfold ac34
  simp only [go_sem, Nat.reduceBEq, slcS_all (sz := sz) (sz' := 1) (k := k) (es := l.map fun x => [pi x]) (hsz.imp id fun h => by rw [h]; rfl)]
  exact retQ_one rfl rfl
theorem with_sem (k : SK) (sz : Nat) (l : List Int) (x : Int) (hsz : sz = 1 ∨ l = []) (hl : l.length ≤ 1000) : Sem1 46 [.sl k sz (l.map fun x => [pi x]), pi x] (pis (l ++ [x])) := by
  refine semC_of_exec' mixed Tryz.func46 (by kernel_rfl) (by kernel_rfl) ac46_ok 2 rfl (by decide) [(.tmp 4)] (by kernel_rfl) ?_
  intro hr C hC hI
  unfold ac46
  simp only [go_sem, Nat.reduceBEq]
  refine call_pure2 hC (handedOn_sem k sz l hsz) rfl (PVleL_refl _) ?_
  rintro r rfl
  simp only [go_sem, Nat.reduceBEq, Nat.reduceLeDiff]
  refine ⟨by rw [List.length_map]; omega, fun tk _ => ?_⟩
  refine retQ_le rfl (PVle.sh _ _ _) ?_
  simp
end Go.Proofs.YtlbolnlcncjijaaGreat
