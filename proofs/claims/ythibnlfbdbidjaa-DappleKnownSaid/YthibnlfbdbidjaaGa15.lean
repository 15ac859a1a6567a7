/- Contracts of dapple: sets, what is valid. What comes in, as values without addresses. For the rows: what is small enough, of each parameter. -/
import Derived.Test.YthibnlfbdbidjaaGa14
import Derived.Test.YthibnlfbdbidjaaGa13
import Derived.ProofKit
import Derived.OpenShut
import Derived.ChangeOld
import Derived.Below
import Derived.SizedLaws
import Derived.Deep.Slices
import Derived.Deep.Fields
import Derived.ChangeSame
namespace Go.Proofs.Ythibnlfbdbidjaa
open Go.RowKit
def ac106 : AC := (AC.seq (AC.ops [(AOp.mk (some 6) (AK.mv (AX.c (PV.val (Value.bool false)))) none 0 false true)]) (AC.seq (AC.ops [(AOp.mk (some 7) (AK.mv (AX.t 1)) none 0 false true), (AOp.mk (some 8) (AK.mv (AX.t 0)) none 1 false true), (AOp.mk (some 9) (AK.bin false BinOp.leq (AX.t 7) (AX.t 8)) none 2 false true), (AOp.mk (some 10) (AK.mv (AX.t 9)) none 3 false true), (AOp.mk (some 11) (AK.mv (AX.t 0)) (some (10, true)) 4 false true), (AOp.mk (some 12) (AK.mv (AX.t 2)) (some (10, true)) 5 false true), (AOp.mk (some 13) (AK.bin false BinOp.leq (AX.t 11) (AX.t 12)) (some (10, true)) 6 false true), (AOp.mk (some 14) (AK.pick (AX.t 10) (AX.t 13) (AX.c (PV.val (Value.bool false)))) none 7 false true), (AOp.mk (some 6) (AK.mv (AX.t 14)) none 8 false true)]) AC.ret))
theorem ac106_ok : cCode Try.prog (fun _ => false) Try.f106.ntmps (Try.f106.body.getD .skip) = some ac106 := by kernel_rfl
def ac113 : AC := (AC.seq (AC.ops [(AOp.mk (some 2) (AK.mv (AX.c (PV.val (Value.int IntKind.i64 0)))) none 0 false true)]) (AC.seq (AC.ops [(AOp.mk (some 3) (AK.mv (AX.t 0)) none 0 false true), (AOp.mk (some 4) (AK.bin false BinOp.shl (AX.c (PV.val (Value.int IntKind.i64 1))) (AX.t 3)) none 1 false true), (AOp.mk (some 2) (AK.mv (AX.t 4)) none 2 false true)]) AC.ret))
theorem ac113_ok : cCode Try.prog (fun _ => false) Try.f113.ntmps (Try.f113.body.getD .skip) = some ac113 := by kernel_rfl
def ac149 : AC := (AC.seq (AC.ops [(AOp.mk (some 2) (AK.mv (AX.c (PV.val (Value.bool false)))) none 0 false true)]) (AC.seq (AC.ops [(AOp.mk (some 3) (AK.mv (AX.t 0)) none 0 false true), (AOp.mk (some 4) (AK.mv (AX.t 0)) none 1 false true), (AOp.mk (some 5) (AK.bin false BinOp.sub (AX.t 4) (AX.c (PV.val (Value.int IntKind.i64 1)))) none 2 false true), (AOp.mk (some 6) (AK.bin false BinOp.and (AX.t 3) (AX.t 5)) none 3 false true), (AOp.mk (some 7) (AK.bin false BinOp.neq (AX.t 6) (AX.c (PV.val (Value.int IntKind.i64 0)))) none 4 false true), (AOp.mk (some 2) (AK.mv (AX.t 7)) none 5 false true)]) AC.ret))
theorem ac149_ok : cCode Try.prog (fun _ => false) Try.f149.ntmps (Try.f149.body.getD .skip) = some ac149 := by kernel_rfl
def ac138 : AC := (AC.seq (AC.ops [(AOp.mk (some 4) (AK.mv (AX.c (PV.val (Value.bool false)))) none 0 false true)]) (AC.seq (AC.ops [(AOp.mk (some 5) (AK.mv (AX.t 0)) none 0 false true), (AOp.mk (some 6) (AK.mv (AX.t 1)) none 1 false true), (AOp.mk (some 7) (AK.bin false BinOp.and (AX.t 5) (AX.t 6)) none 2 false true), (AOp.mk (some 8) (AK.bin false BinOp.neq (AX.t 7) (AX.c (PV.val (Value.int IntKind.i64 0)))) none 3 false true), (AOp.mk (some 4) (AK.mv (AX.t 8)) none 4 false true)]) AC.ret))
theorem ac138_ok : cCode Try.prog (fun _ => false) Try.f138.ntmps (Try.f138.body.getD .skip) = some ac138 := by kernel_rfl
def ac137 : AC := (AC.seq (AC.ops [(AOp.mk (some 4) (AK.mv (AX.c (PV.val (Value.bool false)))) none 0 false true)]) (AC.seq (AC.ops [(AOp.mk (some 4) (AK.mv (AX.c (PV.val (Value.bool true)))) none 0 false true)]) AC.ret))
theorem ac137_ok : cCode Try.prog (fun _ => false) Try.f137.ntmps (Try.f137.body.getD .skip) = some ac137 := by kernel_rfl
def ac139 : AC := (AC.seq (AC.ops [(AOp.mk (some 4) (AK.mv (AX.c (PV.val (Value.bool false)))) none 0 false true)]) (AC.seq (AC.ops [(AOp.mk (some 5) (AK.mv (AX.t 0)) none 0 false true), (AOp.mk (some 6) (AK.mv (AX.t 1)) none 1 false true), (AOp.mk (some 7) (AK.bin false BinOp.eql (AX.t 5) (AX.t 6)) none 2 false true), (AOp.mk (some 8) (AK.mv (AX.t 7)) none 3 false true), (AOp.mk (some 9) (AK.mv (AX.t 0)) (some (8, true)) 4 false true), (AOp.mk (some 10) (AK.call 149 [(AX.t 9)]) (some (8, true)) 5 false true), (AOp.mk (some 11) (AK.un UnOp.not (AX.t 10)) (some (8, true)) 6 false true), (AOp.mk (some 12) (AK.pick (AX.t 8) (AX.t 11) (AX.c (PV.val (Value.bool false)))) none 7 false true), (AOp.mk (some 4) (AK.mv (AX.t 12)) none 8 false true)]) AC.ret))
theorem ac139_ok : cCode Try.prog (fun _ => false) Try.f139.ntmps (Try.f139.body.getD .skip) = some ac139 := by kernel_rfl
def ac69 : AC := (AC.seq (AC.ops [(AOp.mk (some 2) (AK.new (PV.agg [(PV.val (Value.int IntKind.i64 0)), (PV.val (Value.int IntKind.i64 0))])) none 0 false true)]) (AC.seq (AC.ops [(AOp.mk (some 3) (AK.mv (AX.t 0)) none 0 false true), (AOp.mk (some 4) (AK.build [(PV.val (Value.int IntKind.i64 0)), (PV.val (Value.int IntKind.i64 0))] [(0, (1, (AX.t 3)))]) none 1 false true), (AOp.mk none (AK.st 2 (AX.t 2) (AX.t 4)) none 2 false true)]) AC.ret))
theorem ac69_ok : cCode Try.prog (fun _ => false) Try.f69.ntmps (Try.f69.body.getD .skip) = some ac69 := by kernel_rfl
def ac140 : AC := (AC.seq (AC.ops [(AOp.mk (some 2) (AK.mv (AX.c (PV.val (Value.bool false)))) none 0 false true)]) (AC.seq (AC.ops [(AOp.mk (some 3) (AK.mv (AX.t 0)) none 0 false true), (AOp.mk (some 4) (AK.call 106 [(AX.t 3), (AX.c (PV.val (Value.int IntKind.i64 1))), (AX.c (PV.val (Value.int IntKind.i64 15)))]) none 1 false true), (AOp.mk (some 5) (AK.un UnOp.not (AX.t 4)) none 2 false true), (AOp.mk (some 2) (AK.mv (AX.t 5)) none 3 false true)]) AC.ret))
theorem ac140_ok : cCode Try.prog (fun _ => false) Try.f140.ntmps (Try.f140.body.getD .skip) = some ac140 := by kernel_rfl
def ac105 : AC := (AC.seq (AC.ops [(AOp.mk (some 2) (AK.box 2 (AX.t 0)) none 0 false true), (AOp.mk (some 4) (AK.mv (AX.c (PV.val (Value.bool false)))) none 1 false true)]) (AC.seq (AC.ops [(AOp.mk (some 5) (AK.mv (AX.c (PV.val (Value.func (Fn.func 140) #[] #[])))) none 0 false true)]) (AC.seq (AC.ops [(AOp.mk (some 6) (AK.mv (AX.t 1)) none 0 false true), (AOp.mk (some 7) (AK.len (AX.t 6)) none 1 false true), (AOp.mk (some 8) (AK.fadr 0 (AX.t 2)) none 2 false true), (AOp.mk (some 9) (AK.ld none (AX.t 8)) none 3 false true), (AOp.mk (some 10) (AK.bin false BinOp.eql (AX.t 7) (AX.t 9)) none 4 false true), (AOp.mk (some 11) (AK.mv (AX.t 10)) none 5 false true), (AOp.mk (some 12) (AK.mv (AX.t 1)) (some (11, true)) 6 false true), (AOp.mk (some 13) (AK.mv (AX.t 5)) (some (11, true)) 7 false true), (AOp.mk (some 14) (AK.call 111 [(AX.t 12), (AX.t 13)]) (some (11, true)) 8 false true), (AOp.mk (some 15) (AK.un UnOp.not (AX.t 14)) (some (11, true)) 9 false true), (AOp.mk (some 16) (AK.pick (AX.t 11) (AX.t 15) (AX.c (PV.val (Value.bool false)))) none 10 false true), (AOp.mk (some 4) (AK.mv (AX.t 16)) none 11 false true)]) AC.ret)))
theorem ac105_ok : cCode Try.prog (fun _ => false) Try.f105.ntmps (Try.f105.body.getD .skip) = some ac105 := by kernel_rfl
def ac104 : AC := (AC.seq (AC.ops [(AOp.mk (some 3) (AK.mv (AX.c (PV.val (Value.bool false)))) none 0 false true)]) (AC.seq (AC.ops [(AOp.mk (some 4) (AK.ld (some 2) (AX.t 1)) none 0 false true), (AOp.mk (some 5) (AK.mv (AX.t 0)) none 1 false true), (AOp.mk (some 6) (AK.call 105 [(AX.t 4), (AX.t 5)]) none 2 false true), (AOp.mk (some 7) (AK.un UnOp.not (AX.t 6)) none 3 false true), (AOp.mk (some 3) (AK.mv (AX.t 7)) none 4 false true)]) AC.ret))
theorem ac104_ok : cCode Try.prog (fun _ => false) Try.f104.ntmps (Try.f104.body.getD .skip) = some ac104 := by kernel_rfl
def ac72 : AC := (AC.seq (AC.ops [(AOp.mk (some 1) (AK.box 2 (AX.t 0)) none 0 false true), (AOp.mk (some 2) (AK.mv (AX.c (PV.val (Value.bool false)))) none 1 false true)]) (AC.seq (AC.ops [(AOp.mk (some 4) (AK.mkf 104 [] [(AX.t 1)]) none 0 false true), (AOp.mk (some 3) (AK.mv (AX.t 4)) none 1 false true)]) (AC.seq (AC.ops [(AOp.mk (some 5) (AK.fadr 0 (AX.t 1)) none 0 false true), (AOp.mk (some 6) (AK.ld none (AX.t 5)) none 1 false true), (AOp.mk (some 7) (AK.call 106 [(AX.t 6), (AX.c (PV.val (Value.int IntKind.i64 1))), (AX.c (PV.val (Value.int IntKind.i64 8)))]) none 2 false true), (AOp.mk (some 8) (AK.mv (AX.t 7)) none 3 false true), (AOp.mk (some 9) (AK.fadr 1 (AX.t 1)) (some (8, true)) 4 false true), (AOp.mk (some 10) (AK.ld none (AX.t 9)) (some (8, true)) 5 false true), (AOp.mk (some 11) (AK.len (AX.t 10)) (some (8, true)) 6 false true), (AOp.mk (some 12) (AK.call 106 [(AX.t 11), (AX.c (PV.val (Value.int IntKind.i64 1))), (AX.c (PV.val (Value.int IntKind.i64 6)))]) (some (8, true)) 7 false true), (AOp.mk (some 13) (AK.pick (AX.t 8) (AX.t 12) (AX.c (PV.val (Value.bool false)))) none 8 false true), (AOp.mk (some 14) (AK.mv (AX.t 13)) none 9 false true), (AOp.mk (some 15) (AK.fadr 1 (AX.t 1)) (some (14, true)) 10 false true), (AOp.mk (some 16) (AK.ld none (AX.t 15)) (some (14, true)) 11 false true), (AOp.mk (some 17) (AK.mv (AX.t 3)) (some (14, true)) 12 false true), (AOp.mk (some 18) (AK.call 107 [(AX.t 16), (AX.t 17)]) (some (14, true)) 13 false true), (AOp.mk (some 19) (AK.un UnOp.not (AX.t 18)) (some (14, true)) 14 false true), (AOp.mk (some 20) (AK.pick (AX.t 14) (AX.t 19) (AX.c (PV.val (Value.bool false)))) none 15 false true), (AOp.mk (some 2) (AK.mv (AX.t 20)) none 16 false true)]) AC.ret)))
theorem ac72_ok : cCode Try.prog (fun _ => false) Try.f72.ntmps (Try.f72.body.getD .skip) = some ac72 := by kernel_rfl
def ac21 : AC := (AC.seq (AC.ops [(AOp.mk (some 1) (AK.box 2 (AX.t 0)) none 0 false true), (AOp.mk (some 2) (AK.mv (AX.c (PV.val (Value.int IntKind.i64 0)))) none 1 false true)]) (AC.seq (AC.seq (AC.ops [(AOp.mk (some 3) (AK.ld (some 2) (AX.t 1)) none 0 false true), (AOp.mk (some 4) (AK.call 72 [(AX.t 3)]) none 1 false true), (AOp.mk (some 5) (AK.un UnOp.not (AX.t 4)) none 2 false true)]) (AC.cond (AX.t 5) (AC.seq (AC.ops [(AOp.mk (some 2) (AK.mv (AX.c (PV.val (Value.int IntKind.i64 70)))) none 0 false true)]) AC.ret) AC.skip)) (AC.seq (AC.ops [(AOp.mk (some 2) (AK.mv (AX.c (PV.val (Value.int IntKind.i64 0)))) none 0 false true)]) AC.ret)))
theorem ac21_ok : cCode Try.prog (fun _ => false) Try.f21.ntmps (Try.f21.body.getD .skip) = some ac21 := by kernel_rfl
def ac98 : AC := (AC.seq (AC.ops [(AOp.mk (some 2) (AK.box 2 (AX.t 0)) none 0 false true), (AOp.mk (some 4) (AK.mv (AX.c (PV.val (Value.bool false)))) none 1 false true)]) (AC.seq (AC.ops [(AOp.mk (some 5) (AK.mv (AX.t 1)) none 0 false true), (AOp.mk (some 6) (AK.fadr 1 (AX.t 2)) none 1 false true), (AOp.mk (some 7) (AK.ld none (AX.t 6)) none 2 false true), (AOp.mk (some 8) (AK.len (AX.t 7)) none 3 false true), (AOp.mk (some 9) (AK.bin false BinOp.sub (AX.t 8) (AX.c (PV.val (Value.int IntKind.i64 1)))) none 4 false true), (AOp.mk (some 10) (AK.call 106 [(AX.t 5), (AX.c (PV.val (Value.int IntKind.i64 0))), (AX.t 9)]) none 5 false true), (AOp.mk (some 4) (AK.mv (AX.t 10)) none 6 false true)]) AC.ret))
theorem ac98_ok : cCode Try.prog (fun _ => false) Try.f98.ntmps (Try.f98.body.getD .skip) = some ac98 := by kernel_rfl
def ac65 : AC := (AC.seq (AC.ops [(AOp.mk (some 3) (AK.box 2 (AX.t 0)) none 0 false true), (AOp.mk (some 6) (AK.mv (AX.c (PV.val (Value.bool false)))) none 1 false true)]) (AC.seq (AC.ops [(AOp.mk (some 7) (AK.ld (some 2) (AX.t 3)) none 0 false true), (AOp.mk (some 8) (AK.mv (AX.t 1)) none 1 false true), (AOp.mk (some 9) (AK.call 98 [(AX.t 7), (AX.t 8)]) none 2 false true), (AOp.mk (some 10) (AK.mv (AX.t 9)) none 3 false true), (AOp.mk (some 11) (AK.ld (some 2) (AX.t 3)) (some (10, true)) 4 false true), (AOp.mk (some 12) (AK.mv (AX.t 2)) (some (10, true)) 5 false true), (AOp.mk (some 13) (AK.call 98 [(AX.t 11), (AX.t 12)]) (some (10, true)) 6 false true), (AOp.mk (some 14) (AK.pick (AX.t 10) (AX.t 13) (AX.c (PV.val (Value.bool false)))) none 7 false true), (AOp.mk (some 15) (AK.mv (AX.t 14)) none 8 false true), (AOp.mk (some 16) (AK.mv (AX.t 1)) (some (15, true)) 9 false true), (AOp.mk (some 17) (AK.mv (AX.t 2)) (some (15, true)) 10 false true), (AOp.mk (some 18) (AK.bin false BinOp.neq (AX.t 16) (AX.t 17)) (some (15, true)) 11 false true), (AOp.mk (some 19) (AK.pick (AX.t 15) (AX.t 18) (AX.c (PV.val (Value.bool false)))) none 12 false true), (AOp.mk (some 6) (AK.mv (AX.t 19)) none 13 false true)]) AC.ret))
theorem ac65_ok : cCode Try.prog (fun _ => false) Try.f65.ntmps (Try.f65.body.getD .skip) = some ac65 := by kernel_rfl
def ac110 : AC := (AC.seq (AC.ops [(AOp.mk (some 2) (AK.mv (AX.c (PV.val (Value.bool false)))) none 0 false true)]) (AC.seq (AC.ops [(AOp.mk (some 3) (AK.mv (AX.t 0)) none 0 false true), (AOp.mk (some 4) (AK.call 106 [(AX.t 3), (AX.c (PV.val (Value.int IntKind.i64 0))), (AX.c (PV.val (Value.int IntKind.i64 3)))]) none 1 false true), (AOp.mk (some 5) (AK.un UnOp.not (AX.t 4)) none 2 false true), (AOp.mk (some 2) (AK.mv (AX.t 5)) none 3 false true)]) AC.ret))
theorem ac110_ok : cCode Try.prog (fun _ => false) Try.f110.ntmps (Try.f110.body.getD .skip) = some ac110 := by kernel_rfl
def ac75 : AC := (AC.seq (AC.ops [(AOp.mk (some 2) (AK.box 2 (AX.t 0)) none 0 false true), (AOp.mk (some 4) (AK.mv (AX.c (PV.val (Value.bool false)))) none 1 false true)]) (AC.seq (AC.ops [(AOp.mk (some 5) (AK.mv (AX.c (PV.val (Value.func (Fn.func 110) #[] #[])))) none 0 false true)]) (AC.seq (AC.ops [(AOp.mk (some 6) (AK.mv (AX.t 1)) none 0 false true), (AOp.mk (some 7) (AK.len (AX.t 6)) none 1 false true), (AOp.mk (some 8) (AK.fadr 0 (AX.t 2)) none 2 false true), (AOp.mk (some 9) (AK.ld none (AX.t 8)) none 3 false true), (AOp.mk (some 10) (AK.bin false BinOp.eql (AX.t 7) (AX.t 9)) none 4 false true), (AOp.mk (some 11) (AK.mv (AX.t 10)) none 5 false true), (AOp.mk (some 12) (AK.mv (AX.t 1)) (some (11, true)) 6 false true), (AOp.mk (some 13) (AK.mv (AX.t 5)) (some (11, true)) 7 false true), (AOp.mk (some 14) (AK.call 111 [(AX.t 12), (AX.t 13)]) (some (11, true)) 8 false true), (AOp.mk (some 15) (AK.un UnOp.not (AX.t 14)) (some (11, true)) 9 false true), (AOp.mk (some 16) (AK.pick (AX.t 11) (AX.t 15) (AX.c (PV.val (Value.bool false)))) none 10 false true), (AOp.mk (some 4) (AK.mv (AX.t 16)) none 11 false true)]) AC.ret)))
theorem ac75_ok : cCode Try.prog (fun _ => false) Try.f75.ntmps (Try.f75.body.getD .skip) = some ac75 := by kernel_rfl
def ac111 : AC := (AC.seq (AC.ops [(AOp.mk (some 4) (AK.mv (AX.c (PV.val (Value.bool false)))) none 0 false true)]) (AC.seq (AC.ops [(AOp.mk (some 5) (AK.mv (AX.t 0)) none 0 false true), (AOp.mk (some 6) (AK.mv (AX.t 1)) none 1 false true), (AOp.mk (some 7) (AK.call 142 [(AX.t 5), (AX.t 6)]) none 2 false true), (AOp.mk (some 8) (AK.bin false BinOp.geq (AX.t 7) (AX.c (PV.val (Value.int IntKind.i64 0)))) none 3 false true), (AOp.mk (some 4) (AK.mv (AX.t 8)) none 4 false true)]) AC.ret))
theorem ac111_ok : cCode Try.prog (fun _ => false) Try.f111.ntmps (Try.f111.body.getD .skip) = some ac111 := by kernel_rfl
def ac142 : AC := (AC.seq (AC.ops [(AOp.mk (some 4) (AK.mv (AX.c (PV.val (Value.int IntKind.i64 0)))) none 0 false true)]) (AC.seq (AC.seq (AC.ops [(AOp.mk (some 6) (AK.mv (AX.t 0)) none 0 false true), (AOp.mk (some 7) (AK.len (AX.t 6)) none 1 false true), (AOp.mk (some 8) (AK.mv (AX.c (PV.val (Value.int IntKind.i64 0)))) none 2 false true)]) (AC.block 0 (AC.loop (AC.seq (AC.ops [(AOp.mk (some 9) (AK.bin false BinOp.lss (AX.t 8) (AX.t 7)) none 0 false true)]) (AC.seq (AC.cond (AX.t 9) AC.skip (AC.exit 0)) (AC.seq (AC.block 1 (AC.seq (AC.ops [(AOp.mk (some 10) (AK.mv (AX.t 8)) none 0 false true), (AOp.mk (some 5) (AK.mv (AX.t 10)) none 1 false true)]) (AC.seq (AC.ops [(AOp.mk (some 11) (AK.mv (AX.t 1)) none 0 false true), (AOp.mk (some 12) (AK.mv (AX.t 0)) none 1 false true), (AOp.mk (some 13) (AK.mv (AX.t 5)) none 2 false true), (AOp.mk (some 14) (AK.iadrS 1 (AX.t 12) (AX.t 13)) none 3 false true), (AOp.mk (some 15) (AK.ld none (AX.t 14)) none 4 false true), (AOp.mk (some 16) (AK.callv (AX.t 11) [(AX.t 15)]) none 5 false true)]) (AC.cond (AX.t 16) (AC.seq (AC.ops [(AOp.mk (some 17) (AK.mv (AX.t 5)) none 0 false true), (AOp.mk (some 4) (AK.mv (AX.t 17)) none 1 false true)]) AC.ret) AC.skip)))) (AC.ops [(AOp.mk (some 18) (AK.bin false BinOp.add (AX.t 8) (AX.c (PV.val (Value.int IntKind.i64 1)))) none 0 false true), (AOp.mk (some 8) (AK.mv (AX.t 18)) none 1 false true)]))))))) (AC.seq (AC.ops [(AOp.mk (some 4) (AK.mv (AX.c (PV.val (Value.int IntKind.i64 (-1))))) none 0 false true)]) AC.ret)))
theorem ac142_ok : cCode Try.prog (fun _ => false) Try.f142.ntmps (Try.f142.body.getD .skip) = some ac142 := by kernel_rfl
def ac107 : AC := (AC.seq (AC.ops [(AOp.mk (some 4) (AK.mv (AX.c (PV.val (Value.bool false)))) none 0 false true)]) (AC.seq (AC.ops [(AOp.mk (some 5) (AK.mv (AX.t 0)) none 0 false true), (AOp.mk (some 6) (AK.mv (AX.t 1)) none 1 false true), (AOp.mk (some 7) (AK.call 141 [(AX.t 5), (AX.t 6)]) none 2 false true), (AOp.mk (some 8) (AK.bin false BinOp.geq (AX.t 7) (AX.c (PV.val (Value.int IntKind.i64 0)))) none 3 false true), (AOp.mk (some 4) (AK.mv (AX.t 8)) none 4 false true)]) AC.ret))
theorem ac107_ok : cCode Try.prog (fun _ => false) Try.f107.ntmps (Try.f107.body.getD .skip) = some ac107 := by kernel_rfl
def ac141 : AC := (AC.seq (AC.ops [(AOp.mk (some 4) (AK.mv (AX.c (PV.val (Value.int IntKind.i64 0)))) none 0 false true)]) (AC.seq (AC.seq (AC.ops [(AOp.mk (some 6) (AK.mv (AX.t 0)) none 0 false true), (AOp.mk (some 7) (AK.len (AX.t 6)) none 1 false true), (AOp.mk (some 8) (AK.mv (AX.c (PV.val (Value.int IntKind.i64 0)))) none 2 false true)]) (AC.block 0 (AC.loop (AC.seq (AC.ops [(AOp.mk (some 9) (AK.bin false BinOp.lss (AX.t 8) (AX.t 7)) none 0 false true)]) (AC.seq (AC.cond (AX.t 9) AC.skip (AC.exit 0)) (AC.seq (AC.block 1 (AC.seq (AC.ops [(AOp.mk (some 10) (AK.mv (AX.t 8)) none 0 false true), (AOp.mk (some 5) (AK.mv (AX.t 10)) none 1 false true)]) (AC.seq (AC.ops [(AOp.mk (some 11) (AK.mv (AX.t 1)) none 0 false true), (AOp.mk (some 12) (AK.mv (AX.t 0)) none 1 false true), (AOp.mk (some 13) (AK.mv (AX.t 5)) none 2 false true), (AOp.mk (some 14) (AK.iadrS 1 (AX.t 12) (AX.t 13)) none 3 false true), (AOp.mk (some 15) (AK.ld none (AX.t 14)) none 4 false true), (AOp.mk (some 16) (AK.callv (AX.t 11) [(AX.t 15)]) none 5 false true)]) (AC.cond (AX.t 16) (AC.seq (AC.ops [(AOp.mk (some 17) (AK.mv (AX.t 5)) none 0 false true), (AOp.mk (some 4) (AK.mv (AX.t 17)) none 1 false true)]) AC.ret) AC.skip)))) (AC.ops [(AOp.mk (some 18) (AK.bin false BinOp.add (AX.t 8) (AX.c (PV.val (Value.int IntKind.i64 1)))) none 0 false true), (AOp.mk (some 8) (AK.mv (AX.t 18)) none 1 false true)]))))))) (AC.seq (AC.ops [(AOp.mk (some 4) (AK.mv (AX.c (PV.val (Value.int IntKind.i64 (-1))))) none 0 false true)]) AC.ret)))
theorem ac141_ok : cCode Try.prog (fun _ => false) Try.f141.ntmps (Try.f141.body.getD .skip) = some ac141 := by kernel_rfl
def ac66 : AC := (AC.seq (AC.ops [(AOp.mk (some 2) (AK.mv (AX.c (PV.sl SK.full 0 []))) none 0 false true)]) (AC.seq (AC.ops [(AOp.mk (some 4) (AK.mv (AX.t 0)) none 0 false true), (AOp.mk (some 5) (AK.len (AX.t 4)) none 1 false true), (AOp.mk (some 3) (AK.mv (AX.t 5)) none 2 false true)]) (AC.seq (AC.ops [(AOp.mk (some 6) (AK.mv (AX.t 0)) none 0 false true), (AOp.mk (some 7) (AK.mv (AX.t 3)) none 1 false true), (AOp.mk (some 8) (AK.mv (AX.t 3)) none 2 false true), (AOp.mk (some 9) (AK.slc 1 (AX.t 6) none (some (AX.t 7)) (some (AX.t 8))) none 3 false true), (AOp.mk (some 2) (AK.mv (AX.t 9)) none 4 false true)]) AC.ret)))
theorem ac66_ok : cCode Try.prog (fun _ => false) Try.f66.ntmps (Try.f66.body.getD .skip) = some ac66 := by kernel_rfl
def ac118 : AC := (AC.seq (AC.ops [(AOp.mk (some 4) (AK.mv (AX.c (PV.sl SK.full 0 []))) none 0 false true)]) (AC.seq (AC.ops [(AOp.mk (some 5) (AK.mv (AX.t 0)) none 0 false true), (AOp.mk (some 6) (AK.call 66 [(AX.t 5)]) none 1 false true), (AOp.mk (some 7) (AK.mv (AX.t 1)) none 2 false true), (AOp.mk (some 8) (AK.bslice false 3 1 1 [(PV.val (Value.int IntKind.i64 0))] [(0, (1, (AX.t 7)))]) none 3 false true), (AOp.mk (some 9) (AK.app false 3 1 8 [(PV.val (Value.int IntKind.i64 0))] (AX.t 6) (AX.t 8)) none 4 false true), (AOp.mk (some 4) (AK.mv (AX.t 9)) none 5 false true)]) AC.ret))
theorem ac118_ok : cCode Try.prog (fun _ => false) Try.f118.ntmps (Try.f118.body.getD .skip) = some ac118 := by kernel_rfl
def ac108 : AC := (AC.seq (AC.ops [(AOp.mk (some 4) (AK.mv (AX.c (PV.val (Value.int IntKind.i64 0)))) none 0 false true)]) (AC.seq (AC.seq (AC.ops [(AOp.mk (some 7) (AK.mv (AX.t 1)) none 0 false true), (AOp.mk (some 8) (AK.len (AX.t 7)) none 1 false true), (AOp.mk (some 9) (AK.mv (AX.c (PV.val (Value.int IntKind.i64 0)))) none 2 false true)]) (AC.block 0 (AC.loop (AC.seq (AC.ops [(AOp.mk (some 10) (AK.bin false BinOp.lss (AX.t 9) (AX.t 8)) none 0 false true)]) (AC.seq (AC.cond (AX.t 10) AC.skip (AC.exit 0)) (AC.seq (AC.block 1 (AC.seq (AC.ops [(AOp.mk (some 11) (AK.iadrS 1 (AX.t 7) (AX.t 9)) none 0 false true), (AOp.mk (some 12) (AK.ld none (AX.t 11)) none 1 false true), (AOp.mk (some 6) (AK.mv (AX.t 12)) none 2 false true)]) (AC.ops [(AOp.mk (some 13) (AK.mv (AX.t 0)) none 0 false true), (AOp.mk (some 14) (AK.mv (AX.t 6)) none 1 false true), (AOp.mk (some 15) (AK.mx true [(AX.t 13), (AX.t 14)]) none 2 false true), (AOp.mk (some 0) (AK.mv (AX.t 15)) none 3 false true)]))) (AC.ops [(AOp.mk (some 16) (AK.bin false BinOp.add (AX.t 9) (AX.c (PV.val (Value.int IntKind.i64 1)))) none 0 false true), (AOp.mk (some 9) (AK.mv (AX.t 16)) none 1 false true)]))))))) (AC.seq (AC.ops [(AOp.mk (some 17) (AK.mv (AX.t 0)) none 0 false true), (AOp.mk (some 4) (AK.mv (AX.t 17)) none 1 false true)]) AC.ret)))
theorem ac108_ok : cCode Try.prog (fun _ => false) Try.f108.ntmps (Try.f108.body.getD .skip) = some ac108 := by kernel_rfl
structure DBook where
  round : Int
  horses : List (List Int)
abbrev rowsC (hs : List (List Int)) : List (List PV) := hs.map fun h => [pis h]
abbrev bookC (k : SK) (b : DBook) : List PV := [pi b.round, .sl k 1 (rowsC b.horses)]
def andI (x y : Int) : Int := IntKind.i64.wrap ((BitVec.ofInt 64 x &&& BitVec.ofInt 64 y).toNat : Int)
def meetB (x y : Int) : Bool := decide (andI x y ≠ 0)
def openB (x : Int) : Bool := decide (andI x (IntKind.i64.wrap (x - 1)) ≠ 0)
def sureB (x y : Int) : Bool := decide (x = y) && !openB x
theorem within_sem (n a b : Int) : Sem1 106 [pi n, pi a, pi b] (pb (decide (a ≤ n ∧ n ≤ b))) := by
  refine semC_of_exec' mixed Try.func106 (by kernel_rfl) (by kernel_rfl) ac106_ok 3 rfl (by decide) [(.tmp 6)] (by kernel_rfl) ?_
  intro hr C hC hI
  unfold ac106
  simp only [go_sem, Nat.reduceBEq, Nat.reduceAdd]
  exact ⟨fun h => retQ_one rfl (by simp [h]), fun h => retQ_one rfl (by simp [h])⟩
theorem pow2_small {t : Int} (h : 0 ≤ t ∧ t ≤ 3) : IntKind.i64.wrap (1 * 2 ^ min t.toNat 64) = 2 ^ t.toNat := by
  have : t = 0 ∨ t = 1 ∨ t = 2 ∨ t = 3 := by omega
  rcases this with rfl | rfl | rfl | rfl <;> decide
theorem alone_sem {t : Int} (h : 0 ≤ t ∧ t ≤ 3) : Sem1 113 [pi t] (pi (2 ^ t.toNat)) := by
  refine semC_of_exec' mixed Try.func113 (by kernel_rfl) (by kernel_rfl) ac113_ok 1 rfl (by decide) [(.tmp 2)] (by kernel_rfl) ?_
  intro hr C hC hI
  unfold ac113
  simp only [go_sem, Nat.reduceBEq, bin_shl (show ¬ t < 0 by omega), pow2_small h]
  exact retQ_one rfl rfl
theorem isOpen_sem (x : Int) : Sem1 149 [pi x] (pb (openB x)) := by
  refine semC_of_exec' mixed Try.func149 (by kernel_rfl) (by kernel_rfl) ac149_ok 1 rfl (by decide) [(.tmp 2)] (by kernel_rfl) ?_
  intro hr C hC hI
  unfold ac149
  simp only [go_sem, Nat.reduceBEq, bin_and]
  exact retQ_one rfl rfl
theorem canBe_sem (x y : Int) : Sem1 138 [pi x, pi y] (pb (meetB x y)) := by
  refine semC_of_exec' mixed Try.func138 (by kernel_rfl) (by kernel_rfl) ac138_ok 2 rfl (by decide) [(.tmp 4)] (by kernel_rfl) ?_
  intro hr C hC hI
  unfold ac138
  simp only [go_sem, Nat.reduceBEq, bin_and]
  exact retQ_one rfl rfl
theorem stands_sem (x y : Int) : Sem1 137 [pi x, pi y] (pb true) := by
  refine semC_of_exec' mixed Try.func137 (by kernel_rfl) (by kernel_rfl) ac137_ok 2 rfl (by decide) [(.tmp 4)] (by kernel_rfl) ?_
  intro hr C hC hI
  unfold ac137
  simp only [go_sem]
  exact retQ_one rfl rfl
theorem surelyIs_sem (x y : Int) : Sem1 139 [pi x, pi y] (pb (sureB x y)) := by
  refine semC_of_exec' mixed Try.func139 (by kernel_rfl) (by kernel_rfl) ac139_ok 2 rfl (by decide) [(.tmp 4)] (by kernel_rfl) ?_
  intro hr C hC hI
  unfold ac139
  simp only [go_sem, Nat.reduceBEq]
  refine ⟨fun h => ?_, fun h => ?_⟩
  · refine call_pure2 hC (isOpen_sem ..) rfl (PVleL_refl _) ?_
    rintro r rfl
    simp only [go_sem, Nat.reduceBEq]
    refine retQ_one rfl ?_
    unfold sureB
    rw [decide_eq_true h, Bool.true_and]
  · refine retQ_one rfl ?_
    unfold sureB
    rw [decide_eq_false h, Bool.false_and]
theorem straight_sem (h : Int) : Sem1 69 [pi h] (.agg [pi h, pi 0]) := by
  refine semC_of_exec' mixed Try.func69 (by kernel_rfl) (by kernel_rfl) ac69_ok 1 rfl (by decide) [(.cell 2 90)] (by kernel_rfl) ?_
  intro hr C hC hI
  unfold ac69
  simp only [go_sem, Nat.reduceBEq, Nat.reduceAdd, Nat.reduceLeDiff, putCells]
  exact retQ_cell (n := some 2) (by kernel_rfl) rfl rfl
abbrev fnV (f : FuncId) : PV := .val (.func (.func f) #[] #[])
def idxI {α : Type} (l : List α) (p : α → Bool) : Int := match l.findIdx? p with | some i => i | none => -1
theorem idxI_neg {α : Type} {l : List α} {p : α → Bool} : 0 ≤ idxI l p ↔ l.any p = true := by
  unfold idxI
  cases h : l.findIdx? p with
  | none =>
    rw [List.findIdx?_eq_none_iff] at h
    simp only [List.any_eq_true]
    constructor
    · intro h0; omega
    · rintro ⟨x, hx, hp⟩; rw [h x hx] at hp; cases hp
  | some i =>
    rw [List.findIdx?_eq_some_iff_getElem] at h
    obtain ⟨h1, h2, -⟩ := h
    simp only [List.any_eq_true]
    exact ⟨fun _ => ⟨_, List.getElem_mem h1, h2⟩, fun _ => by omega⟩
theorem idxI_dec {α : Type} {l : List α} {p : α → Bool} : decide (0 ≤ idxI l p) = l.any p := by
  have := idxI_neg (l := l) (p := p)
  cases h : l.any p
  · rw [h] at this
    exact decide_eq_false fun h0 => by have := this.1 h0; cases this
  · exact decide_eq_true (this.2 h)
theorem idxI_some {α : Type} {l : List α} {p : α → Bool} {j : Nat} (h : j < l.length) (hp : p l[j] = true) (hn : ∀ x ∈ l.take j, p x = false) : idxI l p = j := by
  unfold idxI
  have : l.findIdx? p = some j := by
    rw [List.findIdx?_eq_some_iff_getElem]
    refine ⟨h, hp, fun i hi => ?_⟩
    have := hn l[i] (List.mem_iff_getElem.2 ⟨i, by rw [List.length_take]; omega, by simp⟩)
    simp [this]
  rw [this]
theorem idxI_none {α : Type} {l : List α} {p : α → Bool} (hn : ∀ x ∈ l, p x = false) : idxI l p = -1 := by
  unfold idxI
  rw [List.findIdx?_eq_none_iff.2 hn]
theorem take_next {α : Type} {l : List α} {j : Nat} (h : j < l.length) {P : α → Prop} (h1 : ∀ x ∈ l.take j, P x) (h2 : P l[j]) : ∀ x ∈ l.take (j + 1), P x := by
  intro x hx
  rw [List.take_succ_eq_append_getElem h, List.mem_append, List.mem_singleton] at hx
  rcases hx with hx | rfl
  · exact h1 x hx
  · exact h2
theorem IndexFunc_sem {f : FuncId} {p : Int → Bool} (hf : ∀ x, Sem1 f [pi x] (pb (p x))) (l : List Int) : Sem1 142 [pis l, fnV f] (pi (idxI l p)) := by
  refine semC_of_exec' mixed Try.func142 (by kernel_rfl) (by kernel_rfl) ac142_ok 2 rfl (by decide) [(.tmp 4)] (by kernel_rfl) ?_
  intro hr C hC hI
  unfold ac142
  simp only [go_sem, Nat.reduceBEq, List.length_map]
  have hl := real_len (i := 0) hr rfl
  rw [List.length_map] at hl
  refine loop_k l.length (fun j => ∀ x ∈ l.take j, p x = false) [0, 1, 7] (fun j => [(8, .p (pi j))]) (by simp) rfl ⟨rfl, by simp, by simp⟩ (by simp [wkT, look, AV.lo]) ?_
  rintro j ⟨hj, hok⟩
  simp only [go_sem, Nat.reduceBEq]
  refine ⟨fun h5 => ?_, fun h5 => ?_⟩
  · have hj2 : j < l.length := by omega
    simp only [go_sem, Nat.reduceBEq, iadr_pis hj2]
    refine call_pure2 hC (hf l[j]) rfl (PVleL_refl _) ?_
    rintro r rfl
    simp only [go_sem, Nat.reduceBEq]
    cases hp : p l[j]
    · simp only [go_sem, Nat.reduceBEq, wrap_succ (k := j) (by omega)]
      refine ⟨⟨j + 1, hj2, take_next hj2 hok hp⟩, by simp only; omega, by simp [Wk, wkT, wkL, look, AV.lo]⟩
    · simp only [go_sem, Nat.reduceBEq]
      exact retQ_one rfl (by rw [idxI_some hj2 hp hok])
  · have hjn : j = l.length := by omega
    subst hjn
    rw [List.take_length] at hok
    exact retQ_one rfl (by rw [idxI_none hok])
theorem ContainsFunc_sem {f : FuncId} {p : Int → Bool} (hf : ∀ x, Sem1 f [pi x] (pb (p x))) (l : List Int) : Sem1 111 [pis l, fnV f] (pb (l.any p)) := by
  refine semC_of_exec' mixed Try.func111 (by kernel_rfl) (by kernel_rfl) ac111_ok 2 rfl (by decide) [(.tmp 4)] (by kernel_rfl) ?_
  intro hr C hC hI
  unfold ac111
  simp only [go_sem, Nat.reduceBEq]
  refine call_pure2 hC (IndexFunc_sem hf l) rfl (PVleL_refl _) ?_
  rintro r rfl
  simp only [go_sem, Nat.reduceBEq]
  exact retQ_one rfl (congrArg pb idxI_dec)
theorem IndexFunc2_sem {f : FuncId} {cap : List PV} {p : List Int → Bool} (hf : ∀ x, Sem1 f (pis x :: cap) (pb (p x))) (k : SK) (l : List (List Int)) : Sem1 141 [.sl k 1 (rowsC l), .clo f [] cap] (pi (idxI l p)) := by
  refine semC_of_exec' mixed Try.func141 (by kernel_rfl) (by kernel_rfl) ac141_ok 2 rfl (by decide) [(.tmp 4)] (by kernel_rfl) ?_
  intro hr C hC hI
  unfold ac141
  simp only [go_sem, Nat.reduceBEq, List.length_map]
  have hl := real_len (i := 0) hr rfl
  rw [List.length_map] at hl
  refine loop_k l.length (fun j => ∀ x ∈ l.take j, p x = false) [0, 1, 7] (fun j => [(8, .p (pi j))]) (by simp) rfl ⟨rfl, by simp, by simp⟩ (by simp [wkT, look, AV.lo]) ?_
  rintro j ⟨hj, hok⟩
  simp only [go_sem, Nat.reduceBEq]
  refine ⟨fun h5 => ?_, fun h5 => ?_⟩
  · have hj2 : j < l.length := by omega
    simp only [go_sem, Nat.reduceBEq, iadr_map (f := fun h => [pis h]) hj2]
    refine call_pure hC (l := pis l[j] :: cap) (hf l[j]) (PVleL_refl _) ?_
    rintro r rfl
    simp only [go_sem, Nat.reduceBEq]
    cases hp : p l[j]
    · simp only [go_sem, Nat.reduceBEq, wrap_succ (k := j) (by omega)]
      refine ⟨⟨j + 1, hj2, take_next hj2 hok hp⟩, by simp only; omega, by simp [Wk, wkT, wkL, look, AV.lo]⟩
    · simp only [go_sem, Nat.reduceBEq]
      exact retQ_one rfl (by rw [idxI_some hj2 hp hok])
  · have hjn : j = l.length := by omega
    subst hjn
    rw [List.take_length] at hok
    exact retQ_one rfl (by rw [idxI_none hok])
theorem ContainsFunc2_sem {f : FuncId} {cap : List PV} {p : List Int → Bool} (hf : ∀ x, Sem1 f (pis x :: cap) (pb (p x))) (k : SK) (l : List (List Int)) : Sem1 107 [.sl k 1 (rowsC l), .clo f [] cap] (pb (l.any p)) := by
  refine semC_of_exec' mixed Try.func107 (by kernel_rfl) (by kernel_rfl) ac107_ok 2 rfl (by decide) [(.tmp 4)] (by kernel_rfl) ?_
  intro hr C hC hI
  unfold ac107
  simp only [go_sem, Nat.reduceBEq]
  refine call_pure2 hC (IndexFunc2_sem hf k l) rfl (PVleL_refl _) ?_
  rintro r rfl
  simp only [go_sem, Nat.reduceBEq]
  exact retQ_one rfl (congrArg pb idxI_dec)
def sizeB (x : Int) : Bool := decide (1 ≤ x ∧ x ≤ 15)
def numB (x : Int) : Bool := decide (0 ≤ x ∧ x ≤ 3)
theorem validHorse1_sem (x : Int) : Sem1 140 [pi x] (pb (!sizeB x)) := by
  refine semC_of_exec' mixed Try.func140 (by kernel_rfl) (by kernel_rfl) ac140_ok 1 rfl (by decide) [(.tmp 2)] (by kernel_rfl) ?_
  intro hr C hC hI
  unfold ac140
  simp only [go_sem, Nat.reduceBEq]
  refine call_pure2 hC (within_sem ..) rfl (PVleL_refl _) ?_
  rintro r rfl
  simp only [go_sem, Nat.reduceBEq]
  exact retQ_one rfl (by rw [sizeB, dec_not])
def nHorse (b : DBook) (h : List Int) : Bool := decide ((h.length : Int) = b.round ∧ ∀ x ∈ h, 1 ≤ x ∧ x ≤ 15)
def okHorse (b : DBook) (h : List Int) : Prop := (h.length : Int) = b.round ∧ ∀ x ∈ h, 1 ≤ x ∧ x ≤ 15
instance (b : DBook) (h : List Int) : Decidable (okHorse b h) := by unfold okHorse; infer_instance
theorem validHorse_sem (k : SK) (b : DBook) (h : List Int) : Sem1 105 [.agg (bookC k b), pis h] (pb (decide (okHorse b h))) := by
  refine semC_of_exec' mixed Try.func105 (by kernel_rfl) (by kernel_rfl) ac105_ok 2 rfl (by decide) [(.tmp 4)] (by kernel_rfl) ?_
  intro hr C hC hI
  unfold ac105
  simp only [go_sem, Nat.reduceBEq, Nat.reduceAdd, List.length_map]
  refine ⟨fun h1 => ?_, fun h1 => ?_⟩
  · refine call_pure2 hC (ContainsFunc_sem validHorse1_sem h) rfl (PVleL_refl _) ?_
    rintro r rfl
    simp only [go_sem, Nat.reduceBEq]
    refine retQ_one rfl (congrArg pb ?_)
    have : (h.any fun x => !sizeB x) = !decide (okHorse b h) := by
      rw [← List.not_all_eq_any_not]
      congr 1
      unfold okHorse
      rw [Bool.eq_iff_iff]
      simp [h1, sizeB]
    rw [this, Bool.not_not]
  · exact retQ_one rfl (congrArg pb (decide_eq_false fun h2 => h1 h2.1).symm)
theorem validBook1_sem (k : SK) (b : DBook) (h : List Int) : Sem1 104 [pis h, .ptr (bookC k b) 0] (pb (!nHorse b h)) := by
  refine semC_of_exec' mixed Try.func104 (by kernel_rfl) (by kernel_rfl) ac104_ok 2 rfl (by decide) [(.tmp 3)] (by kernel_rfl) ?_
  intro hr C hC hI
  unfold ac104
  simp only [go_sem, Nat.reduceBEq, Nat.reduceAdd]
  refine call_pure2 hC (validHorse_sem k b h) rfl (PVleL_refl _) ?_
  rintro r rfl
  simp only [go_sem, Nat.reduceBEq]
  exact retQ_one rfl (by rw [nHorse, dec_not]; rfl)
def okBook (b : DBook) : Prop := (1 ≤ b.round ∧ b.round ≤ 8) ∧ (1 ≤ b.horses.length ∧ b.horses.length ≤ 6) ∧ ∀ h ∈ b.horses, okHorse b h
instance (b : DBook) : Decidable (okBook b) := by unfold okBook; infer_instance
theorem validBook_sem (k : SK) (b : DBook) : Sem1 72 [.agg (bookC k b)] (pb (decide (okBook b))) := by
  refine semC_of_exec' mixed Try.func72 (by kernel_rfl) (by kernel_rfl) ac72_ok 1 rfl (by decide) [(.tmp 2)] (by kernel_rfl) ?_
  intro hr C hC hI
  unfold ac72
  simp only [go_sem, Nat.reduceBEq, Nat.reduceAdd]
  refine call_pure2 hC (within_sem ..) rfl (PVleL_refl _) ?_
  rintro r rfl
  simp only [go_sem, Nat.reduceBEq]
  refine ⟨fun h1 => ?_, fun h1 => ?_⟩
  rotate_left
  · exact retQ_one rfl (congrArg pb (decide_eq_false fun h => h1 h.1).symm)
  refine call_pure2 hC (within_sem ..) rfl (PVleL_refl _) ?_
  rintro r rfl
  simp only [go_sem, Nat.reduceBEq]
  rw [List.length_map]
  refine ⟨fun h2 => ?_, fun h2 => ?_⟩
  rotate_left
  · exact retQ_one rfl (congrArg pb (decide_eq_false fun h => h2 (by have := h.2.1; omega)).symm)
  refine call_purA hC (ContainsFunc2_sem (fun h => validBook1_sem k b h) k b.horses) (L' := [.frz (bookC k b)]) rfl (PVleL_refl _) ?_
  rintro r rfl
  simp only [go_sem, Nat.reduceBEq]
  refine retQ_one rfl (congrArg pb ?_)
  have : (b.horses.any fun h => !nHorse b h) = !decide (okBook b) := by
    rw [← List.not_all_eq_any_not]
    congr 1
    rw [Bool.eq_iff_iff, decide_eq_true_eq, List.all_eq_true]
    exact ⟨fun h => ⟨h1, by omega, fun x hx => of_decide_eq_true (h x hx)⟩, fun h x hx => decide_eq_true (h.2.2 x hx)⟩
  rw [this, Bool.not_not]
theorem Check_sem (k : SK) (b : DBook) : Sem1 21 [.agg (bookC k b)] (pi (if okBook b then 0 else 70)) := by
  refine semC_of_exec' mixed Try.func21 (by kernel_rfl) (by kernel_rfl) ac21_ok 1 rfl (by decide) [(.tmp 2)] (by kernel_rfl) ?_
  intro hr C hC hI
  unfold ac21
  simp only [go_sem, Nat.reduceBEq, Nat.reduceAdd]
  refine call_pure2 hC (validBook_sem k b) rfl (PVleL_refl _) ?_
  rintro r rfl
  simp only [go_sem, Nat.reduceBEq]
  refine ⟨fun h => ?_, fun h => ?_⟩
  · exact retQ_one rfl (by rw [if_neg h])
  · exact retQ_one rfl (by rw [if_pos h])
theorem hasHorse_sem (k : SK) (b : DBook) (n : Int) : Sem1 98 [.agg (bookC k b), pi n] (pb (decide (0 ≤ n ∧ n < b.horses.length))) := by
  refine semC_of_exec' mixed Try.func98 (by kernel_rfl) (by kernel_rfl) ac98_ok 2 rfl (by decide) [(.tmp 4)] (by kernel_rfl) ?_
  intro hr C hC hI
  unfold ac98
  simp only [go_sem, Nat.reduceBEq, Nat.reduceAdd, List.length_map]
  have hl := real_aggL (i := 0) (j := 1) hr rfl rfl
  rw [List.length_map] at hl
  refine call_pure2 hC (within_sem ..) rfl (PVleL_refl _) ?_
  rintro r rfl
  simp only [go_sem, Nat.reduceBEq]
  rw [wrap_id (n := (b.horses.length : Int) - 1) (by omega) (by omega)]
  exact retQ_one rfl (congrArg pb (decide_eq_decide.2 (by omega)))
theorem hasPair_sem (k : SK) (b : DBook) (n m : Int) : Sem1 65 [.agg (bookC k b), pi n, pi m] (pb (decide ((0 ≤ n ∧ n < b.horses.length) ∧ (0 ≤ m ∧ m < b.horses.length) ∧ n ≠ m))) := by
  refine semC_of_exec' mixed Try.func65 (by kernel_rfl) (by kernel_rfl) ac65_ok 3 rfl (by decide) [(.tmp 6)] (by kernel_rfl) ?_
  intro hr C hC hI
  unfold ac65
  simp only [go_sem, Nat.reduceBEq, Nat.reduceAdd]
  refine call_pure2 hC (hasHorse_sem k b n) rfl (PVleL_refl _) ?_
  rintro r rfl
  simp only [go_sem, Nat.reduceBEq, Nat.reduceAdd]
  refine ⟨fun h1 => ?_, fun h1 => retQ_one rfl (congrArg pb (decide_eq_false fun h => h1 h.1).symm)⟩
  refine call_pure2 hC (hasHorse_sem k b m) rfl (PVleL_refl _) ?_
  rintro r rfl
  simp only [go_sem, Nat.reduceBEq]
  refine ⟨fun h2 => ?_, fun h2 => retQ_one rfl (congrArg pb (decide_eq_false fun h => h2 h.2.1).symm)⟩
  exact retQ_one rfl (congrArg pb (by rw [Bool.eq_iff_iff]; simp [h1, h2]))
theorem isRow1_sem (x : Int) : Sem1 110 [pi x] (pb (!numB x)) := by
  refine semC_of_exec' mixed Try.func110 (by kernel_rfl) (by kernel_rfl) ac110_ok 1 rfl (by decide) [(.tmp 2)] (by kernel_rfl) ?_
  intro hr C hC hI
  unfold ac110
  simp only [go_sem, Nat.reduceBEq]
  refine call_pure2 hC (within_sem ..) rfl (PVleL_refl _) ?_
  rintro r rfl
  simp only [go_sem, Nat.reduceBEq]
  exact retQ_one rfl (by rw [numB, dec_not])
def okRow (b : DBook) (r : List Int) : Prop := (r.length : Int) = b.round ∧ ∀ x ∈ r, 0 ≤ x ∧ x ≤ 3
instance (b : DBook) (h : List Int) : Decidable (okRow b h) := by unfold okRow; infer_instance
theorem isRow_sem (k : SK) (b : DBook) (h : List Int) : Sem1 75 [.agg (bookC k b), pis h] (pb (decide (okRow b h))) := by
  refine semC_of_exec' mixed Try.func75 (by kernel_rfl) (by kernel_rfl) ac75_ok 2 rfl (by decide) [(.tmp 4)] (by kernel_rfl) ?_
  intro hr C hC hI
  unfold ac75
  simp only [go_sem, Nat.reduceBEq, Nat.reduceAdd, List.length_map]
  refine ⟨fun h1 => ?_, fun h1 => ?_⟩
  · refine call_pure2 hC (ContainsFunc_sem isRow1_sem h) rfl (PVleL_refl _) ?_
    rintro r rfl
    simp only [go_sem, Nat.reduceBEq]
    refine retQ_one rfl (congrArg pb ?_)
    have : (h.any fun x => !numB x) = !decide (okRow b h) := by
      rw [← List.not_all_eq_any_not]
      congr 1
      unfold okRow
      rw [Bool.eq_iff_iff]
      simp [h1, numB]
    rw [this, Bool.not_not]
  · exact retQ_one rfl (congrArg pb (decide_eq_false fun h2 => h1 h2.1).symm)
theorem handedOn_sem (k : SK) (sz : Nat) (l : List Int) (hsz : sz = 1 ∨ l = []) : Sem1 66 [.sl k sz (l.map fun x => [pi x])] (.sl .full 1 (l.map fun x => [pi x])) := by
  refine semC_of_exec' mixed Try.func66 (by kernel_rfl) (by kernel_rfl) ac66_ok 1 rfl (by decide) [(.tmp 2)] (by kernel_rfl) ?_
  intro hr C hC hI
  unfold ac66
  simp only [go_sem, Nat.reduceBEq, slcS_all (sz := sz) (sz' := 1) (k := k) (es := l.map fun x => [pi x]) (hsz.imp id fun h => by rw [h]; rfl)]
  exact retQ_one rfl rfl
theorem with_sem (k : SK) (sz : Nat) (l : List Int) (x : Int) (hsz : sz = 1 ∨ l = []) (hl : l.length ≤ 1000) : Sem1 118 [.sl k sz (l.map fun x => [pi x]), pi x] (pis (l ++ [x])) := by
  refine semC_of_exec' mixed Try.func118 (by kernel_rfl) (by kernel_rfl) ac118_ok 2 rfl (by decide) [(.tmp 4)] (by kernel_rfl) ?_
  intro hr C hC hI
  unfold ac118
  simp only [go_sem, Nat.reduceBEq]
  refine call_pure2 hC (handedOn_sem k sz l hsz) rfl (PVleL_refl _) ?_
  rintro r rfl
  simp only [go_sem, Nat.reduceBEq, Nat.reduceLeDiff]
  refine ⟨by rw [List.length_map]; omega, fun tk _ => ?_⟩
  refine retQ_le rfl (PVle.sh _ _ _) ?_
  simp
end Go.Proofs.Ythibnlfbdbidjaa
namespace Go.Proofs.Ythibnlfbdbidjaa
open Go.RowKit Go.Shelf Go.ChangeShapes Go.WideShapes Go.Deep

/-- A memory whose cells all stay as they are. -/
def memG (w : World) : GP := ⟨fun b o => (w.cell? ⟨b, o, none⟩).filter (·.oneCell'), fun _ => none, 0⟩
theorem memG_agree (w : World) : Agree (memG w) w :=
  ⟨fun b o v h => .inl (by simpa [memG, Option.filter_eq_some_iff] using h), ⟨0, fun _ _ => rfl⟩⟩
theorem memG_frz {w : World} {b o : Nat} {v : Value} (h : w.cell? ⟨b, o, none⟩ = some v) (h1 : v.oneCell' = true) : (memG w).cel b o v := ⟨by simp [memG, h, h1], h1⟩

def TyF (T : TypeId → List PV → Prop) : List Field → List PV → Prop
  | [], x => x = []
  | g :: gs, x => ∃ a b, x = a ++ b ∧ T g.type a ∧ TyF T gs b
def TyN (T : List PV → Prop) : Nat → List PV → Prop
  | 0, x => x = []
  | n + 1, x => ∃ a b, x = a ++ b ∧ T a ∧ TyN T n b
/-- What a type's values look like. -/
def Ty (P : Program) : Nat → TypeId → List PV → Prop
  | 0, _, _ => False
  | f + 1, t, x => match P.underlying t with
    | some .bool => ∃ b, x = [.val (.bool b)]
    | some (.int k) => ∃ n, x = [.val (.int k n)] ∧ k.min ≤ n ∧ n ≤ k.max
    | some (.slice e) => ∃ es, x = [.sl .sh (P.cellsOf e) es] ∧ es.length ≤ 140737488355328 ∧ ∀ y ∈ es, y.length = P.cellsOf e ∧ Ty P f e y
    | some (.struct fs) => TyF (Ty P f) fs.toList x
    | some (.array n e) => TyN (Ty P f e) n x
    | _ => False
/-- Do the parts of a type's values lie one behind the other? -/
def flds (P : Program) : Nat → List Field → Nat → Bool
  | o, [], n => o == n
  | o, g :: gs, n => (g.offset == o) && flds P (o + P.cellsOf g.type) gs n
def layB (P : Program) : Nat → TypeId → Bool
  | 0, _ => false
  | f + 1, t => match P.underlying t with
    | some .bool => true
    | some (.int _) => true
    | some (.slice e) => decide (0 < P.bytesOf e) && decide (0 < P.cellsOf e) && layB P f e
    | some (.struct fs) => flds P 0 fs.toList (P.cellsOf t) && fs.toList.all fun g => layB P f g.type
    | some (.array n e) => decide (P.cellsOf t = n * P.cellsOf e) && layB P f e
    | _ => false
def SizedP {H : Type} (P : Program) (t : TypeId) (d : DataW H) : Prop := ∀ n ∈ d.weights P t, n ≤ reachBytes

section
variable {H : Type} {P : Program} {enc : TypeId × Value → H} {w : World} {base : Nat} {spare : Nat → Bool} {held : Bool}
theorem sizedP_agg {t : TypeId} {fs : Array Field} {ds : List (DataW H)} (hu : P.underlying t = some (.struct fs)) (h : SizedP P t (.agg ds)) {j : Nat} {f : Field} {d : DataW H} (hf : fs[j]? = some f) (hd : ds[j]? = some d) : SizedP P f.type d := by
  intro n hn
  refine h n ?_
  simp only [DataW.weights, hu]
  exact DataW.weights_mem_each (by simp [hf]) hd n hn
theorem sizedP_all {e : TypeId} : ∀ {ds : List (DataW H)} {d : DataW H}, d ∈ ds → ∀ n ∈ d.weights P e, n ∈ DataW.weightsAll P e ds
  | d0 :: ds, d, hd, n, hn => by
    simp only [DataW.weightsAll, List.mem_append]
    rcases List.mem_cons.1 hd with rfl | hd
    · exact .inl hn
    · exact .inr (sizedP_all hd n hn)
theorem sizedP_elem {t e : TypeId} {es sp : List (DataW H)} (hu : P.underlying t = some (.slice e)) (h : SizedP P t (.slice es sp)) {d : DataW H} (hd : d ∈ es) : SizedP P e d := by
  intro n hn
  refine h n ?_
  simp only [DataW.weights, hu, List.mem_cons, List.mem_append]
  exact .inr (.inl (sizedP_all hd n hn))
theorem sizedP_arr {t e : TypeId} {m : Nat} {es : List (DataW H)} (hu : P.underlying t = some (.array m e)) (h : SizedP P t (.agg es)) {d : DataW H} (hd : d ∈ es) : SizedP P e d := by
  intro n hn
  refine h n ?_
  simp only [DataW.weights, hu]
  exact sizedP_all hd n hn
theorem sizedP_len {t e : TypeId} {es sp : List (DataW H)} (hu : P.underlying t = some (.slice e)) (h : SizedP P t (.slice es sp)) : (es.length + sp.length) * P.bytesOf e ≤ reachBytes := by
  refine h _ ?_
  simp only [DataW.weights, hu, List.mem_cons, true_or]

theorem relLP_app {g : GP} {a b : List PV} {u v : List Value} (h : RelLP g a u) (k : RelLP g b v) : RelLP g (a ++ b) (u ++ v) := by
  refine ⟨by simp [h.len, k.len], fun x hx => ?_, fun i x y hx hy => ?_⟩
  · rcases List.mem_append.1 hx with hx | hx
    · exact h.one x hx
    · exact k.one x hx
  · by_cases hi : i < a.length
    · rw [List.getElem?_append_left hi] at hx
      rw [List.getElem?_append_left (by rw [← h.len]; exact hi)] at hy
      exact h.at_ i x y hx hy
    · rw [List.getElem?_append_right (by omega)] at hx
      rw [List.getElem?_append_right (by rw [← h.len]; omega), ← h.len] at hy
      exact k.at_ _ x y hx hy
theorem relLP_nil {g : GP} : RelLP g [] [] := ⟨rfl, fun v hv => (by cases hv), fun i x v hx => by simp at hx⟩
theorem relLP_one {g : GP} {x : PV} {v : Value} (h : RelP g x v) (h1 : v.oneCell' = true) : RelLP g [x] [v] :=
  ⟨rfl, fun u hu => by simp at hu; subst hu; exact h1, fun i y u hy hu => by
    cases i with
    | zero => simp at hy hu; subst hy; subst hu; exact h
    | succ i => simp at hy⟩

theorem rd_fields {g : GP} {T : TypeId → List PV → Prop} {cs : List Value} : ∀ {gs : List Field} {o : Nat}, flds P o gs cs.length = true → (∀ f ∈ gs, ∃ x, RelLP g x ((cs.drop f.offset).take (P.cellsOf f.type)) ∧ T f.type x) →
    ∃ x, RelLP g x (cs.drop o) ∧ TyF T gs x
  | [], o, h, _ => by
    have : o = cs.length := by simpa [flds] using h
    subst this
    exact ⟨[], by rw [List.drop_length]; exact relLP_nil, rfl⟩
  | f :: gs, o, h, hf => by
    simp only [flds, Bool.and_eq_true, beq_iff_eq] at h
    obtain ⟨a, ha, hTa⟩ := hf f (List.mem_cons_self ..)
    obtain ⟨b, hb, hTb⟩ := rd_fields h.2 (fun f' hf' => hf f' (List.mem_cons_of_mem _ hf'))
    rw [h.1] at ha
    refine ⟨a ++ b, ?_, a, b, rfl, hTa, hTb⟩
    have := relLP_app ha hb
    rwa [← List.drop_drop, List.take_append_drop] at this
theorem rd_array {g : GP} {T : List PV → Prop} {c : Nat} {cs : List Value} : ∀ (m i : Nat), cs.length = (i + m) * c → (∀ j, i ≤ j → j < i + m → ∃ x, RelLP g x ((cs.drop (j * c)).take c) ∧ T x) → ∃ x, RelLP g x (cs.drop (i * c)) ∧ TyN T m x
  | 0, i, h, _ => ⟨[], by rw [List.drop_eq_nil_of_le (by rw [h, Nat.add_zero]; exact Nat.le_refl _)]; exact relLP_nil, rfl⟩
  | m + 1, i, h, hf => by
    obtain ⟨a, ha, hTa⟩ := hf i (Nat.le_refl _) (by omega)
    obtain ⟨b, hb, hTb⟩ := rd_array m (i + 1) (by rw [h]; congr 1; omega) (fun j h1 h2 => hf j (by omega) (by omega))
    refine ⟨a ++ b, ?_, a, b, rfl, hTa, hTb⟩
    have := relLP_app ha hb
    rwa [Nat.add_mul, Nat.one_mul, ← List.drop_drop, List.take_append_drop] at this

theorem list_ofP {α : Type} {p : Nat → α → Prop} {n : Nat} (h : ∀ i, i < n → ∃ x, p i x) : ∃ xs : List α, xs.length = n ∧ ∀ i x, xs[i]? = some x → p i x := by
  induction n with
  | zero => exact ⟨[], rfl, fun i x hx => by simp at hx⟩
  | succ n ih =>
    obtain ⟨xs, hl, hx⟩ := ih (fun i hi => h i (by omega))
    obtain ⟨x, hp⟩ := h n (by omega)
    refine ⟨xs ++ [x], by simp [hl], fun i y hy => ?_⟩
    by_cases e : i < xs.length
    · rw [List.getElem?_append_left e] at hy; exact hx i y hy
    · rw [List.getElem?_append_right (by omega)] at hy
      cases hq : i - xs.length with
      | zero => rw [hq] at hy; simp at hy; subst hy; rw [show i = n by omega]; exact hp
      | succ q => rw [hq] at hy; simp at hy

theorem addPlain (b o i : Nat) : (⟨b, o, none⟩ : Addr).add i = ⟨b, o + i, none⟩ := by
  unfold Addr.add
  split
  · rename_i h; subst h; rfl
  · rfl
/-- What is read out of memory. -/
theorem rd_trod : ∀ (f : Nat) {t : TypeId} {cs : List Value} {fuel : Nat} {x : DataW H × List MemPlace}, layB P f t = true → DataW.trod enc P w base spare held fuel t cs = some x → SizedP P t x.1 → ∃ l, RelLP (memG w) l cs ∧ Ty P f t l
  | 0, t, cs, fuel, x, hl, _, _ => by simp [layB] at hl
  | f + 1, t, cs, fuel, x, hl, h, hz => by
    simp only [layB] at hl
    split at hl
    · rename_i hu
      cases fuel with
      | zero => simp [DataW.trod] at h
      | succ m =>
        unfold DataW.trod at h
        rw [hu] at h
        split at h <;> simp_all
        exact ⟨[.val (.bool _)], relLP_one (.val _ rfl) rfl, by simp [Ty, hu]⟩
    · rename_i k hu
      cases fuel with
      | zero => simp [DataW.trod] at h
      | succ m =>
        unfold DataW.trod at h
        rw [hu] at h
        split at h <;> simp_all
        obtain ⟨⟨rfl, hw⟩, _⟩ := h
        exact ⟨[.val (.int _ _)], relLP_one (.val _ (by simpa [scalar, Lit.wf] using hw)) rfl, by simpa [Ty, hu, Lit.wf] using hw⟩
    · rename_i e hu
      simp only [Bool.and_eq_true, decide_eq_true_eq] at hl
      obtain ⟨⟨hb0, hc0⟩, hle⟩ := hl
      rcases open_slice hu h with ⟨rfl, _⟩ | ⟨a, len, cap, m, n, D, Pl, rfl, hb, hlc, hm, hmm, rfl, hi⟩
      · refine ⟨[.sl .sh (P.cellsOf e) []], relLP_one (.sl .sh _ [] none 0 0 (fun _ _ => undef) rfl (by omega) (Nat.le_refl _) (by unfold maxLen; omega) (by trivial) (fun i e he => by simp at he) (fun i hi => by omega) (fun i j e x he => by simp at he)) rfl, ?_⟩
        simp only [Ty, hu]
        exact ⟨[], rfl, by simp, fun y hy => by cases hy⟩
      · have hlm : len ≤ m := by rw [hmm]; split <;> omega
        have hx : ∀ i, i < len → ∃ p : List PV × List Value, w.cells? base (a.add (i * P.cellsOf e)) (P.cellsOf e) = some p.2 ∧ RelLP (memG w) p.1 p.2 ∧ Ty P f e p.1 := fun i hil => by
          obtain ⟨cs', hc, ht⟩ := hi i (by omega)
          obtain ⟨l, h1, h2⟩ := rd_trod f hle ht (sizedP_elem hu hz (List.mem_map.2 ⟨i, by simpa using hil, rfl⟩))
          exact ⟨(l, cs'), hc, h1, h2⟩
        obtain ⟨ps, hpl, hps⟩ := list_ofP hx
        have hlen : len ≤ 140737488355328 := by
          have h1 := sizedP_len hu hz
          simp only [List.length_map, List.length_range] at h1
          have h2 : len ≤ (len + (m - len)) * P.bytesOf e := Nat.le_trans (Nat.le_add_right _ _) (Nat.le_mul_of_pos_right _ hb0)
          simp only [reachBytes] at h1
          omega
        obtain ⟨b, o, sp⟩ := a
        have hsp : 0 < len → sp = none := fun h0 => by
          obtain ⟨cs', hc, _⟩ := hi 0 (by omega)
          obtain ⟨_, h2, h3⟩ := World.cells?_some hc
          have h0' := h3 0 hc0
          rw [List.getElem?_eq_getElem (by omega)] at h0'
          simpa [Addr.add] using World.cell?_spot h0'
        have cell : ∀ i (p : List PV × List Value), ps[i]? = some p → p.2.length = P.cellsOf e ∧ sp = none ∧ ∀ j (v : Value), p.2[j]? = some v → w.cell? ⟨b, o + i * P.cellsOf e + j, none⟩ = some v := fun i p hp => by
          obtain ⟨_, h2, h3⟩ := World.cells?_some (hps i p hp).1
          have hil : i < ps.length := (List.getElem?_eq_some_iff.1 hp).1
          have hs := hsp (by omega)
          subst hs
          refine ⟨h2, rfl, fun j v hv => ?_⟩
          have hj : j < P.cellsOf e := by have := (List.getElem?_eq_some_iff.1 hv).1; omega
          have := h3 j hj
          rw [hv, addPlain, addPlain] at this
          exact this
        refine ⟨[.sl .sh (P.cellsOf e) (ps.map (·.1))], relLP_one (.sl .sh _ _ (some ⟨b, o, sp⟩) len cap (fun i j => (ps.getD i ([], [])).2.getD j undef) (by simpa using hpl) hlen hlc hm (by trivial) (fun i y hy => ?_) (fun i hil => ?_) (fun i j y z hy hz => ?_)) rfl, ?_⟩
        · rw [List.getElem?_map, Option.map_eq_some_iff] at hy
          obtain ⟨p, hp, rfl⟩ := hy
          rw [(hps i p hp).2.1.len, (cell i p hp).1]
        · have hp : ps[i]? = some ps[i] := List.getElem?_eq_getElem (by omega)
          obtain ⟨h1, h2, h3⟩ := cell i _ hp
          subst h2
          refine ⟨b, o, rfl, fun j hj => ?_⟩
          have hv : ps[i].2[j]? = some ps[i].2[j] := List.getElem?_eq_getElem (by omega)
          have he : (ps.getD i ([], [])).2.getD j undef = ps[i].2[j] := by
            simp [List.getD_eq_getElem?_getD, hp, hv]
          rw [he]
          exact memG_frz (h3 j _ hv) ((hps i _ hp).2.1.one _ (List.getElem_mem _))
        · rw [List.getElem?_map, Option.map_eq_some_iff] at hy
          obtain ⟨p, hp, rfl⟩ := hy
          have hj : j < p.2.length := by rw [← (hps i p hp).2.1.len]; exact (List.getElem?_eq_some_iff.1 hz).1
          have hv : p.2[j]? = some p.2[j] := List.getElem?_eq_getElem hj
          have he : (ps.getD i ([], [])).2.getD j undef = p.2[j] := by
            simp [List.getD_eq_getElem?_getD, hp, hv]
          rw [he]
          exact (hps i p hp).2.1.at_ j z _ hz hv
        · simp only [Ty, hu]
          refine ⟨_, rfl, by simp; omega, fun y hy => ?_⟩
          obtain ⟨p, hp, rfl⟩ := List.mem_map.1 hy
          obtain ⟨i, hpi⟩ := List.mem_iff_getElem?.1 hp
          exact ⟨by rw [(hps i p hpi).2.1.len, (cell i p hpi).1], (hps i p hpi).2.2⟩
    · rename_i fs hu
      simp only [Bool.and_eq_true] at hl
      obtain ⟨xs, n, _, rfl, hlen, hxl, hf⟩ := DataW.trod_struct hu h
      have := rd_fields (g := memG w) (T := Ty P f) (cs := cs) (gs := fs.toList) (o := 0) (by rw [hlen]; exact hl.1) (fun g hg => by
        obtain ⟨j, hj⟩ := List.mem_iff_getElem?.1 hg
        have hj' : fs[j]? = some g := by simpa using hj
        have hlt : j < xs.length := by rw [hxl]; exact (Array.getElem?_eq_some_iff.1 hj').1
        have h1 := hf j g hj'
        rw [List.getElem?_eq_getElem hlt] at h1
        exact rd_trod f (List.all_eq_true.1 hl.2 g hg) h1 (sizedP_agg hu hz hj' (by simp [List.getElem?_eq_getElem hlt])))
      obtain ⟨l, h1, h2⟩ := this
      exact ⟨l, by simpa using h1, by simpa only [Ty, hu] using h2⟩
    · rename_i n e hu
      simp only [Bool.and_eq_true, decide_eq_true_eq] at hl
      obtain ⟨xs, m, _, rfl, hlen, hxl, hf⟩ := DataW.trod_array hu h
      have := rd_array (g := memG w) (T := Ty P f e) (c := P.cellsOf e) (cs := cs) n 0 (by rw [hlen, hl.1]; simp) (fun j _ hj => by
        have hlt : j < xs.length := by omega
        have h1 := hf j (by omega)
        rw [List.getElem?_eq_getElem hlt] at h1
        exact rd_trod f hl.2 h1 (sizedP_arr hu hz (List.mem_map.2 ⟨_, List.getElem_mem hlt, rfl⟩)))
      obtain ⟨l, h1, h2⟩ := this
      exact ⟨l, by simpa using h1, by simpa only [Ty, hu] using h2⟩
    · cases hl
/-- An argument of a type, out of what its cells are. -/
def argPV (P : Program) (t : TypeId) (l : List PV) : PV :=
  match P.underlying t with
  | some (.struct _) => .agg l
  | some (.array _ _) => .agg l
  | _ => l.headD .any
theorem rd_arg {r : Reach} {b0 : Nat} {t : TypeId} {v : Value} {d : DataW H} {p : List MemPlace} (f : Nat) (hl : layB P f t = true) (hv : Value.okWide P w r b0 t v) (h : DataW.Trod enc P w base spare held t v d p) (hz : SizedP P t d) : ∃ l, Ty P f t l ∧ RelP (memG w) (argPV P t l) v := by
  obtain ⟨fuel, h⟩ := h
  obtain ⟨l, h1, h2⟩ := rd_trod f hl h hz
  refine ⟨l, h2, ?_⟩
  have agg : (∃ cs, v = .agg cs) → RelP (memG w) (.agg l) v := by
    rintro ⟨cs, rfl⟩
    exact .agg l cs (by simpa [Value.cells] using h1.len) (fun u hu => h1.one u (by simpa [Value.cells] using hu)) (fun i x u hx hu => h1.at_ i x u hx (by simpa [Value.cells] using hu))
  have one : (∀ cs, v ≠ .agg cs) → RelP (memG w) (l.headD .any) v := fun hne => by
    have hc : v.cells = #[v] := by cases v <;> first | rfl | exact absurd rfl (hne _)
    rw [hc] at h1
    have hlen : l.length = 1 := by simpa using h1.len
    match l, hlen with
    | [x], _ => exact h1.at_ 0 x v rfl rfl
  unfold argPV
  cases f with
  | zero => simp [layB] at hl
  | succ f =>
    simp only [layB] at hl
    split at hl
    · rename_i hu
      rw [hu]
      exact one (fun cs e => by subst e; simp [Value.okWide, hu, Cell.okWide, Cell.ok] at hv)
    · rename_i k hu
      rw [hu]
      exact one (fun cs e => by subst e; simp [Value.okWide, hu, Cell.okWide, Cell.ok] at hv)
    · rename_i e' hu
      rw [hu]
      exact one (fun cs e => by subst e; simp [Value.okWide, hu, Cell.okWide, Cell.ok] at hv)
    · rename_i fs hu
      rw [hu]
      simp only [Value.okWide, hu] at hv
      obtain ⟨cs, h3, _⟩ := hv
      exact agg ⟨cs, h3⟩
    · rename_i n e' hu
      rw [hu]
      simp only [Value.okWide, hu] at hv
      obtain ⟨cs, h3, _⟩ := hv
      exact agg ⟨cs, h3⟩
    · cases hl
end
/-- A law, by its contract. -/
theorem law_calls {P : Program} {f : FuncId} {args : List PV} (h : SemC P f args (fun r => r = pb true)) {W : World} {vs : List Value} (ha : ArgsP (memG W) args vs) :
    Calls P f vs.toArray W fun e W' => e = .returned (.bool true) ∧ Below W.heap.size W W' :=
  (h.2 (memG W) W vs (memG_agree W) ha).mono fun e W' ⟨v, g', r, h1, _, _, _, h2, h3, h4⟩ => by
    subst h3
    cases h2 with
    | val _ _ => exact ⟨h1, h4⟩
theorem argsP_nil {g : GP} : ArgsP g [] [] := ⟨rfl, fun i x v hx => by simp at hx⟩
theorem argsP_cons {g : GP} {x : PV} {v : Value} {l : List PV} {vs : List Value} (h : RelP g x v) (k : ArgsP g l vs) : ArgsP g (x :: l) (v :: vs) :=
  ⟨by simp [k.len], fun i y u hy hu => by
    cases i with
    | zero => simp at hy hu; subst hy; subst hu; exact h
    | succ i => exact k.at_ i y u (by simpa using hy) (by simpa using hu)⟩
end Go.Proofs.Ythibnlfbdbidjaa
namespace Go.Proofs.Ythibnlfbdbidjaa
open Go.RowKit Go.Shelf Go.ChangeShapes Go.WideShapes Go.Deep
theorem sizedP_each {H : Type} {P : Program} {ts : List TypeId} {ds : List (DataW H)} (h : (DataW.weightsEach P ts ds).all (· ≤ reachBytes) = true) {j : Nat} {t : TypeId} {d : DataW H} (ht : ts[j]? = some t) (hd : ds[j]? = some d) : SizedP P t d := fun n hn => by
  have := List.all_eq_true.1 h n (DataW.weights_mem_each ht hd n hn)
  simpa using this
theorem tyStruct {P : Program} {f : Nat} {t : TypeId} {fs : Array Field} {l : List PV} (hu : P.underlying t = some (.struct fs)) (h : Ty P (f + 1) t l) : TyF (Ty P f) fs.toList l := by simpa only [Ty, hu] using h
theorem tySlice {P : Program} {f : Nat} {t e : TypeId} {l : List PV} (hu : P.underlying t = some (.slice e)) (h : Ty P (f + 1) t l) : ∃ es, l = [.sl .sh (P.cellsOf e) es] ∧ es.length ≤ 140737488355328 ∧ ∀ y ∈ es, y.length = P.cellsOf e ∧ Ty P f e y := by simpa only [Ty, hu] using h
theorem tyArray {P : Program} {f n : Nat} {t e : TypeId} {l : List PV} (hu : P.underlying t = some (.array n e)) (h : Ty P (f + 1) t l) : TyN (Ty P f e) n l := by simpa only [Ty, hu] using h
theorem tyInt {P : Program} {f : Nat} {t : TypeId} {k : IntKind} {l : List PV} (hu : P.underlying t = some (.int k)) (h : Ty P (f + 1) t l) : ∃ n, l = [.val (.int k n)] := by
  have h : ∃ n, l = [.val (.int k n)] ∧ k.min ≤ n ∧ n ≤ k.max := by simpa only [Ty, hu] using h
  obtain ⟨n, h, -⟩ := h
  exact ⟨n, h⟩
theorem tyBool {P : Program} {f : Nat} {t : TypeId} {l : List PV} (hu : P.underlying t = some .bool) (h : Ty P (f + 1) t l) : ∃ n, l = [.val (.bool n)] := by simpa only [Ty, hu] using h
/-- Elements of a slice, one by one. -/
theorem list_map_ex {α : Type} {f : α → List PV} : ∀ {es : List (List PV)}, (∀ y ∈ es, ∃ a, y = f a) → ∃ xs : List α, es = xs.map f
  | [], _ => ⟨[], rfl⟩
  | y :: es, h => by
    obtain ⟨a, rfl⟩ := h y (List.mem_cons_self ..)
    obtain ⟨xs, rfl⟩ := list_map_ex (es := es) fun y hy => h y (List.mem_cons_of_mem _ hy)
    exact ⟨a :: xs, rfl⟩
theorem argStruct {P : Program} {t : TypeId} {fs : Array Field} {l : List PV} (hu : P.underlying t = some (.struct fs)) : argPV P t l = .agg l := by unfold argPV; rw [hu]
theorem argArray {P : Program} {n : Nat} {t e : TypeId} {l : List PV} (hu : P.underlying t = some (.array n e)) : argPV P t l = .agg l := by unfold argPV; rw [hu]
theorem argInt {P : Program} {t : TypeId} {k : IntKind} {x : PV} (hu : P.underlying t = some (.int k)) : argPV P t [x] = x := by unfold argPV; rw [hu]; rfl
theorem argSlice {P : Program} {t e : TypeId} {x : PV} (hu : P.underlying t = some (.slice e)) : argPV P t [x] = x := by unfold argPV; rw [hu]; rfl
theorem argBool {P : Program} {t : TypeId} {x : PV} (hu : P.underlying t = some .bool) : argPV P t [x] = x := by unfold argPV; rw [hu]; rfl
end Go.Proofs.Ythibnlfbdbidjaa
