/- Contracts of mend: what is valid. -/
import Derived.Test.YtlcpplkbmlmmbaaGreatCaps04
import Derived.Test.YtlcpplkbmlmmbaaGreatCaps05
namespace Go.Proofs.YtlcpplkbmlmmbaaGreat.Mk.Me
open Go.RowKit Ls
def ac70 : AC := (AC.seq (AC.ops [(AOp.mk (some 6) (AK.mv (AX.c (PV.val (Value.bool false)))) none 0 false true)]) (AC.seq (AC.ops [(AOp.mk (some 7) (AK.mv (AX.t 1)) none 0 false true), (AOp.mk (some 8) (AK.mv (AX.t 0)) none 1 false true), (AOp.mk (some 9) (AK.bin false BinOp.leq (AX.t 7) (AX.t 8)) none 2 false true), (AOp.mk (some 10) (AK.mv (AX.t 9)) none 3 false true), (AOp.mk (some 11) (AK.mv (AX.t 0)) (some (10, true)) 4 false true), (AOp.mk (some 12) (AK.mv (AX.t 2)) (some (10, true)) 5 false true), (AOp.mk (some 13) (AK.bin false BinOp.leq (AX.t 11) (AX.t 12)) (some (10, true)) 6 false true), (AOp.mk (some 14) (AK.pick (AX.t 10) (AX.t 13) (AX.c (PV.val (Value.bool false)))) none 7 false true), (AOp.mk (some 6) (AK.mv (AX.t 14)) none 8 false true)]) AC.ret))
theorem ac70_ok : cCode Tryz.prog (fun _ => false) Tryz.f70.ntmps (Tryz.f70.body.getD .skip) = some ac70 := by kernel_rfl
def ac134 : AC := (AC.seq (AC.ops [(AOp.mk (some 3) (AK.box 2 (AX.t 0)) none 0 false true), (AOp.mk (some 6) (AK.mv (AX.c (PV.val (Value.bool false)))) none 1 false true)]) (AC.seq (AC.ops [(AOp.mk (some 7) (AK.fadr 0 (AX.t 3)) none 0 false true), (AOp.mk (some 8) (AK.ld none (AX.t 7)) none 1 false true), (AOp.mk (some 9) (AK.mv (AX.t 1)) none 2 false true), (AOp.mk (some 10) (AK.call 70 [(AX.t 8), (AX.c (PV.val (Value.int IntKind.i64 0))), (AX.t 9)]) none 3 false true), (AOp.mk (some 11) (AK.mv (AX.t 10)) none 4 false true), (AOp.mk (some 12) (AK.fadr 1 (AX.t 3)) (some (11, true)) 5 false true), (AOp.mk (some 13) (AK.ld none (AX.t 12)) (some (11, true)) 6 false true), (AOp.mk (some 14) (AK.fadr 0 (AX.t 3)) (some (11, true)) 7 false true), (AOp.mk (some 15) (AK.ld none (AX.t 14)) (some (11, true)) 8 false true), (AOp.mk (some 16) (AK.mv (AX.t 1)) (some (11, true)) 9 false true), (AOp.mk (some 17) (AK.call 70 [(AX.t 13), (AX.t 15), (AX.t 16)]) (some (11, true)) 10 false true), (AOp.mk (some 18) (AK.pick (AX.t 11) (AX.t 17) (AX.c (PV.val (Value.bool false)))) none 11 false true), (AOp.mk (some 19) (AK.mv (AX.t 18)) none 12 false true), (AOp.mk (some 20) (AK.fadr 1 (AX.t 3)) (some (19, true)) 13 false true), (AOp.mk (some 21) (AK.ld none (AX.t 20)) (some (19, true)) 14 false true), (AOp.mk (some 22) (AK.fadr 0 (AX.t 3)) (some (19, true)) 15 false true), (AOp.mk (some 23) (AK.ld none (AX.t 22)) (some (19, true)) 16 false true), (AOp.mk (some 24) (AK.bin false BinOp.sub (AX.t 21) (AX.t 23)) (some (19, true)) 17 false true), (AOp.mk (some 25) (AK.mv (AX.t 2)) (some (19, true)) 18 false true), (AOp.mk (some 26) (AK.bin false BinOp.leq (AX.t 24) (AX.t 25)) (some (19, true)) 19 false true), (AOp.mk (some 27) (AK.pick (AX.t 19) (AX.t 26) (AX.c (PV.val (Value.bool false)))) none 20 false true), (AOp.mk (some 6) (AK.mv (AX.t 27)) none 21 false true)]) AC.ret))
theorem ac134_ok : cCode Tryz.prog (fun _ => false) Tryz.f134.ntmps (Tryz.f134.body.getD .skip) = some ac134 := by kernel_rfl
def ac133 : AC := (AC.seq (AC.ops [(AOp.mk (some 1) (AK.box 8 (AX.t 0)) none 0 false true), (AOp.mk (some 2) (AK.mv (AX.c (PV.val (Value.int IntKind.i64 0)))) none 1 false true)]) (AC.seq (AC.ops [(AOp.mk (some 3) (AK.fadr 0 (AX.t 1)) none 0 false true), (AOp.mk (some 4) (AK.fadr 0 (AX.t 3)) none 1 false true), (AOp.mk (some 5) (AK.ld none (AX.t 4)) none 2 false true), (AOp.mk (some 6) (AK.iadrS 1 (AX.t 5) (AX.c (PV.val (Value.int IntKind.i64 0)))) none 3 false true), (AOp.mk (some 7) (AK.ld none (AX.t 6)) none 4 false true), (AOp.mk (some 8) (AK.len (AX.t 7)) none 5 false true), (AOp.mk (some 2) (AK.mv (AX.t 8)) none 6 false true)]) AC.ret))
theorem ac133_ok : cCode Tryz.prog (fun _ => false) Tryz.f133.ntmps (Tryz.f133.body.getD .skip) = some ac133 := by kernel_rfl
def ac91 : AC := (AC.seq (AC.ops [(AOp.mk (some 2) (AK.box 8 (AX.t 0)) none 0 false true), (AOp.mk (some 3) (AK.box 6 (AX.t 1)) none 1 false true), (AOp.mk (some 4) (AK.mv (AX.c (PV.val (Value.bool false)))) none 2 false true)]) (AC.seq (AC.ops [(AOp.mk (some 5) (AK.fadr 0 (AX.t 3)) none 0 true false), (AOp.mk (some 6) (AK.ld none (AX.t 5)) none 1 true false), (AOp.mk (some 7) (AK.ld (some 8) (AX.t 2)) none 2 true false), (AOp.mk (some 8) (AK.call 133 [(AX.t 7)]) none 3 false false), (AOp.mk (some 9) (AK.bin false BinOp.sub (AX.t 8) (AX.c (PV.val (Value.int IntKind.i64 1)))) none 4 true false), (AOp.mk (some 10) (AK.call 70 [(AX.t 6), (AX.c (PV.val (Value.int IntKind.i64 0))), (AX.t 9)]) none 5 false true), (AOp.mk (some 11) (AK.mv (AX.t 10)) none 6 true true), (AOp.mk (some 12) (AK.fadr 1 (AX.t 3)) (some (11, true)) 7 true true), (AOp.mk (some 13) (AK.ld (some 2) (AX.t 12)) (some (11, true)) 8 true true), (AOp.mk (some 14) (AK.call 134 [(AX.t 13), (AX.c (PV.val (Value.int IntKind.i64 20))), (AX.c (PV.val (Value.int IntKind.i64 3)))]) (some (11, true)) 9 false true), (AOp.mk (some 15) (AK.pick (AX.t 11) (AX.t 14) (AX.c (PV.val (Value.bool false)))) none 10 true true), (AOp.mk (some 16) (AK.mv (AX.t 15)) none 11 true true), (AOp.mk (some 17) (AK.fadr 3 (AX.t 3)) (some (16, true)) 12 true true), (AOp.mk (some 18) (AK.ld (some 2) (AX.t 17)) (some (16, true)) 13 true true), (AOp.mk (some 19) (AK.call 134 [(AX.t 18), (AX.c (PV.val (Value.int IntKind.i64 99))), (AX.c (PV.val (Value.int IntKind.i64 4)))]) (some (16, true)) 14 false true), (AOp.mk (some 20) (AK.pick (AX.t 16) (AX.t 19) (AX.c (PV.val (Value.bool false)))) none 15 true true), (AOp.mk (some 21) (AK.mv (AX.t 20)) none 16 true true), (AOp.mk (some 22) (AK.fadr 5 (AX.t 3)) (some (21, true)) 17 true true), (AOp.mk (some 23) (AK.ld none (AX.t 22)) (some (21, true)) 18 true true), (AOp.mk (some 24) (AK.bin false BinOp.eql (AX.t 23) (AX.c (PV.val (Value.int IntKind.i64 (-1))))) (some (21, true)) 19 true true), (AOp.mk (some 25) (AK.mv (AX.t 24)) (some (21, true)) 20 true true), (AOp.mk (some 26) (AK.fadr 5 (AX.t 3)) (some (25, false)) 21 true true), (AOp.mk (some 27) (AK.ld none (AX.t 26)) (some (25, false)) 22 true true), (AOp.mk (some 28) (AK.call 70 [(AX.t 27), (AX.c (PV.val (Value.int IntKind.i64 0))), (AX.c (PV.val (Value.int IntKind.i64 999)))]) (some (25, false)) 23 false true), (AOp.mk (some 29) (AK.pick (AX.t 25) (AX.c (PV.val (Value.bool true))) (AX.t 28)) (some (21, true)) 24 true true), (AOp.mk (some 30) (AK.pick (AX.t 21) (AX.t 29) (AX.c (PV.val (Value.bool false)))) none 25 true true), (AOp.mk (some 4) (AK.mv (AX.t 30)) none 26 true true)]) AC.ret))
theorem ac91_ok : cCode Tryz.prog (fun _ => false) Tryz.f91.ntmps (Tryz.f91.body.getD .skip) = some ac91 := by kernel_rfl
def ac95 : AC := (AC.seq (AC.ops [(AOp.mk (some 2) (AK.mv (AX.c (PV.val (Value.bool false)))) none 0 false true)]) (AC.seq (AC.seq (AC.ops [(AOp.mk (some 5) (AK.mv (AX.t 0)) none 0 false true), (AOp.mk (some 6) (AK.len (AX.t 5)) none 1 false true), (AOp.mk (some 7) (AK.call 70 [(AX.t 6), (AX.c (PV.val (Value.int IntKind.i64 1))), (AX.c (PV.val (Value.int IntKind.i64 4)))]) none 2 false true), (AOp.mk (some 8) (AK.un UnOp.not (AX.t 7)) none 3 false true), (AOp.mk (some 9) (AK.mv (AX.t 8)) none 4 false true), (AOp.mk (some 10) (AK.mv (AX.t 0)) (some (9, false)) 5 false true), (AOp.mk (some 11) (AK.iadrS 1 (AX.t 10) (AX.c (PV.val (Value.int IntKind.i64 0)))) (some (9, false)) 6 false true), (AOp.mk (some 12) (AK.ld none (AX.t 11)) (some (9, false)) 7 false true), (AOp.mk (some 13) (AK.bin false BinOp.neq (AX.t 12) (AX.c (PV.val (Value.int IntKind.i64 1)))) (some (9, false)) 8 false true), (AOp.mk (some 14) (AK.pick (AX.t 9) (AX.c (PV.val (Value.bool true))) (AX.t 13)) none 9 false true)]) (AC.cond (AX.t 14) (AC.seq (AC.ops [(AOp.mk (some 2) (AK.mv (AX.c (PV.val (Value.bool false)))) none 0 false true)]) AC.ret) AC.skip)) (AC.seq (AC.seq (AC.ops [(AOp.mk (some 15) (AK.mv (AX.t 0)) none 0 false true), (AOp.mk (some 16) (AK.slc 1 (AX.t 15) (some (AX.c (PV.val (Value.int IntKind.i64 1)))) none none) none 1 false true), (AOp.mk (some 17) (AK.len (AX.t 16)) none 2 false true), (AOp.mk (some 18) (AK.mv (AX.c (PV.val (Value.int IntKind.i64 0)))) none 3 false true)]) (AC.block 0 (AC.loop (AC.seq (AC.ops [(AOp.mk (some 19) (AK.bin false BinOp.lss (AX.t 18) (AX.t 17)) none 0 false true)]) (AC.seq (AC.cond (AX.t 19) AC.skip (AC.exit 0)) (AC.seq (AC.block 1 (AC.seq (AC.ops [(AOp.mk (some 20) (AK.mv (AX.t 18)) none 0 false true), (AOp.mk (some 21) (AK.iadrS 1 (AX.t 16) (AX.t 18)) none 1 false true), (AOp.mk (some 22) (AK.ld none (AX.t 21)) none 2 false true), (AOp.mk (some 3) (AK.mv (AX.t 20)) none 3 false true), (AOp.mk (some 4) (AK.mv (AX.t 22)) none 4 false true)]) (AC.seq (AC.ops [(AOp.mk (some 23) (AK.mv (AX.t 4)) none 0 false true), (AOp.mk (some 24) (AK.mv (AX.t 0)) none 1 false true), (AOp.mk (some 25) (AK.mv (AX.t 3)) none 2 false true), (AOp.mk (some 26) (AK.iadrS 1 (AX.t 24) (AX.t 25)) none 3 false true), (AOp.mk (some 27) (AK.ld none (AX.t 26)) none 4 false true), (AOp.mk (some 28) (AK.bin false BinOp.add (AX.t 27) (AX.c (PV.val (Value.int IntKind.i64 1)))) none 5 false true), (AOp.mk (some 29) (AK.call 70 [(AX.t 23), (AX.t 28), (AX.c (PV.val (Value.int IntKind.i64 240)))]) none 6 false true), (AOp.mk (some 30) (AK.un UnOp.not (AX.t 29)) none 7 false true)]) (AC.cond (AX.t 30) (AC.seq (AC.ops [(AOp.mk (some 2) (AK.mv (AX.c (PV.val (Value.bool false)))) none 0 false true)]) AC.ret) AC.skip)))) (AC.ops [(AOp.mk (some 31) (AK.bin false BinOp.add (AX.t 18) (AX.c (PV.val (Value.int IntKind.i64 1)))) none 0 false true), (AOp.mk (some 18) (AK.mv (AX.t 31)) none 1 false true)]))))))) (AC.seq (AC.ops [(AOp.mk (some 2) (AK.mv (AX.c (PV.val (Value.bool true)))) none 0 false true)]) AC.ret))))
theorem ac95_ok : cCode Tryz.prog (fun _ => false) Tryz.f95.ntmps (Tryz.f95.body.getD .skip) = some ac95 := by kernel_rfl
def ac90 : AC := (AC.seq (AC.ops [(AOp.mk (some 2) (AK.box 6 (AX.t 0)) none 0 false true), (AOp.mk (some 3) (AK.mv (AX.c (PV.val (Value.bool false)))) none 1 false true)]) (AC.seq (AC.ops [(AOp.mk (some 4) (AK.ld (some 8) (AX.t 1)) none 0 false true), (AOp.mk (some 5) (AK.ld (some 6) (AX.t 2)) none 1 false true), (AOp.mk (some 6) (AK.call 91 [(AX.t 4), (AX.t 5)]) none 2 false true), (AOp.mk (some 7) (AK.un UnOp.not (AX.t 6)) none 3 false true), (AOp.mk (some 3) (AK.mv (AX.t 7)) none 4 false true)]) AC.ret))
theorem ac90_ok : cCode Tryz.prog (fun _ => false) Tryz.f90.ntmps (Tryz.f90.body.getD .skip) = some ac90 := by kernel_rfl
def ac92 : AC := (AC.seq (AC.ops [(AOp.mk (some 2) (AK.mv (AX.c (PV.val (Value.bool false)))) none 0 false true)]) (AC.seq (AC.ops [(AOp.mk (some 3) (AK.mv (AX.t 0)) none 0 false true), (AOp.mk (some 4) (AK.call 70 [(AX.t 3), (AX.c (PV.val (Value.int IntKind.i64 0))), (AX.c (PV.val (Value.int IntKind.i64 50)))]) none 1 false true), (AOp.mk (some 5) (AK.un UnOp.not (AX.t 4)) none 2 false true), (AOp.mk (some 2) (AK.mv (AX.t 5)) none 3 false true)]) AC.ret))
theorem ac92_ok : cCode Tryz.prog (fun _ => false) Tryz.f92.ntmps (Tryz.f92.body.getD .skip) = some ac92 := by kernel_rfl
def ac135 : AC := (AC.seq (AC.ops [(AOp.mk (some 4) (AK.mv (AX.c (PV.val (Value.int IntKind.i64 0)))) none 0 false true)]) (AC.seq (AC.seq (AC.ops [(AOp.mk (some 6) (AK.mv (AX.t 0)) none 0 false true), (AOp.mk (some 7) (AK.len (AX.t 6)) none 1 false true), (AOp.mk (some 8) (AK.mv (AX.c (PV.val (Value.int IntKind.i64 0)))) none 2 false true)]) (AC.block 0 (AC.loop (AC.seq (AC.ops [(AOp.mk (some 9) (AK.bin false BinOp.lss (AX.t 8) (AX.t 7)) none 0 false true)]) (AC.seq (AC.cond (AX.t 9) AC.skip (AC.exit 0)) (AC.seq (AC.block 1 (AC.seq (AC.ops [(AOp.mk (some 10) (AK.mv (AX.t 8)) none 0 false true), (AOp.mk (some 5) (AK.mv (AX.t 10)) none 1 false true)]) (AC.seq (AC.ops [(AOp.mk (some 11) (AK.mv (AX.t 1)) none 0 false true), (AOp.mk (some 12) (AK.mv (AX.t 0)) none 1 false true), (AOp.mk (some 13) (AK.mv (AX.t 5)) none 2 false true), (AOp.mk (some 14) (AK.iadrS 6 (AX.t 12) (AX.t 13)) none 3 false true), (AOp.mk (some 15) (AK.ld (some 6) (AX.t 14)) none 4 false true), (AOp.mk (some 16) (AK.callv (AX.t 11) [(AX.t 15)]) none 5 false true)]) (AC.cond (AX.t 16) (AC.seq (AC.ops [(AOp.mk (some 17) (AK.mv (AX.t 5)) none 0 false true), (AOp.mk (some 4) (AK.mv (AX.t 17)) none 1 false true)]) AC.ret) AC.skip)))) (AC.ops [(AOp.mk (some 18) (AK.bin false BinOp.add (AX.t 8) (AX.c (PV.val (Value.int IntKind.i64 1)))) none 0 false true), (AOp.mk (some 8) (AK.mv (AX.t 18)) none 1 false true)]))))))) (AC.seq (AC.ops [(AOp.mk (some 4) (AK.mv (AX.c (PV.val (Value.int IntKind.i64 (-1))))) none 0 false true)]) AC.ret)))
theorem ac135_ok : cCode Tryz.prog (fun _ => false) Tryz.f135.ntmps (Tryz.f135.body.getD .skip) = some ac135 := by kernel_rfl
def ac93 : AC := (AC.seq (AC.ops [(AOp.mk (some 4) (AK.mv (AX.c (PV.val (Value.bool false)))) none 0 false true)]) (AC.seq (AC.ops [(AOp.mk (some 5) (AK.mv (AX.t 0)) none 0 false true), (AOp.mk (some 6) (AK.mv (AX.t 1)) none 1 false true), (AOp.mk (some 7) (AK.call 135 [(AX.t 5), (AX.t 6)]) none 2 false true), (AOp.mk (some 8) (AK.bin false BinOp.geq (AX.t 7) (AX.c (PV.val (Value.int IntKind.i64 0)))) none 3 false true), (AOp.mk (some 4) (AK.mv (AX.t 8)) none 4 false true)]) AC.ret))
theorem ac93_ok : cCode Tryz.prog (fun _ => false) Tryz.f93.ntmps (Tryz.f93.body.getD .skip) = some ac93 := by kernel_rfl
def ac136 : AC := (AC.seq (AC.ops [(AOp.mk (some 4) (AK.mv (AX.c (PV.val (Value.int IntKind.i64 0)))) none 0 false true)]) (AC.seq (AC.seq (AC.ops [(AOp.mk (some 6) (AK.mv (AX.t 0)) none 0 false true), (AOp.mk (some 7) (AK.len (AX.t 6)) none 1 false true), (AOp.mk (some 8) (AK.mv (AX.c (PV.val (Value.int IntKind.i64 0)))) none 2 false true)]) (AC.block 0 (AC.loop (AC.seq (AC.ops [(AOp.mk (some 9) (AK.bin false BinOp.lss (AX.t 8) (AX.t 7)) none 0 false true)]) (AC.seq (AC.cond (AX.t 9) AC.skip (AC.exit 0)) (AC.seq (AC.block 1 (AC.seq (AC.ops [(AOp.mk (some 10) (AK.mv (AX.t 8)) none 0 false true), (AOp.mk (some 5) (AK.mv (AX.t 10)) none 1 false true)]) (AC.seq (AC.ops [(AOp.mk (some 11) (AK.mv (AX.t 1)) none 0 false true), (AOp.mk (some 12) (AK.mv (AX.t 0)) none 1 false true), (AOp.mk (some 13) (AK.mv (AX.t 5)) none 2 false true), (AOp.mk (some 14) (AK.iadrS 1 (AX.t 12) (AX.t 13)) none 3 false true), (AOp.mk (some 15) (AK.ld none (AX.t 14)) none 4 false true), (AOp.mk (some 16) (AK.callv (AX.t 11) [(AX.t 15)]) none 5 false true)]) (AC.cond (AX.t 16) (AC.seq (AC.ops [(AOp.mk (some 17) (AK.mv (AX.t 5)) none 0 false true), (AOp.mk (some 4) (AK.mv (AX.t 17)) none 1 false true)]) AC.ret) AC.skip)))) (AC.ops [(AOp.mk (some 18) (AK.bin false BinOp.add (AX.t 8) (AX.c (PV.val (Value.int IntKind.i64 1)))) none 0 false true), (AOp.mk (some 8) (AK.mv (AX.t 18)) none 1 false true)]))))))) (AC.seq (AC.ops [(AOp.mk (some 4) (AK.mv (AX.c (PV.val (Value.int IntKind.i64 (-1))))) none 0 false true)]) AC.ret)))
theorem ac136_ok : cCode Tryz.prog (fun _ => false) Tryz.f136.ntmps (Tryz.f136.body.getD .skip) = some ac136 := by kernel_rfl
def ac94 : AC := (AC.seq (AC.ops [(AOp.mk (some 4) (AK.mv (AX.c (PV.val (Value.bool false)))) none 0 false true)]) (AC.seq (AC.ops [(AOp.mk (some 5) (AK.mv (AX.t 0)) none 0 false true), (AOp.mk (some 6) (AK.mv (AX.t 1)) none 1 false true), (AOp.mk (some 7) (AK.call 136 [(AX.t 5), (AX.t 6)]) none 2 false true), (AOp.mk (some 8) (AK.bin false BinOp.geq (AX.t 7) (AX.c (PV.val (Value.int IntKind.i64 0)))) none 3 false true), (AOp.mk (some 4) (AK.mv (AX.t 8)) none 4 false true)]) AC.ret))
theorem ac94_ok : cCode Tryz.prog (fun _ => false) Tryz.f94.ntmps (Tryz.f94.body.getD .skip) = some ac94 := by kernel_rfl
def ac58 : AC := (AC.seq (AC.ops [(AOp.mk (some 1) (AK.box 8 (AX.t 0)) none 0 false true), (AOp.mk (some 2) (AK.mv (AX.c (PV.val (Value.bool false)))) none 1 false true)]) (AC.seq (AC.seq (AC.ops [(AOp.mk (some 5) (AK.fadr 0 (AX.t 1)) none 0 false true), (AOp.mk (some 6) (AK.ld (some 4) (AX.t 5)) none 1 false true), (AOp.mk (some 7) (AK.call 73 [(AX.t 6)]) none 2 false true), (AOp.mk (some 8) (AK.bin false BinOp.neq (AX.t 7) (AX.c (PV.val (Value.int IntKind.i64 0)))) none 3 false true), (AOp.mk (some 9) (AK.mv (AX.t 8)) none 4 false true), (AOp.mk (some 10) (AK.fadr 4 (AX.t 1)) (some (9, false)) 5 false true), (AOp.mk (some 11) (AK.ld none (AX.t 10)) (some (9, false)) 6 false true), (AOp.mk (some 12) (AK.len (AX.t 11)) (some (9, false)) 7 false true), (AOp.mk (some 13) (AK.call 70 [(AX.t 12), (AX.c (PV.val (Value.int IntKind.i64 1))), (AX.c (PV.val (Value.int IntKind.i64 4)))]) (some (9, false)) 8 false true), (AOp.mk (some 14) (AK.un UnOp.not (AX.t 13)) (some (9, false)) 9 false true), (AOp.mk (some 15) (AK.pick (AX.t 9) (AX.c (PV.val (Value.bool true))) (AX.t 14)) none 10 false true), (AOp.mk (some 16) (AK.mv (AX.t 15)) none 11 false true), (AOp.mk (some 17) (AK.fadr 6 (AX.t 1)) (some (16, false)) 12 false true), (AOp.mk (some 18) (AK.ld none (AX.t 17)) (some (16, false)) 13 false true), (AOp.mk (some 19) (AK.len (AX.t 18)) (some (16, false)) 14 false true), (AOp.mk (some 20) (AK.fadr 0 (AX.t 1)) (some (16, false)) 15 false true), (AOp.mk (some 21) (AK.fadr 0 (AX.t 20)) (some (16, false)) 16 false true), (AOp.mk (some 22) (AK.ld none (AX.t 21)) (some (16, false)) 17 false true), (AOp.mk (some 23) (AK.len (AX.t 22)) (some (16, false)) 18 false true), (AOp.mk (some 24) (AK.bin false BinOp.neq (AX.t 19) (AX.t 23)) (some (16, false)) 19 false true), (AOp.mk (some 25) (AK.pick (AX.t 16) (AX.c (PV.val (Value.bool true))) (AX.t 24)) none 20 false true)]) (AC.cond (AX.t 25) (AC.seq (AC.ops [(AOp.mk (some 2) (AK.mv (AX.c (PV.val (Value.bool false)))) none 0 false true)]) AC.ret) AC.skip)) (AC.seq (AC.ops [(AOp.mk (some 26) (AK.mkf 90 [] [(AX.t 1)]) none 0 false true), (AOp.mk (some 3) (AK.mv (AX.t 26)) none 1 false true)]) (AC.seq (AC.ops [(AOp.mk (some 4) (AK.mv (AX.c (PV.val (Value.func (Fn.func 92) #[] #[])))) none 0 false true)]) (AC.seq (AC.ops [(AOp.mk (some 27) (AK.fadr 4 (AX.t 1)) none 0 false true), (AOp.mk (some 28) (AK.ld none (AX.t 27)) none 1 false true), (AOp.mk (some 29) (AK.mv (AX.t 3)) none 2 false true), (AOp.mk (some 30) (AK.call 93 [(AX.t 28), (AX.t 29)]) none 3 false true), (AOp.mk (some 31) (AK.un UnOp.not (AX.t 30)) none 4 false true), (AOp.mk (some 32) (AK.mv (AX.t 31)) none 5 false true), (AOp.mk (some 33) (AK.fadr 6 (AX.t 1)) (some (32, true)) 6 false true), (AOp.mk (some 34) (AK.ld none (AX.t 33)) (some (32, true)) 7 false true), (AOp.mk (some 35) (AK.mv (AX.t 4)) (some (32, true)) 8 false true), (AOp.mk (some 36) (AK.call 94 [(AX.t 34), (AX.t 35)]) (some (32, true)) 9 false true), (AOp.mk (some 37) (AK.un UnOp.not (AX.t 36)) (some (32, true)) 10 false true), (AOp.mk (some 38) (AK.pick (AX.t 32) (AX.t 37) (AX.c (PV.val (Value.bool false)))) none 11 false true), (AOp.mk (some 39) (AK.mv (AX.t 38)) none 12 false true), (AOp.mk (some 40) (AK.fadr 5 (AX.t 1)) (some (39, true)) 13 false true), (AOp.mk (some 41) (AK.ld none (AX.t 40)) (some (39, true)) 14 false true), (AOp.mk (some 42) (AK.call 70 [(AX.t 41), (AX.c (PV.val (Value.int IntKind.i64 0))), (AX.c (PV.val (Value.int IntKind.i64 20)))]) (some (39, true)) 15 false true), (AOp.mk (some 43) (AK.pick (AX.t 39) (AX.t 42) (AX.c (PV.val (Value.bool false)))) none 16 false true), (AOp.mk (some 44) (AK.mv (AX.t 43)) none 17 false true), (AOp.mk (some 45) (AK.fadr 7 (AX.t 1)) (some (44, true)) 18 false true), (AOp.mk (some 46) (AK.ld none (AX.t 45)) (some (44, true)) 19 false true), (AOp.mk (some 47) (AK.call 95 [(AX.t 46)]) (some (44, true)) 20 false true), (AOp.mk (some 48) (AK.pick (AX.t 44) (AX.t 47) (AX.c (PV.val (Value.bool false)))) none 21 false true), (AOp.mk (some 2) (AK.mv (AX.t 48)) none 22 false true)]) AC.ret)))))
theorem ac58_ok : cCode Tryz.prog (fun _ => false) Tryz.f58.ntmps (Tryz.f58.body.getD .skip) = some ac58 := by kernel_rfl
def ac13 : AC := (AC.seq (AC.ops [(AOp.mk (some 1) (AK.box 8 (AX.t 0)) none 0 false true), (AOp.mk (some 2) (AK.mv (AX.c (PV.val (Value.int IntKind.i64 0)))) none 1 false true)]) (AC.seq (AC.seq (AC.ops [(AOp.mk (some 3) (AK.ld (some 8) (AX.t 1)) none 0 false true), (AOp.mk (some 4) (AK.call 58 [(AX.t 3)]) none 1 false true), (AOp.mk (some 5) (AK.un UnOp.not (AX.t 4)) none 2 false true)]) (AC.cond (AX.t 5) (AC.seq (AC.ops [(AOp.mk (some 2) (AK.mv (AX.c (PV.val (Value.int IntKind.i64 80)))) none 0 false true)]) AC.ret) AC.skip)) (AC.seq (AC.ops [(AOp.mk (some 2) (AK.mv (AX.c (PV.val (Value.int IntKind.i64 0)))) none 0 false true)]) AC.ret)))
theorem ac13_ok : cCode Tryz.prog (fun _ => false) Tryz.f13.ntmps (Tryz.f13.body.getD .skip) = some ac13 := by kernel_rfl
def ac51 : AC := (AC.seq (AC.ops [(AOp.mk (some 2) (AK.box 8 (AX.t 0)) none 0 false true), (AOp.mk (some 4) (AK.mv (AX.c (PV.val (Value.bool false)))) none 1 false true)]) (AC.seq (AC.ops [(AOp.mk (some 5) (AK.mv (AX.t 1)) none 0 false true), (AOp.mk (some 6) (AK.fadr 4 (AX.t 2)) none 1 false true), (AOp.mk (some 7) (AK.ld none (AX.t 6)) none 2 false true), (AOp.mk (some 8) (AK.len (AX.t 7)) none 3 false true), (AOp.mk (some 9) (AK.bin false BinOp.sub (AX.t 8) (AX.c (PV.val (Value.int IntKind.i64 1)))) none 4 false true), (AOp.mk (some 10) (AK.call 70 [(AX.t 5), (AX.c (PV.val (Value.int IntKind.i64 0))), (AX.t 9)]) none 5 false true), (AOp.mk (some 4) (AK.mv (AX.t 10)) none 6 false true)]) AC.ret))
theorem ac51_ok : cCode Tryz.prog (fun _ => false) Tryz.f51.ntmps (Tryz.f51.body.getD .skip) = some ac51 := by kernel_rfl
abbrev jobC (j : Job) : List PV := [pi j.kind, pi j.hl, pi j.hh, pi j.pl, pi j.ph, pi j.cap]
abbrev jobsC (l : List Job) : List (List PV) := l.map jobC
structure KS where
  a : SK
  b : SK
  c : SK
  d : SK
  e : SK
abbrev ebC (κ : KS) (b : EBook) : List PV := [.sl κ.a 1 (rowsC b.mb.makers), .sl κ.b 2 (seenC b.mb.seen), pi b.mb.repairs, pi b.mb.fixed, .sl κ.c 6 (jobsC b.jobs), pi b.rate, .sl κ.d 1 (b.extra.map fun x => [pi x]), .sl κ.e 1 (b.coins.map fun x => [pi x])]
theorem within_sem (n a b : Int) : Sem1 70 [pi n, pi a, pi b] (pb (decide (a ≤ n ∧ n ≤ b))) := by
  refine semC_of_exec' mixed Tryz.func70 (by kernel_rfl) (by kernel_rfl) ac70_ok 3 rfl (by decide) [(.tmp 6)] (by kernel_rfl) ?_
  intro hr C hC hI
  unfold ac70
  simp only [go_sem, Nat.reduceBEq, Nat.reduceAdd]
  exact ⟨fun h => retQ_one rfl (by simp [h]), fun h => retQ_one rfl (by simp [h])⟩
theorem validSpan_sem (lo hi e a : Int) (he : 0 ≤ e ∧ e ≤ 1000000) : Sem1 134 [.agg [pi lo, pi hi], pi e, pi a] (pb (decide (0 ≤ lo ∧ lo ≤ hi ∧ hi ≤ e ∧ hi - lo ≤ a))) := by
  by_cases c1 : 0 ≤ lo ∧ lo ≤ e
  rotate_left
  · rw [decide_eq_false (fun h : 0 ≤ lo ∧ lo ≤ hi ∧ hi ≤ e ∧ hi - lo ≤ a => c1 (by omega))]
    refine semC_of_exec' mixed Tryz.func134 (by kernel_rfl) (by kernel_rfl) ac134_ok 3 rfl (by decide) [(.tmp 6)] (by kernel_rfl) ?_
    intro hr C hC hI
    unfold ac134
    simp only [go_sem, Nat.reduceBEq, Nat.reduceAdd]
    refine call_pure2 hC (within_sem ..) rfl (PVleL_refl _) ?_
    rintro r rfl
    simp only [go_sem, Nat.reduceBEq, decide_eq_false c1]
    exact retQ_one rfl rfl
  by_cases c2 : lo ≤ hi ∧ hi ≤ e
  rotate_left
  · rw [decide_eq_false (fun h : 0 ≤ lo ∧ lo ≤ hi ∧ hi ≤ e ∧ hi - lo ≤ a => c2 (by omega))]
    refine semC_of_exec' mixed Tryz.func134 (by kernel_rfl) (by kernel_rfl) ac134_ok 3 rfl (by decide) [(.tmp 6)] (by kernel_rfl) ?_
    intro hr C hC hI
    unfold ac134
    simp only [go_sem, Nat.reduceBEq, Nat.reduceAdd]
    refine call_pure2 hC (within_sem ..) rfl (PVleL_refl _) ?_
    rintro r rfl
    simp only [go_sem, Nat.reduceBEq, decide_eq_true c1]
    refine call_pure2 hC (within_sem ..) rfl (PVleL_refl _) ?_
    rintro r rfl
    simp only [go_sem, Nat.reduceBEq, decide_eq_false c2]
    exact retQ_one rfl rfl
  refine semC_of_exec' mixed Tryz.func134 (by kernel_rfl) (by kernel_rfl) ac134_ok 3 rfl (by decide) [(.tmp 6)] (by kernel_rfl) ?_
  intro hr C hC hI
  unfold ac134
  simp only [go_sem, Nat.reduceBEq, Nat.reduceAdd]
  refine call_pure2 hC (within_sem ..) rfl (PVleL_refl _) ?_
  rintro r rfl
  simp only [go_sem, Nat.reduceBEq, decide_eq_true c1]
  refine call_pure2 hC (within_sem ..) rfl (PVleL_refl _) ?_
  rintro r rfl
  simp only [go_sem, Nat.reduceBEq, decide_eq_true c2]
  rw [wrap_id (n := hi - lo) (by omega) (by omega)]
  refine retQ_one rfl (congrArg pb (decide_eq_decide.2 (by omega)))
theorem kindsOf_sem (κ : KS) {b : EBook} (hz : 0 < b.mb.makers.length) : Sem1 133 [.agg (ebC κ b)] (pi (nK b.mb)) := by
  have e0 := iadr_map (f := fun h => [pis h]) (kd := κ.a) (sz := 1) (l := b.mb.makers) (k := 0) hz
  have en : nK b.mb = b.mb.makers[0].length := by
    unfold nK
    rw [List.getD_eq_getElem?_getD, List.getElem?_eq_getElem hz]
    rfl
  rw [en]
  refine semC_of_exec' mixed Tryz.func133 (by kernel_rfl) (by kernel_rfl) ac133_ok 1 rfl (by decide) [(.tmp 2)] (by kernel_rfl) ?_
  intro hr C hC hI
  unfold ac133
  simp only [go_sem, Nat.reduceBEq, Nat.reduceAdd, e0, show (0 : Int) = ((0 : Nat) : Int) from rfl, List.length_map]
  exact retQ_one rfl rfl
theorem validJob_sem (κ : KS) {b : EBook} (hz : 0 < b.mb.makers.length) (hk : nK b.mb ≤ 6) (j : Job) : Sem1 91 [.agg (ebC κ b), .agg (jobC j)] (pb (decide (okJob b j))) := by
  by_cases c1 : 0 ≤ j.kind ∧ j.kind ≤ (nK b.mb : Int) - 1
  rotate_left
  · rw [decide_eq_false (fun h : okJob b j => c1 (by have := h.1; omega))]
    refine semC_of_exec' mixed Tryz.func91 (by kernel_rfl) (by kernel_rfl) ac91_ok 2 rfl (by decide) [(.tmp 4)] (by kernel_rfl) ?_
    intro hr C hC hI
    unfold ac91
    simp only [go_sem, Nat.reduceBEq, Nat.reduceAdd]
    refine call_pure2 hC (kindsOf_sem κ hz) rfl (PVleL_refl _) ?_
    rintro r rfl
    simp only [go_sem, Nat.reduceBEq, wrap_id (n := (nK b.mb : Int) - 1) (by omega) (by omega)]
    refine call_pure2 hC (within_sem ..) rfl (PVleL_refl _) ?_
    rintro r rfl
    simp only [go_sem, Nat.reduceBEq, decide_eq_false c1, Int.reduceNeg]
    exact retQ_one rfl rfl
  by_cases c2 : 0 ≤ j.hl ∧ j.hl ≤ j.hh ∧ j.hh ≤ 20 ∧ j.hh - j.hl ≤ 3
  rotate_left
  · rw [decide_eq_false (fun h : okJob b j => c2 h.2.1)]
    refine semC_of_exec' mixed Tryz.func91 (by kernel_rfl) (by kernel_rfl) ac91_ok 2 rfl (by decide) [(.tmp 4)] (by kernel_rfl) ?_
    intro hr C hC hI
    unfold ac91
    simp only [go_sem, Nat.reduceBEq, Nat.reduceAdd]
    refine call_pure2 hC (kindsOf_sem κ hz) rfl (PVleL_refl _) ?_
    rintro r rfl
    simp only [go_sem, Nat.reduceBEq, wrap_id (n := (nK b.mb : Int) - 1) (by omega) (by omega)]
    refine call_pure2 hC (within_sem ..) rfl (PVleL_refl _) ?_
    rintro r rfl
    simp only [go_sem, Nat.reduceBEq, Nat.reduceAdd, Nat.reduceLeDiff, decide_eq_true c1, Int.reduceNeg]
    refine call_pure2 hC (validSpan_sem j.hl j.hh 20 3 (by omega)) rfl (PVleL_refl _) ?_
    rintro r rfl
    simp only [go_sem, Nat.reduceBEq, decide_eq_false c2, Int.reduceNeg]
    exact retQ_one rfl rfl
  by_cases c3 : 0 ≤ j.pl ∧ j.pl ≤ j.ph ∧ j.ph ≤ 99 ∧ j.ph - j.pl ≤ 4
  rotate_left
  · rw [decide_eq_false (fun h : okJob b j => c3 h.2.2.1)]
    refine semC_of_exec' mixed Tryz.func91 (by kernel_rfl) (by kernel_rfl) ac91_ok 2 rfl (by decide) [(.tmp 4)] (by kernel_rfl) ?_
    intro hr C hC hI
    unfold ac91
    simp only [go_sem, Nat.reduceBEq, Nat.reduceAdd]
    refine call_pure2 hC (kindsOf_sem κ hz) rfl (PVleL_refl _) ?_
    rintro r rfl
    simp only [go_sem, Nat.reduceBEq, wrap_id (n := (nK b.mb : Int) - 1) (by omega) (by omega)]
    refine call_pure2 hC (within_sem ..) rfl (PVleL_refl _) ?_
    rintro r rfl
    simp only [go_sem, Nat.reduceBEq, Nat.reduceAdd, Nat.reduceLeDiff, decide_eq_true c1, Int.reduceNeg]
    refine call_pure2 hC (validSpan_sem j.hl j.hh 20 3 (by omega)) rfl (PVleL_refl _) ?_
    rintro r rfl
    simp only [go_sem, Nat.reduceBEq, Nat.reduceAdd, Nat.reduceLeDiff, decide_eq_true c2, Int.reduceNeg]
    refine call_pure2 hC (validSpan_sem j.pl j.ph 99 4 (by omega)) rfl (PVleL_refl _) ?_
    rintro r rfl
    simp only [go_sem, Nat.reduceBEq, decide_eq_false c3, Int.reduceNeg]
    exact retQ_one rfl rfl
  refine semC_of_exec' mixed Tryz.func91 (by kernel_rfl) (by kernel_rfl) ac91_ok 2 rfl (by decide) [(.tmp 4)] (by kernel_rfl) ?_
  intro hr C hC hI
  unfold ac91
  simp only [go_sem, Nat.reduceBEq, Nat.reduceAdd]
  refine call_pure2 hC (kindsOf_sem κ hz) rfl (PVleL_refl _) ?_
  rintro r rfl
  simp only [go_sem, Nat.reduceBEq, wrap_id (n := (nK b.mb : Int) - 1) (by omega) (by omega)]
  refine call_pure2 hC (within_sem ..) rfl (PVleL_refl _) ?_
  rintro r rfl
  simp only [go_sem, Nat.reduceBEq, Nat.reduceAdd, Nat.reduceLeDiff, decide_eq_true c1, Int.reduceNeg]
  refine call_pure2 hC (validSpan_sem j.hl j.hh 20 3 (by omega)) rfl (PVleL_refl _) ?_
  rintro r rfl
  simp only [go_sem, Nat.reduceBEq, Nat.reduceAdd, Nat.reduceLeDiff, decide_eq_true c2, Int.reduceNeg]
  refine call_pure2 hC (validSpan_sem j.pl j.ph 99 4 (by omega)) rfl (PVleL_refl _) ?_
  rintro r rfl
  simp only [go_sem, Nat.reduceBEq, decide_eq_true c3, Int.reduceNeg]
  by_cases c4 : j.cap = -1
  · rw [decide_eq_true (show okJob b j from ⟨by omega, c2, c3, by omega⟩)]
    simp only [go_sem, eq_true c4, decide_true, not_true_eq_false, false_implies, true_implies, Int.reduceNeg]
    exact retQ_one rfl rfl
  · simp only [go_sem, eq_false c4, decide_false, not_false_eq_true, false_implies, true_implies, Int.reduceNeg]
    refine call_pure2 hC (within_sem ..) rfl (PVleL_refl _) ?_
    rintro r rfl
    simp only [go_sem, Nat.reduceBEq]
    refine retQ_one rfl (congrArg pb (decide_eq_decide.2 ?_))
    exact ⟨fun h2 => ⟨by omega, c2, c3, by omega⟩, fun h2 => by have := h2.2.2.2; omega⟩
theorem tail_all : ∀ {x : Int} {l : List Int}, okTail x l ↔ ∀ i (h : i < l.length), (x :: l)[i]'(by simp; omega) + 1 ≤ l[i] ∧ l[i] ≤ 240
  | x, [] => ⟨fun _ i h => absurd h (by simp), fun _ => trivial⟩
  | x, y :: l => by
    unfold okTail
    rw [tail_all]
    constructor
    · rintro ⟨h1, h2⟩ i h
      cases i with
      | zero => exact h1
      | succ i => exact h2 i (by simpa using h)
    · intro h
      exact ⟨h 0 (by simp), fun i hi => h (i + 1) (by simpa using hi)⟩
theorem IndexJ_sem {f : FuncId} {fi cap : List PV} {P : Job → Bool} (l : List Job) (k : SK) (hf : ∀ j ∈ l, Sem1 f (fi ++ [.agg (jobC j)] ++ cap) (pb (P j))) : Sem1 135 [.sl k 6 (jobsC l), .clo f fi cap] (pi (idxI l P)) := by
  refine semC_of_exec' mixed Tryz.func135 (by kernel_rfl) (by kernel_rfl) ac135_ok 2 rfl (by decide) [(.tmp 4)] (by kernel_rfl) ?_
  intro hr C hC hI
  unfold ac135
  simp only [go_sem, Nat.reduceBEq, List.length_map]
  have hl := real_len (i := 0) hr rfl
  rw [List.length_map] at hl
  refine loop_k l.length (fun j => ∀ y ∈ l.take j, P y = false) [0, 1, 7] (fun j => [(8, .p (pi j))]) (by simp) rfl ⟨rfl, by simp, by simp⟩ (by simp [wkT, look, AV.lo]) ?_
  rintro j ⟨hj, hok⟩
  simp only [go_sem, Nat.reduceBEq]
  refine ⟨fun h5 => ?_, fun h5 => ?_⟩
  · have hj2 : j < l.length := by omega
    simp only [go_sem, Nat.reduceBEq, Nat.reduceAdd, iadr_map (f := jobC) (kd := k) (sz := 6) hj2]
    rw [show List.map AV.p fi ++ [AV.p (PV.agg (jobC l[j]))] ++ List.map AV.p cap = (fi ++ [PV.agg (jobC l[j])] ++ cap).map AV.p by simp]
    refine call_pure hC (hf _ (List.getElem_mem hj2)) (PVleL_refl _) ?_
    rintro r rfl
    cases hp : P l[j]
    · simp only [go_sem, Nat.reduceBEq, wrap_succ (k := j) (by omega)]
      refine ⟨⟨j + 1, hj2, take_allG hj2 hok hp⟩, by simp only; omega, by simp [Wk, wkT, wkL, look, AV.lo]⟩
    · simp only [go_sem, Nat.reduceBEq]
      exact retQ_one rfl (by rw [idxI_some hj2 hp hok])
  · have hjn : j = l.length := by omega
    subst hjn
    rw [List.take_length] at hok
    exact retQ_one rfl (by rw [idxI_none hok])
theorem IndexI_sem {f : FuncId} {P : Int → Bool} (l : List Int) (k : SK) (hf : ∀ j ∈ l, Sem1 f [pi j] (pb (P j))) : Sem1 136 [.sl k 1 (l.map fun x => [pi x]), fnV f] (pi (idxI l P)) := by
  refine semC_of_exec' mixed Tryz.func136 (by kernel_rfl) (by kernel_rfl) ac136_ok 2 rfl (by decide) [(.tmp 4)] (by kernel_rfl) ?_
  intro hr C hC hI
  unfold ac136
  simp only [go_sem, Nat.reduceBEq, List.length_map]
  have hl := real_len (i := 0) hr rfl
  rw [List.length_map] at hl
  refine loop_k l.length (fun j => ∀ y ∈ l.take j, P y = false) [0, 1, 7] (fun j => [(8, .p (pi j))]) (by simp) rfl ⟨rfl, by simp, by simp⟩ (by simp [wkT, look, AV.lo]) ?_
  rintro j ⟨hj, hok⟩
  simp only [go_sem, Nat.reduceBEq]
  refine ⟨fun h5 => ?_, fun h5 => ?_⟩
  · have hj2 : j < l.length := by omega
    simp only [go_sem, Nat.reduceBEq, iadr_map (f := fun x : Int => [pi x]) (kd := k) (sz := 1) hj2]
    refine call_pure2 hC (hf _ (List.getElem_mem hj2)) rfl (PVleL_refl _) ?_
    rintro r rfl
    cases hp : P l[j]
    · simp only [go_sem, Nat.reduceBEq, wrap_succ (k := j) (by omega)]
      refine ⟨⟨j + 1, hj2, take_allG hj2 hok hp⟩, by simp only; omega, by simp [Wk, wkT, wkL, look, AV.lo]⟩
    · simp only [go_sem, Nat.reduceBEq]
      exact retQ_one rfl (by rw [idxI_some hj2 hp hok])
  · have hjn : j = l.length := by omega
    subst hjn
    rw [List.take_length] at hok
    exact retQ_one rfl (by rw [idxI_none hok])
theorem ContJ_sem {f : FuncId} {fi cap : List PV} {P : Job → Bool} (l : List Job) (k : SK) (hf : ∀ j ∈ l, Sem1 f (fi ++ [.agg (jobC j)] ++ cap) (pb (P j))) : Sem1 93 [.sl k 6 (jobsC l), .clo f fi cap] (pb (l.any P)) := by
  refine semC_of_exec' mixed Tryz.func93 (by kernel_rfl) (by kernel_rfl) ac93_ok 2 rfl (by decide) [(.tmp 4)] (by kernel_rfl) ?_
  intro hr C hC hI
  unfold ac93
  simp only [go_sem, Nat.reduceBEq]
  refine call_pure2 hC (IndexJ_sem l k hf) rfl (PVleL_refl _) ?_
  rintro r rfl
  simp only [go_sem, Nat.reduceBEq]
  refine retQ_one rfl (congrArg pb ?_)
  rw [Bool.eq_iff_iff, decide_eq_true_eq]
  exact idxI_neg
theorem ContI_sem {f : FuncId} {P : Int → Bool} (l : List Int) (k : SK) (hf : ∀ j ∈ l, Sem1 f [pi j] (pb (P j))) : Sem1 94 [.sl k 1 (l.map fun x => [pi x]), fnV f] (pb (l.any P)) := by
  refine semC_of_exec' mixed Tryz.func94 (by kernel_rfl) (by kernel_rfl) ac94_ok 2 rfl (by decide) [(.tmp 4)] (by kernel_rfl) ?_
  intro hr C hC hI
  unfold ac94
  simp only [go_sem, Nat.reduceBEq]
  refine call_pure2 hC (IndexI_sem l k hf) rfl (PVleL_refl _) ?_
  rintro r rfl
  simp only [go_sem, Nat.reduceBEq]
  refine retQ_one rfl (congrArg pb ?_)
  rw [Bool.eq_iff_iff, decide_eq_true_eq]
  exact idxI_neg
theorem wrongJob_sem (κ : KS) {b : EBook} (hz : 0 < b.mb.makers.length) (hk : nK b.mb ≤ 6) (j : Job) : Sem1 90 [.agg (jobC j), .ptr (ebC κ b) 0] (pb (!decide (okJob b j))) := by
  refine semC_of_exec' mixed Tryz.func90 (by kernel_rfl) (by kernel_rfl) ac90_ok 2 rfl (by decide) [(.tmp 3)] (by kernel_rfl) ?_
  intro hr C hC hI
  unfold ac90
  simp only [go_sem, Nat.reduceBEq, Nat.reduceAdd]
  refine call_pure2 hC (validJob_sem κ hz hk j) rfl (PVleL_refl _) ?_
  rintro r rfl
  simp only [go_sem, Nat.reduceBEq]
  refine retQ_one rfl (congrArg pb ?_)
  simp
theorem wrongExtra_sem (n : Int) : Sem1 92 [pi n] (pb (!decide (0 ≤ n ∧ n ≤ 50))) := by
  refine semC_of_exec' mixed Tryz.func92 (by kernel_rfl) (by kernel_rfl) ac92_ok 1 rfl (by decide) [(.tmp 2)] (by kernel_rfl) ?_
  intro hr C hC hI
  unfold ac92
  simp only [go_sem, Nat.reduceBEq]
  refine call_pure2 hC (within_sem ..) rfl (PVleL_refl _) ?_
  rintro r rfl
  simp only [go_sem, Nat.reduceBEq]
  refine retQ_one rfl (congrArg pb ?_)
  simp
theorem validCoins_sem (k : SK) (l : List Int) : Sem1 95 [.sl k 1 (l.map fun x => [pi x])] (pb (decide (okCoins l))) := by
  by_cases c1 : (1 : Int) ≤ l.length ∧ (l.length : Int) ≤ 4
  rotate_left
  · rw [decide_eq_false (fun h : okCoins l => c1 (by
      cases l with
      | nil => exact h.elim
      | cons x l => have := h.1; rw [List.length_cons] at this ⊢; omega))]
    refine semC_of_exec' mixed Tryz.func95 (by kernel_rfl) (by kernel_rfl) ac95_ok 1 rfl (by decide) [(.tmp 2)] (by kernel_rfl) ?_
    intro hr C hC hI
    unfold ac95
    simp only [go_sem, Nat.reduceBEq, List.length_map]
    refine call_pure2 hC (within_sem ..) rfl (PVleL_refl _) ?_
    rintro r rfl
    simp only [go_sem, Nat.reduceBEq, decide_eq_false c1]
    exact retQ_one rfl rfl
  cases l with
  | nil => exact absurd c1 (by simp)
  | cons x l =>
    have key : ∀ L : List Int, L = x :: l → Sem1 95 [.sl k 1 (L.map fun x => [pi x])] (pb (decide (okCoins L))) := by
      intro L hL
      have hLl : L.length = l.length + 1 := by rw [hL]; rfl
      have h4 : l.length + 1 ≤ 4 := by rw [List.length_cons] at c1; omega
      have e0 : iadrS' 1 (.p (.sl k 1 (L.map fun x => [pi x]))) (.p (.val (.int .i64 0))) = some (.p (.ptr [pi x] 0)) := by
        subst hL
        exact iadr_map (f := fun x : Int => [pi x]) (kd := k) (sz := 1) (l := x :: l) (k := 0) (by simp)
      have hsl : slcS 1 (.p (.sl k 1 (L.map fun x => [pi x]))) (some (some 1)) (some none) (some none) = some (.p (.sl .sh 1 (l.map fun x => [pi x]))) := by
        subst hL
        rw [slcS_lo (.inl rfl) ⟨by decide, by simp; omega⟩]
        rfl
      have c2 : (1 : Int) ≤ (L.length : Int) ∧ (L.length : Int) ≤ 4 := by omega
      by_cases d1 : x = 1
      rotate_left
      · rw [decide_eq_false (fun h : okCoins L => d1 (by rw [hL] at h; exact h.2.1))]
        refine semC_of_exec' mixed Tryz.func95 (by kernel_rfl) (by kernel_rfl) ac95_ok 1 rfl (by decide) [(.tmp 2)] (by kernel_rfl) ?_
        intro hr C hC hI
        unfold ac95
        simp only [go_sem, Nat.reduceBEq, List.length_map]
        refine call_pure2 hC (within_sem ..) rfl (PVleL_refl _) ?_
        rintro r rfl
        simp only [go_sem, Nat.reduceBEq, decide_eq_true c2]
        simp only [go_sem, Nat.reduceBEq, e0, eq_false d1, decide_true, not_false_eq_true]
        exact retQ_one rfl rfl
      have hok : okCoins L ↔ ∀ i (h : i < l.length), L[i]'(by omega) + 1 ≤ l[i] ∧ l[i] ≤ 240 := by
        subst hL
        exact ⟨fun h => tail_all.1 h.2.2, fun h => ⟨by rw [List.length_cons]; omega, d1, tail_all.2 h⟩⟩
      refine semC_of_exec' mixed Tryz.func95 (by kernel_rfl) (by kernel_rfl) ac95_ok 1 rfl (by decide) [(.tmp 2)] (by kernel_rfl) ?_
      intro hr C hC hI
      unfold ac95
      simp only [go_sem, Nat.reduceBEq, List.length_map]
      refine call_pure2 hC (within_sem ..) rfl (PVleL_refl _) ?_
      rintro r rfl
      simp only [go_sem, Nat.reduceBEq, decide_eq_true c2]
      simp only [go_sem, Nat.reduceBEq, e0, eq_true d1, hsl, List.length_map, decide_false, not_true_eq_false]
      refine loop_k l.length (fun j => (∀ i (h : i < l.length), i < j → L[i]'(by omega) + 1 ≤ l[i] ∧ l[i] ≤ 240) ∧ ∀ i (h : i < L.length), i ≤ j → 0 ≤ L[i] ∧ L[i] ≤ 240) [0, 16, 17] (fun j => [(18, .p (pi j))]) ⟨fun i h hi => absurd hi (by omega), fun i h hi => ?_⟩ rfl ⟨rfl, by simp, by simp⟩ (by simp [wkT, look, AV.lo]) ?_
      · obtain rfl : i = 0 := by omega
        subst hL
        rw [List.getElem_cons_zero]
        omega
      rintro j ⟨hj, g1, g2⟩
      simp only [go_sem, Nat.reduceBEq]
      refine ⟨fun h5 => ?_, fun h5 => ?_⟩
      · have hj2 : j < l.length := by omega
        have e1 := iadr_map (f := fun x : Int => [pi x]) (kd := .sh) (sz := 1) hj2
        have e2 := iadr_map (f := fun x : Int => [pi x]) (kd := k) (sz := 1) (l := L) (k := j) (by omega)
        have hb := g2 j (by omega) (Nat.le_refl _)
        simp only [go_sem, Nat.reduceBEq, e1, e2, wrap_id (n := L[j]'(by omega) + 1) (by omega) (by omega)]
        refine call_pure2 hC (within_sem ..) rfl (PVleL_refl _) ?_
        rintro r rfl
        simp only [go_sem, Nat.reduceBEq]
        refine ⟨fun h7 => ?_, fun h7 => ?_⟩
        · rw [decide_eq_false (fun h : okCoins L => by
            have := hok.1 h j hj2
            simp [this] at h7)]
          exact retQ_one rfl rfl
        · have h8 : L[j]'(by omega) + 1 ≤ l[j] ∧ l[j] ≤ 240 := by simpa using h7
          simp only [go_sem, wrap_succ (k := j) (by omega)]
          refine ⟨⟨j + 1, hj2, fun i h hi => ?_, fun i h hi => ?_⟩, by simp only; omega, by simp [Wk, wkT, wkL, look, AV.lo]⟩
          · by_cases e : i = j
            · subst e; exact h8
            · exact g1 i h (by omega)
          · by_cases e : i = j + 1
            · subst e
              have : L[j + 1]'h = l[j] := by subst hL; rfl
              omega
            · exact g2 i h (by omega)
      · have hjn : j = l.length := by omega
        subst hjn
        rw [decide_eq_true (hok.2 fun i h => g1 i h h)]
        exact retQ_one rfl rfl
    exact key _ rfl
theorem validBook_sem (κ : KS) (b : EBook) : Sem1 58 [.agg (ebC κ b)] (pb (decide (okE b))) := by
  by_cases c1 : okBook b.mb
  rotate_left
  · rw [decide_eq_false (fun h : okE b => c1 h.1)]
    refine semC_of_exec' mixed Tryz.func58 (by kernel_rfl) (by kernel_rfl) ac58_ok 1 rfl (by decide) [(.tmp 2)] (by kernel_rfl) ?_
    intro hr C hC hI
    unfold ac58
    simp only [go_sem, Nat.reduceBEq, Nat.reduceAdd, Nat.reduceLeDiff]
    refine call_pure2 hC (Mk.Check_sem κ.a κ.b b.mb) rfl (PVleL_refl _) ?_
    rintro r rfl
    simp only [go_sem, Nat.reduceBEq, if_neg c1, decide_true, not_false_eq_true, Int.reduceEq]
    exact retQ_one rfl rfl
  have hz : 0 < b.mb.makers.length := c1.1.1.1
  have h6 : nK b.mb ≤ 6 := c1.1.2.1.2
  by_cases c2 : (1 : Int) ≤ b.jobs.length ∧ (b.jobs.length : Int) ≤ 4
  rotate_left
  · rw [decide_eq_false (fun h : okE b => c2 (by have := h.2.1; omega))]
    refine semC_of_exec' mixed Tryz.func58 (by kernel_rfl) (by kernel_rfl) ac58_ok 1 rfl (by decide) [(.tmp 2)] (by kernel_rfl) ?_
    intro hr C hC hI
    unfold ac58
    simp only [go_sem, Nat.reduceBEq, Nat.reduceAdd, Nat.reduceLeDiff]
    refine call_pure2 hC (Mk.Check_sem κ.a κ.b b.mb) rfl (PVleL_refl _) ?_
    rintro r rfl
    simp only [go_sem, Nat.reduceBEq, if_pos c1, List.length_map, decide_false, not_true_eq_false]
    refine call_pure2 hC (within_sem ..) rfl (PVleL_refl _) ?_
    rintro r rfl
    simp only [go_sem, Nat.reduceBEq, decide_eq_false c2]
    exact retQ_one rfl rfl
  by_cases c3 : b.extra.length = b.mb.makers.length
  rotate_left
  · rw [decide_eq_false (fun h : okE b => c3 h.2.2.1)]
    have c3' : ¬ (b.extra.length : Int) = b.mb.makers.length := by omega
    refine semC_of_exec' mixed Tryz.func58 (by kernel_rfl) (by kernel_rfl) ac58_ok 1 rfl (by decide) [(.tmp 2)] (by kernel_rfl) ?_
    intro hr C hC hI
    unfold ac58
    simp only [go_sem, Nat.reduceBEq, Nat.reduceAdd, Nat.reduceLeDiff]
    refine call_pure2 hC (Mk.Check_sem κ.a κ.b b.mb) rfl (PVleL_refl _) ?_
    rintro r rfl
    simp only [go_sem, Nat.reduceBEq, if_pos c1, List.length_map, decide_false, not_true_eq_false]
    refine call_pure2 hC (within_sem ..) rfl (PVleL_refl _) ?_
    rintro r rfl
    simp only [go_sem, Nat.reduceBEq, decide_eq_true c2, List.length_map, eq_false c3', decide_true, not_false_eq_true]
    exact retQ_one rfl rfl
  have hJ := ContJ_sem (f := 90) (fi := []) (cap := [.ptr (ebC κ b) 0]) (P := fun j => !decide (okJob b j)) b.jobs κ.c (fun j _ => wrongJob_sem κ hz h6 j)
  have hX := ContI_sem (f := 92) (P := fun n => !decide (0 ≤ n ∧ n ≤ 50)) b.extra κ.d (fun j _ => wrongExtra_sem j)
  have hJ2 : (b.jobs.any fun j => !decide (okJob b j)) = false ↔ ∀ j ∈ b.jobs, okJob b j := by
    rw [List.any_eq_false]
    simp
  have hX2 : (b.extra.any fun n => !decide (0 ≤ n ∧ n ≤ 50)) = false ↔ ∀ x ∈ b.extra, 0 ≤ x ∧ x ≤ 50 := by
    rw [List.any_eq_false]
    simp
  refine semC_of_exec' mixed Tryz.func58 (by kernel_rfl) (by kernel_rfl) ac58_ok 1 rfl (by decide) [(.tmp 2)] (by kernel_rfl) ?_
  intro hr C hC hI
  unfold ac58
  simp only [go_sem, Nat.reduceBEq, Nat.reduceAdd, Nat.reduceLeDiff]
  refine call_pure2 hC (Mk.Check_sem κ.a κ.b b.mb) rfl (PVleL_refl _) ?_
  rintro r rfl
  simp only [go_sem, Nat.reduceBEq, if_pos c1, List.length_map, decide_false, not_true_eq_false]
  have c3n : (b.extra.length : Int) = b.mb.makers.length := by omega
  refine call_pure2 hC (within_sem ..) rfl (PVleL_refl _) ?_
  rintro r rfl
  simp only [go_sem, Nat.reduceBEq, decide_eq_true c2, List.length_map, eq_true c3n, decide_false, not_true_eq_false]
  refine call_purA hC hJ (L' := [.frz (ebC κ b)]) rfl (PVleL_refl _) ?_
  rintro r rfl
  cases hj : (b.jobs.any fun j => !decide (okJob b j))
  rotate_left
  · rw [decide_eq_false (fun h : okE b => by rw [hJ2.2 h.2.2.2.1] at hj; cases hj)]
    simp only [go_sem, Nat.reduceBEq]
    exact retQ_one rfl rfl
  simp only [go_sem, Nat.reduceBEq]
  skip
  refine call_pure2 hC hX rfl (PVleL_refl _) ?_
  rintro r rfl
  cases hx : (b.extra.any fun n => !decide (0 ≤ n ∧ n ≤ 50))
  rotate_left
  · rw [decide_eq_false (fun h : okE b => by rw [hX2.2 h.2.2.2.2.1] at hx; cases hx)]
    simp only [go_sem, Nat.reduceBEq]
    exact retQ_one rfl rfl
  by_cases c4 : 0 ≤ b.rate ∧ b.rate ≤ 20
  rotate_left
  · rw [decide_eq_false (fun h : okE b => c4 h.2.2.2.2.2.1)]
    simp only [go_sem, Nat.reduceBEq]
    refine call_pure2 hC (within_sem ..) rfl (PVleL_refl _) ?_
    rintro r rfl
    simp only [go_sem, Nat.reduceBEq, decide_eq_false c4]
    exact retQ_one rfl rfl
  simp only [go_sem, Nat.reduceBEq]
  refine call_pure2 hC (within_sem ..) rfl (PVleL_refl _) ?_
  rintro r rfl
  simp only [go_sem, Nat.reduceBEq, decide_eq_true c4]
  refine call_pure2 hC (validCoins_sem κ.e b.coins) rfl (PVleL_refl _) ?_
  rintro r rfl
  simp only [go_sem, Nat.reduceBEq]
  refine retQ_one rfl (congrArg pb (decide_eq_decide.2 ?_))
  exact ⟨fun h => ⟨c1, by omega, c3, hJ2.1 hj, hX2.1 hx, c4, h⟩, fun h => h.2.2.2.2.2.2⟩
theorem Check_sem (κ : KS) (b : EBook) : Sem1 13 [.agg (ebC κ b)] (pi (if okE b then 0 else 80)) := by
  refine semC_of_exec' mixed Tryz.func13 (by kernel_rfl) (by kernel_rfl) ac13_ok 1 rfl (by decide) [(.tmp 2)] (by kernel_rfl) ?_
  intro hr C hC hI
  unfold ac13
  simp only [go_sem, Nat.reduceBEq, Nat.reduceAdd]
  refine call_pure2 hC (validBook_sem κ b) rfl (PVleL_refl _) ?_
  rintro r rfl
  simp only [go_sem, Nat.reduceBEq]
  by_cases h : okE b
  · rw [if_pos h]
    simp only [go_sem, eq_true h, decide_true, decide_false, not_true_eq_false, false_implies, true_implies]
    exact retQ_one rfl rfl
  · rw [if_neg h]
    simp only [go_sem, eq_false h, decide_true, decide_false, not_false_eq_true, false_implies, true_implies]
    exact retQ_one rfl rfl
def okN (b : EBook) (n : Int) : Bool := decide (0 ≤ n ∧ n < b.jobs.length)
theorem hasJob_sem (κ : KS) (b : EBook) (n : Int) (hl : b.jobs.length ≤ 140737488355328) : Sem1 51 [.agg (ebC κ b), pi n] (pb (okN b n)) := by
  refine semC_of_exec' mixed Tryz.func51 (by kernel_rfl) (by kernel_rfl) ac51_ok 2 rfl (by decide) [(.tmp 4)] (by kernel_rfl) ?_
  intro hr C hC hI
  unfold ac51
  simp only [go_sem, Nat.reduceBEq, Nat.reduceAdd, List.length_map]
  refine call_pure2 hC (within_sem ..) rfl (PVleL_refl _) ?_
  rintro r rfl
  simp only [go_sem, Nat.reduceBEq]
  refine retQ_one rfl (congrArg pb ?_)
  unfold okN
  rw [wrap_id (n := (b.jobs.length : Int) - 1) (by omega) (by omega)]
  exact decide_eq_decide.2 (by omega)
end Go.Proofs.YtlcpplkbmlmmbaaGreat.Mk.Me
