/- Contracts of maker: which marks must be wrong. -/
import Derived.Test.YtlbolnlcncjijaaKno05
namespace Go.Proofs.Ytlbolnlcncjijaa.Mk
open Go.RowKit Ls
def ac133 : AC := (AC.seq (AC.ops [(AOp.mk (some 4) (AK.mv (AX.c (PV.val (Value.int IntKind.i64 0)))) none 0 false true)]) (AC.seq (AC.seq (AC.ops [(AOp.mk (some 6) (AK.mv (AX.t 0)) none 0 false true), (AOp.mk (some 7) (AK.len (AX.t 6)) none 1 false true), (AOp.mk (some 8) (AK.mv (AX.c (PV.val (Value.int IntKind.i64 0)))) none 2 false true)]) (AC.block 0 (AC.loop (AC.seq (AC.ops [(AOp.mk (some 9) (AK.bin false BinOp.lss (AX.t 8) (AX.t 7)) none 0 false true)]) (AC.seq (AC.cond (AX.t 9) AC.skip (AC.exit 0)) (AC.seq (AC.block 1 (AC.seq (AC.ops [(AOp.mk (some 10) (AK.mv (AX.t 8)) none 0 false true), (AOp.mk (some 5) (AK.mv (AX.t 10)) none 1 false true)]) (AC.seq (AC.ops [(AOp.mk (some 11) (AK.mv (AX.t 1)) none 0 false true), (AOp.mk (some 12) (AK.mv (AX.t 0)) none 1 false true), (AOp.mk (some 13) (AK.mv (AX.t 5)) none 2 false true), (AOp.mk (some 14) (AK.iadrS 1 (AX.t 12) (AX.t 13)) none 3 false true), (AOp.mk (some 15) (AK.ld none (AX.t 14)) none 4 false true), (AOp.mk (some 16) (AK.bin false BinOp.eql (AX.t 11) (AX.t 15)) none 5 false true)]) (AC.cond (AX.t 16) (AC.seq (AC.ops [(AOp.mk (some 17) (AK.mv (AX.t 5)) none 0 false true), (AOp.mk (some 4) (AK.mv (AX.t 17)) none 1 false true)]) AC.ret) AC.skip)))) (AC.ops [(AOp.mk (some 18) (AK.bin false BinOp.add (AX.t 8) (AX.c (PV.val (Value.int IntKind.i64 1)))) none 0 false true), (AOp.mk (some 8) (AK.mv (AX.t 18)) none 1 false true)]))))))) (AC.seq (AC.ops [(AOp.mk (some 4) (AK.mv (AX.c (PV.val (Value.int IntKind.i64 (-1))))) none 0 false true)]) AC.ret)))
theorem ac133_ok : cCode Try.prog (fun _ => false) Try.f133.ntmps (Try.f133.body.getD .skip) = some ac133 := by kernel_rfl
def ac123 : AC := (AC.seq (AC.ops [(AOp.mk (some 4) (AK.mv (AX.c (PV.val (Value.bool false)))) none 0 false true)]) (AC.seq (AC.ops [(AOp.mk (some 5) (AK.mv (AX.t 0)) none 0 false true), (AOp.mk (some 6) (AK.mv (AX.t 1)) none 1 false true), (AOp.mk (some 7) (AK.call 133 [(AX.t 5), (AX.t 6)]) none 2 false true), (AOp.mk (some 8) (AK.bin false BinOp.geq (AX.t 7) (AX.c (PV.val (Value.int IntKind.i64 0)))) none 3 false true), (AOp.mk (some 4) (AK.mv (AX.t 8)) none 4 false true)]) AC.ret))
theorem ac123_ok : cCode Try.prog (fun _ => false) Try.f123.ntmps (Try.f123.body.getD .skip) = some ac123 := by kernel_rfl
def ac104 : AC := (AC.seq (AC.ops [(AOp.mk (some 2) (AK.mv (AX.c (PV.val (Value.bool false)))) none 0 false true)]) (AC.seq (AC.ops [(AOp.mk (some 3) (AK.mv (AX.t 0)) none 0 true false), (AOp.mk (some 4) (AK.nilc (AX.t 3)) none 1 true false), (AOp.mk (some 5) (AK.fadr 4 (AX.t 4)) none 2 true false), (AOp.mk (some 6) (AK.ld (some 6) (AX.t 5)) none 3 true false), (AOp.mk (some 7) (AK.call 95 []) none 4 false false), (AOp.mk (some 8) (AK.eqs [CK.i, CK.i, CK.i, CK.i, CK.i, CK.i] false (AX.t 6) (AX.t 7)) none 5 true true), (AOp.mk (some 9) (AK.mv (AX.t 8)) none 6 true true), (AOp.mk (some 10) (AK.mv (AX.t 0)) (some (9, false)) 7 true true), (AOp.mk (some 11) (AK.call 35 [(AX.t 10)]) (some (9, false)) 8 false true), (AOp.mk (some 12) (AK.len (AX.t 11)) (some (9, false)) 9 true true), (AOp.mk (some 13) (AK.bin false BinOp.gtr (AX.t 12) (AX.c (PV.val (Value.int IntKind.i64 0)))) (some (9, false)) 10 true true), (AOp.mk (some 14) (AK.pick (AX.t 9) (AX.c (PV.val (Value.bool true))) (AX.t 13)) none 11 true true), (AOp.mk (some 2) (AK.mv (AX.t 14)) none 12 true true)]) AC.ret))
theorem ac104_ok : cCode Try.prog (fun _ => false) Try.f104.ntmps (Try.f104.body.getD .skip) = some ac104 := by kernel_rfl
def ac103 : AC := (AC.seq (AC.ops [(AOp.mk (some 4) (AK.mv (AX.c PV.nilp)) none 0 false true)]) (AC.seq (AC.ops [(AOp.mk (some 5) (AK.mv (AX.c (PV.sl SK.full 0 []))) none 0 false true)]) (AC.seq (AC.seq (AC.ops [(AOp.mk (some 8) (AK.mv (AX.t 0)) none 0 false true), (AOp.mk (some 9) (AK.nilc (AX.t 8)) none 1 false true), (AOp.mk (some 10) (AK.fadr 0 (AX.t 9)) none 2 false true), (AOp.mk (some 11) (AK.fadr 1 (AX.t 10)) none 3 false true), (AOp.mk (some 12) (AK.ld none (AX.t 11)) none 4 false true), (AOp.mk (some 13) (AK.len (AX.t 12)) none 5 false true), (AOp.mk (some 14) (AK.mv (AX.c (PV.val (Value.int IntKind.i64 0)))) none 6 false true)]) (AC.block 0 (AC.loop (AC.seq (AC.ops [(AOp.mk (some 15) (AK.bin false BinOp.lss (AX.t 14) (AX.t 13)) none 0 false true)]) (AC.seq (AC.cond (AX.t 15) AC.skip (AC.exit 0)) (AC.seq (AC.block 1 (AC.seq (AC.ops [(AOp.mk (some 16) (AK.mv (AX.t 14)) none 0 false true), (AOp.mk (some 17) (AK.iadrS 2 (AX.t 12) (AX.t 14)) none 1 false true), (AOp.mk (some 18) (AK.ld (some 2) (AX.t 17)) none 2 false true), (AOp.mk (some 7) (AK.new (PV.agg [(PV.val (Value.int IntKind.i64 0)), (PV.val (Value.int IntKind.i64 0))])) none 3 false true), (AOp.mk (some 6) (AK.mv (AX.t 16)) none 4 false true), (AOp.mk none (AK.st 2 (AX.t 7) (AX.t 18)) none 5 false true)]) (AC.seq (AC.ops [(AOp.mk (some 19) (AK.mv (AX.t 1)) none 0 false true), (AOp.mk (some 20) (AK.mv (AX.t 6)) none 1 false true), (AOp.mk (some 21) (AK.call 123 [(AX.t 19), (AX.t 20)]) none 2 false true), (AOp.mk (some 22) (AK.un UnOp.not (AX.t 21)) none 3 false true)]) (AC.cond (AX.t 22) (AC.ops [(AOp.mk (some 23) (AK.mv (AX.t 5)) none 0 false true), (AOp.mk (some 24) (AK.ld (some 2) (AX.t 7)) none 1 false true), (AOp.mk (some 25) (AK.bslice false 27 2 1 [(PV.val (Value.int IntKind.i64 0)), (PV.val (Value.int IntKind.i64 0))] [(0, (2, (AX.t 24)))]) none 2 false true), (AOp.mk (some 26) (AK.app false 27 2 16 [(PV.val (Value.int IntKind.i64 0)), (PV.val (Value.int IntKind.i64 0))] (AX.t 23) (AX.t 25)) none 3 false true), (AOp.mk (some 5) (AK.mv (AX.t 26)) none 4 false true)]) AC.skip)))) (AC.ops [(AOp.mk (some 27) (AK.bin false BinOp.add (AX.t 14) (AX.c (PV.val (Value.int IntKind.i64 1)))) none 0 false true), (AOp.mk (some 14) (AK.mv (AX.t 27)) none 1 false true)]))))))) (AC.seq (AC.ops [(AOp.mk (some 28) (AK.mv (AX.t 0)) none 0 false true), (AOp.mk (some 29) (AK.mv (AX.t 5)) none 1 false true), (AOp.mk (some 30) (AK.call 75 [(AX.t 28), (AX.t 29)]) none 2 false true), (AOp.mk (some 4) (AK.mv (AX.t 30)) none 3 false true)]) AC.ret))))
theorem ac103_ok : cCode Try.prog (fun _ => false) Try.f103.ntmps (Try.f103.body.getD .skip) = some ac103 := by kernel_rfl
def ac102 : AC := (AC.seq (AC.ops [(AOp.mk (some 9) (AK.mv (AX.c (PV.val (Value.bool false)))) none 0 false true)]) (AC.seq (AC.seq (AC.ops [(AOp.mk (some 11) (AK.mv (AX.t 0)) none 0 false true), (AOp.mk (some 12) (AK.len (AX.t 11)) none 1 false true), (AOp.mk (some 13) (AK.ld none (AX.t 2)) none 2 false true), (AOp.mk (some 14) (AK.bin false BinOp.eql (AX.t 12) (AX.t 13)) none 3 false true)]) (AC.cond (AX.t 14) (AC.seq (AC.ops [(AOp.mk (some 15) (AK.ld none (AX.t 3)) none 0 false true), (AOp.mk (some 16) (AK.mv (AX.t 0)) none 1 false true), (AOp.mk (some 17) (AK.call 103 [(AX.t 15), (AX.t 16)]) none 2 false true), (AOp.mk (some 18) (AK.call 104 [(AX.t 17)]) none 3 false true), (AOp.mk none (AK.st 1 (AX.t 4) (AX.t 18)) none 4 false true)]) (AC.seq (AC.seq (AC.ops [(AOp.mk (some 19) (AK.ld none (AX.t 4)) none 0 false true)]) (AC.cond (AX.t 19) (AC.ops [(AOp.mk (some 20) (AK.mv (AX.t 0)) none 0 false true), (AOp.mk (some 21) (AK.call 90 [(AX.t 20)]) none 1 false true), (AOp.mk none (AK.st 1 (AX.t 5) (AX.t 21)) none 2 false true)]) AC.skip)) (AC.seq (AC.ops [(AOp.mk (some 22) (AK.ld none (AX.t 4)) none 0 false true), (AOp.mk (some 9) (AK.mv (AX.t 22)) none 1 false true)]) AC.ret))) AC.skip)) (AC.seq (AC.seq (AC.ops [(AOp.mk (some 23) (AK.mv (AX.t 1)) none 0 false true), (AOp.mk (some 10) (AK.mv (AX.t 23)) none 1 false true)]) (AC.block 0 (AC.loop (AC.seq (AC.seq (AC.ops [(AOp.mk (some 24) (AK.mv (AX.t 10)) none 0 false true), (AOp.mk (some 25) (AK.ld none (AX.t 3)) none 1 false true), (AOp.mk (some 26) (AK.nilc (AX.t 25)) none 2 false true), (AOp.mk (some 27) (AK.fadr 0 (AX.t 26)) none 3 false true), (AOp.mk (some 28) (AK.fadr 1 (AX.t 27)) none 4 false true), (AOp.mk (some 29) (AK.ld none (AX.t 28)) none 5 false true), (AOp.mk (some 30) (AK.len (AX.t 29)) none 6 false true), (AOp.mk (some 31) (AK.bin false BinOp.lss (AX.t 24) (AX.t 30)) none 7 false true)]) (AC.cond (AX.t 31) AC.skip (AC.exit 0))) (AC.seq (AC.block 1 (AC.seq (AC.ops [(AOp.mk (some 34) (AK.ld none (AX.t 6)) none 0 true false), (AOp.mk (some 35) (AK.mv (AX.t 0)) none 1 true false), (AOp.mk (some 36) (AK.mv (AX.t 10)) none 2 true false), (AOp.mk (some 38) (AK.mv (AX.t 10)) none 4 true false), (AOp.mk (some 39) (AK.bin false BinOp.add (AX.t 38) (AX.c (PV.val (Value.int IntKind.i64 1)))) none 5 true false), (AOp.mk (some 37) (AK.call 105 [(AX.t 35), (AX.t 36)]) none 3 false false), (AOp.mk (some 40) (AK.callv (AX.t 34) [(AX.t 37), (AX.t 39)]) none 6 false true)]) (AC.cond (AX.t 40) (AC.seq (AC.ops [(AOp.mk (some 9) (AK.mv (AX.c (PV.val (Value.bool true)))) none 0 false true)]) AC.ret) AC.skip))) (AC.ops [(AOp.mk (some 32) (AK.mv (AX.t 10)) none 0 false true), (AOp.mk (some 33) (AK.bin false BinOp.add (AX.t 32) (AX.c (PV.val (Value.int IntKind.i64 1)))) none 1 false true), (AOp.mk (some 10) (AK.mv (AX.t 33)) none 2 false true)])))))) (AC.seq (AC.ops [(AOp.mk (some 9) (AK.mv (AX.c (PV.val (Value.bool false)))) none 0 false true)]) AC.ret))))
theorem ac102_ok : cCode Try.prog (fun _ => false) Try.f102.ntmps (Try.f102.body.getD .skip) = some ac102 := by kernel_rfl
def ac78 : AC := (AC.seq (AC.ops [(AOp.mk (some 2) (AK.box 1 (AX.t 0)) none 0 false true), (AOp.mk (some 3) (AK.box 1 (AX.t 1)) none 1 false true), (AOp.mk (some 4) (AK.new (PV.sl SK.full 0 [])) none 2 false true), (AOp.mk (some 5) (AK.new (PV.val (Value.bool false))) none 3 false true)]) (AC.seq (AC.ops [(AOp.mk (some 6) (AK.new (PV.val Value.nilFunc)) none 0 false true)]) (AC.seq (AC.ops [(AOp.mk (some 7) (AK.mkf 102 [] [(AX.t 3), (AX.t 2), (AX.t 5), (AX.t 4), (AX.t 6)]) none 0 false true), (AOp.mk none (AK.st 1 (AX.t 6) (AX.t 7)) none 1 false true)]) (AC.seq (AC.ops [(AOp.mk (some 8) (AK.ld none (AX.t 6)) none 0 false true), (AOp.mk (some 9) (AK.callv (AX.t 8) [(AX.c (PV.sl SK.full 0 [])), (AX.c (PV.val (Value.int IntKind.i64 0)))]) none 1 false true)]) (AC.seq (AC.tree (AT.fk (AOp.mk (some 10) (AK.ld none (AX.t 4)) none 0 false false) (AOp.mk (some 11) (AK.ld none (AX.t 5)) none 1 false false) (AT.fk (AOp.mk (some 11) (AK.ld none (AX.t 5)) none 1 false false) (AOp.mk none (AK.st 1 (AX.t 4) (AX.t 10)) none 2 false false) (AT.op (AOp.mk none (AK.st 1 (AX.t 4) (AX.t 10)) none 2 false false) (AT.op (AOp.mk none (AK.st 1 (AX.t 5) (AX.t 11)) none 3 false true) AT.fin)) (AT.op (AOp.mk (some 11) (AK.ld none (AX.t 5)) none 1 false false) (AT.op (AOp.mk none (AK.st 1 (AX.t 5) (AX.t 11)) none 3 false true) AT.fin))) (AT.op (AOp.mk (some 10) (AK.ld none (AX.t 4)) none 0 false false) (AT.op (AOp.mk none (AK.st 1 (AX.t 4) (AX.t 10)) none 2 false false) (AT.op (AOp.mk none (AK.st 1 (AX.t 5) (AX.t 11)) none 3 false true) AT.fin))))) AC.ret)))))
theorem ac78_ok : cCode Try.prog (fun _ => false) Try.f78.ntmps (Try.f78.body.getD .skip) = some ac78 := by kernel_rfl
def ac48 : AC := (AC.seq (AC.ops [(AOp.mk (some 2) (AK.mv (AX.c (PV.sl SK.full 0 []))) none 0 false true)]) (AC.seq (AC.seq (AC.ops [(AOp.mk (some 6) (AK.mv (AX.t 0)) none 0 false true), (AOp.mk (some 7) (AK.nilc (AX.t 6)) none 1 false true), (AOp.mk (some 8) (AK.fadr 0 (AX.t 7)) none 2 false true), (AOp.mk (some 9) (AK.fadr 1 (AX.t 8)) none 3 false true), (AOp.mk (some 10) (AK.ld none (AX.t 9)) none 4 false true), (AOp.mk (some 11) (AK.len (AX.t 10)) none 5 false true), (AOp.mk (some 12) (AK.bin false BinOp.add (AX.t 11) (AX.c (PV.val (Value.int IntKind.i64 1)))) none 6 false true), (AOp.mk (some 13) (AK.mv (AX.c (PV.val (Value.int IntKind.i64 0)))) none 7 false true)]) (AC.block 0 (AC.loop (AC.seq (AC.ops [(AOp.mk (some 14) (AK.bin false BinOp.lss (AX.t 13) (AX.t 12)) none 0 false true)]) (AC.seq (AC.cond (AX.t 14) AC.skip (AC.exit 0)) (AC.seq (AC.block 1 (AC.seq (AC.ops [(AOp.mk (some 15) (AK.mv (AX.t 13)) none 0 false true), (AOp.mk (some 3) (AK.mv (AX.t 15)) none 1 false true)]) (AC.seq (AC.ops [(AOp.mk (some 17) (AK.mv (AX.t 0)) none 0 false true), (AOp.mk (some 18) (AK.mv (AX.t 3)) none 1 false true), (AOp.mk (some 19) (AK.call 78 [(AX.t 17), (AX.t 18)]) none 2 false true), (AOp.mk (some 16) (AK.mv (AX.t 19)) none 3 false true), (AOp.mk (some 20) (AK.ext (AX.t 16) 0) none 4 false true), (AOp.mk (some 21) (AK.ext (AX.t 16) 1) none 5 false true), (AOp.mk (some 4) (AK.mv (AX.t 20)) none 6 false true), (AOp.mk (some 5) (AK.mv (AX.t 21)) none 7 false true)]) (AC.seq (AC.ops [(AOp.mk (some 22) (AK.mv (AX.t 5)) none 0 false true)]) (AC.cond (AX.t 22) (AC.seq (AC.ops [(AOp.mk (some 23) (AK.mv (AX.t 4)) none 0 false true), (AOp.mk (some 2) (AK.mv (AX.t 23)) none 1 false true)]) AC.ret) AC.skip))))) (AC.ops [(AOp.mk (some 24) (AK.bin false BinOp.add (AX.t 13) (AX.c (PV.val (Value.int IntKind.i64 1)))) none 0 false true), (AOp.mk (some 13) (AK.mv (AX.t 24)) none 1 false true)]))))))) (AC.seq (AC.ops [(AOp.mk (some 2) (AK.mv (AX.c (PV.sl SK.full 0 []))) none 0 false true)]) AC.ret)))
theorem ac48_ok : cCode Try.prog (fun _ => false) Try.f48.ntmps (Try.f48.body.getD .skip) = some ac48 := by kernel_rfl
def ac21 : AC := (AC.seq (AC.ops [(AOp.mk (some 1) (AK.box 4 (AX.t 0)) none 0 false true), (AOp.mk (some 2) (AK.mv (AX.c (PV.sl SK.full 0 []))) none 1 false true), (AOp.mk (some 3) (AK.mv (AX.c (PV.val (Value.int IntKind.i64 0)))) none 2 false true)]) (AC.seq (AC.ops [(AOp.mk (some 7) (AK.ld (some 4) (AX.t 1)) none 0 false true), (AOp.mk (some 8) (AK.call 39 [(AX.t 7), (AX.c (PV.val (Value.bool true)))]) none 1 false true), (AOp.mk (some 6) (AK.mv (AX.t 8)) none 2 false true), (AOp.mk (some 9) (AK.ext (AX.t 6) 0) none 3 false true), (AOp.mk (some 10) (AK.ext (AX.t 6) 1) none 4 false true), (AOp.mk (some 4) (AK.mv (AX.t 9)) none 5 false true), (AOp.mk (some 5) (AK.mv (AX.t 10)) none 6 false true)]) (AC.seq (AC.seq (AC.ops [(AOp.mk (some 11) (AK.mv (AX.t 5)) none 0 false true), (AOp.mk (some 12) (AK.bin false BinOp.neq (AX.t 11) (AX.c (PV.val (Value.int IntKind.i64 0)))) none 1 false true)]) (AC.cond (AX.t 12) (AC.seq (AC.ops [(AOp.mk (some 13) (AK.mv (AX.t 5)) none 0 false true), (AOp.mk (some 2) (AK.mv (AX.c (PV.sl SK.full 0 []))) none 1 false true), (AOp.mk (some 3) (AK.mv (AX.t 13)) none 2 false true)]) AC.ret) AC.skip)) (AC.seq (AC.ops [(AOp.mk (some 14) (AK.mv (AX.t 4)) none 0 false true), (AOp.mk (some 15) (AK.call 48 [(AX.t 14)]) none 1 false true), (AOp.mk (some 2) (AK.mv (AX.t 15)) none 2 false true), (AOp.mk (some 3) (AK.mv (AX.c (PV.val (Value.int IntKind.i64 0)))) none 3 false true)]) AC.ret))))
theorem ac21_ok : cCode Try.prog (fun _ => false) Try.f21.ntmps (Try.f21.body.getD .skip) = some ac21 := by kernel_rfl
theorem Index_sem (l : List Int) (x : Int) : Sem1 133 [pis l, pi x] (pi (idxI l fun y => decide (x = y))) := by
  refine semC_of_exec' mixed Try.func133 (by kernel_rfl) (by kernel_rfl) ac133_ok 2 rfl (by decide) [(.tmp 4)] (by kernel_rfl) ?_
  intro hr C hC hI
  unfold ac133
  simp only [go_sem, Nat.reduceBEq, List.length_map]
  have hl := real_len (i := 0) hr rfl
  rw [List.length_map] at hl
  refine loop_k l.length (fun j => ∀ y ∈ l.take j, decide (x = y) = false) [0, 1, 7] (fun j => [(8, .p (pi j))]) (by simp) rfl ⟨rfl, by simp, by simp⟩ (by simp [wkT, look, AV.lo]) ?_
  rintro j ⟨hj, hok⟩
  simp only [go_sem, Nat.reduceBEq]
  refine ⟨fun h5 => ?_, fun h5 => ?_⟩
  · have hj2 : j < l.length := by omega
    simp only [go_sem, Nat.reduceBEq, iadr_pis hj2]
    refine ⟨fun h6 => ?_, fun h6 => ?_⟩
    · exact retQ_one rfl (by rw [idxI_some hj2 (p := fun y => decide (x = y)) (decide_eq_true h6) hok])
    · simp only [go_sem, wrap_succ (k := j) (by omega)]
      refine ⟨⟨j + 1, hj2, take_next hj2 hok (decide_eq_false h6)⟩, by simp only; omega, by simp [Wk, wkT, wkL, look, AV.lo]⟩
  · have hjn : j = l.length := by omega
    subst hjn
    rw [List.take_length] at hok
    exact retQ_one rfl (by rw [idxI_none hok])
theorem Contains_sem (l : List Int) (x : Int) : Sem1 123 [pis l, pi x] (pb (decide (x ∈ l))) := by
  refine semC_of_exec' mixed Try.func123 (by kernel_rfl) (by kernel_rfl) ac123_ok 2 rfl (by decide) [(.tmp 4)] (by kernel_rfl) ?_
  intro hr C hC hI
  unfold ac123
  simp only [go_sem, Nat.reduceBEq]
  refine call_pure2 hC (Index_sem l x) rfl (PVleL_refl _) ?_
  rintro r rfl
  simp only [go_sem, Nat.reduceBEq]
  refine retQ_one rfl (congrArg pb ?_)
  rw [idxI_dec, Bool.eq_iff_iff]
  simp
theorem pis_le {k : SK} {sz : Nat} {l : List Int} (hsz : sz = 1 ∨ l = []) : PVle (.sl k sz (l.map fun x => [pi x])) (pis l) := by
  rcases hsz with rfl | rfl
  · exact PVle.sh _ _ _
  · exact PVle.nil _ _ _
theorem somebodys_sem (k k2 : SK) {b : MBook} (ho : okC b) : Sem1 104 [bookP k k2 b] (pb (decide (whoL b ≠ []))) := by
  by_cases hall : ∀ q, q < 6 → seenN b q = 31
  · have hw := all_who ho fun q hq => hall q (by have := ho.2.1; omega)
    rw [decide_eq_true hw]
    have g0 := hall 0 (by decide)
    have g1 := hall 1 (by decide)
    have g2 := hall 2 (by decide)
    have g3 := hall 3 (by decide)
    have g4 := hall 4 (by decide)
    have g5 := hall 5 (by decide)
    refine semC_of_exec' mixed Try.func104 (by kernel_rfl) (by kernel_rfl) ac104_ok 1 rfl (by decide) [(.tmp 2)] (by kernel_rfl) ?_
    intro hr C hC hI
    unfold ac104
    simp only [go_sem, Nat.reduceBEq, Nat.reduceAdd, Nat.reduceLeDiff]
    refine call_pure2 hC (allValues_sem) rfl (PVleL_refl _) ?_
    rintro r rfl
    simp only [go_sem, Nat.reduceBEq, g0, g1, g2, g3, g4, g5, decide_true, Bool.true_and]
    exact retQ_one rfl rfl
  · refine semC_of_exec' mixed Try.func104 (by kernel_rfl) (by kernel_rfl) ac104_ok 1 rfl (by decide) [(.tmp 2)] (by kernel_rfl) ?_
    intro hr C hC hI
    unfold ac104
    simp only [go_sem, Nat.reduceBEq, Nat.reduceAdd, Nat.reduceLeDiff]
    refine call_pure2 hC (allValues_sem) rfl (PVleL_refl _) ?_
    rintro r rfl
    simp only [go_sem, Nat.reduceBEq]
    refine ⟨fun _ => ?_, fun h => ?_⟩
    · refine call_pure2 hC (possible_sem k k2 ho) rfl (PVleL_refl _) ?_
      rintro r rfl
      simp only [go_sem, Nat.reduceBEq, List.length_map, natL_len]
      refine retQ_one rfl (congrArg pb (decide_eq_decide.2 ?_))
      rw [Int.natCast_pos, List.length_pos_iff]
    · refine absurd (fun q hq => ?_) hall
      rcases lt6 hq with rfl | rfl | rfl | rfl | rfl | rfl <;> omega
theorem withoutL_next {b : MBook} {out : List Int} {j : Nat} (hj : j < b.seen.length) : withoutL b out (j + 1) = withoutL b out j ++ if (j : Int) ∉ out then [b.seen[j]] else [] := by
  unfold withoutL
  rw [List.range_succ, List.filter_append, List.map_append]
  congr 1
  simp only [List.filter_cons, List.filter_nil, decide_eq_true_eq]
  split
  · simp [List.getD_eq_getElem?_getD, List.getElem?_eq_getElem hj]
  · rfl
theorem withoutL_len (b : MBook) (out : List Int) (j : Nat) : (withoutL b out j).length ≤ j := by
  unfold withoutL
  rw [List.length_map]
  exact Nat.le_trans (List.length_filter_le ..) (by simp)
theorem without_sem (k k2 : SK) {b : MBook} (ho : okC b) (hl : b.seen.length ≤ 999) (kk : SK) (sz : Nat) (out : List Int) (hsz : sz = 1 ∨ out = []) : Sem1 103 [bookP k k2 b, .sl kk sz (out.map fun x => [pi x])] (bookP k .sh (withoutB b out)) := by
  have hws := withSeen_sem k k2 b (.mpf (ownE b)) .sh (withoutL b out b.seen.length) (by have := withoutL_len b out b.seen.length; omega) (ho.without out)
  refine semC_of_exec' mixed Try.func103 (by kernel_rfl) (by kernel_rfl) ac103_ok 2 rfl (by decide) [(.tmp 4)] (by kernel_rfl) ?_
  intro hr C hC hI
  unfold ac103
  simp only [go_sem, Nat.reduceBEq, List.length_map]
  refine loop_g (α := Nat × Option Nat) (fun a => a.1 ≤ b.seen.length ∧ (a.2 = none → seenC (withoutL b out a.1) = [])) (fun a => b.seen.length - a.1) [0, 1, 12, 13] (fun a => [(5, .p (slZ 27 2 a.2 (seenC (withoutL b out a.1)))), (14, .p (pi a.1))]) (fun _ => []) (fun a => a.2.toList) (0, none) ⟨by omega, fun _ => by simp [withoutL]⟩ (by simp [Wk, wkT, wkL, look, AV.lo, upS_eq, keepS_nil, keepS_cons, slZ]) ?_
  rintro ⟨j, o⟩ ⟨hj, h0⟩
  replace hj : j ≤ b.seen.length := hj
  replace h0 : o = none → seenC (withoutL b out j) = [] := h0
  simp only [go_sem, Nat.reduceBEq]
  refine ⟨fun h5 => ?_, fun h5 => ?_⟩
  · have hj2 : j < b.seen.length := by omega
    have hnx := withoutL_next (out := out) hj2
    have hwl := withoutL_len b out j
    simp only [go_sem, Nat.reduceBEq, Nat.reduceAdd, iadr_map (f := fun m : Int × Int => [pi m.1, pi m.2]) (kd := k2) (sz := 2) hj2, putCells]
    refine call_pure2 hC (Contains_sem out j) rfl ⟨pis_le hsz, PVle.refl _, trivial⟩ ?_
    rintro r rfl
    by_cases hm : (j : Int) ∈ out
    · rw [if_neg (by simpa using hm), List.append_nil] at hnx
      simp only [go_sem, Nat.reduceBEq, eq_true hm, wrap_succ (k := j) (by omega), decide_true]
      refine ⟨⟨(j + 1, o), hj2, fun h => by show seenC (withoutL b out (j + 1)) = []; rw [hnx]; exact h0 h⟩, by simp only; omega, ?_⟩
      simp only [hnx]
      cases o <;> simp [Wk, wkT, wkL, look, AV.lo]
    · rw [if_pos hm] at hnx
      have hnx2 : seenC (withoutL b out (j + 1)) = seenC (withoutL b out j) ++ [[pi b.seen[j].1, pi b.seen[j].2]] := by rw [hnx]; simp
      simp only [go_sem, Nat.reduceBEq, Nat.reduceAdd, eq_false hm, decide_false]
      refine app_slZ h0 (by rw [List.length_map]; omega) (by simp) fun tk htk => ?_
      simp only [go_sem, Nat.reduceBEq, wrap_succ (k := j) (by omega)]
      refine ⟨⟨(j + 1, some tk), hj2, (fun h => by cases h)⟩, by simp only; omega, ?_⟩
      simp only [hnx2]
      refine ⟨by simp [wkT, look, AV.lo], trivial, by simp, by simp, rfl, rfl, by simp⟩
  · have hjn : j = b.seen.length := by omega
    subst hjn
    refine call_pure2 hC (hws) rfl ⟨PVle.refl _, slZ_le h0, trivial⟩ ?_
    rintro r rfl
    simp only [go_sem, Nat.reduceBEq]
    exact retQ_one rfl rfl
theorem upd5 {x0 x1 x2 x3 x4 a b c d e : ABlk} {M X : List ABlk} : updL (x0 :: x1 :: x2 :: x3 :: x4 :: M) [0, 1, 2, 3, 4] (a :: b :: c :: d :: e :: X) = a.ren (mAt [0, 1, 2, 3, 4] (M.length + 1 + 1 + 1 + 1 + 1)) :: b.ren (mAt [0, 1, 2, 3, 4] (M.length + 1 + 1 + 1 + 1 + 1)) :: c.ren (mAt [0, 1, 2, 3, 4] (M.length + 1 + 1 + 1 + 1 + 1)) :: d.ren (mAt [0, 1, 2, 3, 4] (M.length + 1 + 1 + 1 + 1 + 1)) :: e.ren (mAt [0, 1, 2, 3, 4] (M.length + 1 + 1 + 1 + 1 + 1)) :: (M ++ X.map (ABlk.ren (mAt [0, 1, 2, 3, 4] (M.length + 1 + 1 + 1 + 1 + 1)))) := by simp [updL, setAll, setAll_nil]
def LW (k k2 : SK) (b : MBook) (m : Nat) (v : PV) (f : Bool) : List ABlk := [.cells [.p (bookP k k2 b)], .cells [.p (pi m)], .cells [.p v], .cells [.p (pb f)], .cells [.clo 102 [] [.loc 1 0, .loc 0 0, .loc 3 0, .loc 2 0, .loc 4 0]]]
def nilL : PV := .sl .full 0 []
def fullL (l : List Int) : PV := .sl .full 1 (l.map fun x => [pi x])
def LeaveOk (k k2 : SK) (b : MBook) (m r : Nat) : Prop := ∀ (kk : SK) (sz : Nat) (l : List Int) (a : Nat), (sz = 1 ∨ l = []) → l.length + r = m → a ≤ b.seen.length →
  SemM Try.prog Fence.wide 102 [.p (.sl kk sz (l.map fun x => [pi x])), .p (pi a), .loc 1 0, .loc 0 0, .loc 3 0, .loc 2 0, .loc 4 0] (LW k k2 b m nilL false) (some []) (fun v L ys => ys = some [] ∧ ((∃ z, (listsF b.seen.length r l a).find? (wrongP b) = some z ∧ v = .p (pb true) ∧ L.take 5 = LW k k2 b m (fullL z) true) ∨ ((listsF b.seen.length r l a).find? (wrongP b) = none ∧ v = .p (pb false) ∧ L.take 5 = LW k k2 b m nilL false)))
theorem leave_zero (k k2 : SK) {b : MBook} (ho : okC b) (hl : b.seen.length ≤ 100) (m : Nat) : LeaveOk k k2 b m 0 := by
  intro kk sz l a hsz hlm ha
  have hlm2 : (l.length : Int) = m := by omega
  have hws := without_sem k k2 ho (by omega) kk sz l hsz
  have hsb := somebodys_sem k .sh (ho.without l)
  have hf : (listsF b.seen.length 0 l a).find? (wrongP b) = if wrongP b l then some l else none := by
    unfold listsF
    rw [List.find?_cons]
    cases wrongP b l <;> rfl
  have hp : decide (whoL (withoutB b l) ≠ []) = wrongP b l := rfl
  rw [hp] at hsb
  rw [hf]
  clear hf hp
  refine semM_of_exec' mixed Try.func102 (by kernel_rfl) (by kernel_rfl) ac102_ok 7 rfl (by decide) [(.tmp 9)] (by kernel_rfl) ?_
  intro C hC hI
  unfold ac102
  simp only [go_sem, Nat.reduceBEq, Nat.reduceAdd, LW, nilL, fullL, List.length_map]
  refine ⟨fun _ => ?_, fun h => absurd hlm2 h⟩
  refine call_pure2 hC (hws) rfl (PVleL_refl _) ?_
  rintro r rfl
  simp only [go_sem, Nat.reduceBEq]
  refine call_pure2 hC (hsb) rfl (PVleL_refl _) ?_
  rintro r rfl
  simp only [go_sem, Nat.reduceBEq, putCells]
  cases hw : wrongP b l
  · simp only [go_sem, Nat.reduceBEq]
    exact retMQ_one rfl ⟨rfl, .inr ⟨rfl, rfl, rfl⟩⟩
  · simp only [go_sem, Nat.reduceBEq]
    refine call_pure2 hC (handedOn_sem kk sz l hsz) rfl (PVleL_refl _) ?_
    rintro r rfl
    simp only [go_sem, Nat.reduceBEq, putCells]
    exact retMQ_one rfl ⟨rfl, .inl ⟨l, rfl, rfl, rfl⟩⟩
def spanN (a e j : Nat) : List Nat := ((List.range (e - a)).map fun q => a + q).drop j
theorem spanN_next {a e j : Nat} (h : j < e - a) : spanN a e j = (a + j) :: spanN a e (j + 1) := by
  unfold spanN
  rw [List.drop_eq_getElem_cons (by simpa using h)]
  simp
theorem take_LW {k k2 : SK} {b : MBook} {m : Nat} {v : PV} {f : Bool} {L : List ABlk} (h : L.take 5 = LW k k2 b m v f) : ∃ X, L = LW k k2 b m v f ++ X := ⟨L.drop 5, by rw [← h, List.take_append_drop]⟩
theorem leave_step (k k2 : SK) {b : MBook} (hl : b.seen.length ≤ 100) {m r : Nat} (hm : m ≤ 101) (hrec : LeaveOk k k2 b m r) : LeaveOk k k2 b m (r + 1) := by
  intro kk sz l a hsz hlm ha
  have hlm2 : ¬ (l.length : Int) = m := by omega
  have hF : listsF b.seen.length (r + 1) l a = (spanN a b.seen.length 0).flatMap fun (n : Nat) => listsF b.seen.length r (l ++ [(n : Int)]) (n + 1) := rfl
  rw [hF]
  refine semM_of_exec' mixed Try.func102 (by kernel_rfl) (by kernel_rfl) ac102_ok 7 rfl (by decide) [(.tmp 9)] (by kernel_rfl) ?_
  intro C hC hI
  unfold ac102
  simp only [go_sem, Nat.reduceBEq, Nat.reduceAdd, LW, nilL, List.length_map]
  refine ⟨fun h => absurd h hlm2, fun _ => ?_⟩
  refine loop_k (b.seen.length - a) (fun j => ((spanN a b.seen.length 0).flatMap fun (n : Nat) => listsF b.seen.length r (l ++ [(n : Int)]) (n + 1)).find? (wrongP b) = ((spanN a b.seen.length j).flatMap fun (n : Nat) => listsF b.seen.length r (l ++ [(n : Int)]) (n + 1)).find? (wrongP b)) [0, 3, 6] (fun j => [(10, .p (pi ((a + j : Nat) : Int)))]) rfl rfl ⟨rfl, by simp, by simp⟩ (by simp [wkT, look, AV.lo]) ?_
  rintro j ⟨hj, hok⟩
  simp only [go_sem, Nat.reduceBEq, List.length_map]
  refine ⟨fun h5 => ?_, fun h5 => ?_⟩
  · have hj2 : j < b.seen.length - a := by omega
    have hnx : IntKind.i64.wrap (((a + j : Nat) : Int) + 1) = ((a + (j + 1) : Nat) : Int) := wrap_succ (by omega)
    rw [spanN_next hj2, List.flatMap_cons, List.find?_append] at hok
    simp only [go_sem, hnx]
    refine call_pure2 hC (with_sem kk sz l ((a + j : Nat) : Int) hsz (by omega)) rfl (PVleL_refl _) ?_
    rintro r rfl
    simp only [go_sem, Nat.reduceBEq]
    refine call_mem2 hC [0, 1, 2, 3, 4] (hrec .sh 1 (l ++ [((a + j : Nat) : Int)]) (a + j + 1) (.inl rfl) (by simp; omega) (by omega)) rfl (by decide) rfl rfl rfl rfl (by simp) ?_
    rintro v L' ys' ⟨rfl, ⟨z, hz, rfl, hL⟩ | ⟨hz, rfl, hL⟩⟩ -
    · obtain ⟨X, rfl⟩ := take_LW hL
      rw [hz, Option.some_or] at hok
      unfold LW
      simp only [go_sem, Nat.reduceBEq, Nat.reduceAdd, upd5]
      refine retMQ_one rfl ⟨rfl, .inl ⟨z, hok, rfl, ?_⟩⟩
      simp [fullL]
    · obtain ⟨X, rfl⟩ := take_LW hL
      rw [hz, Option.none_or] at hok
      unfold LW nilL
      simp only [go_sem, Nat.reduceBEq, Nat.reduceAdd, upd5, hnx]
      refine ⟨⟨j + 1, hj2, hok⟩, by simp only; omega, ?_⟩
      simp [Wk, wkT, wkL, look, AV.lo, AV.lo.loL, ABlk.toZ]
  · have hjn : j = b.seen.length - a := by omega
    subst hjn
    rw [show spanN a b.seen.length (b.seen.length - a) = [] from List.drop_eq_nil_of_le (by simp)] at hok
    exact retMQ_one rfl ⟨rfl, .inr ⟨hok, rfl, rfl⟩⟩
theorem leave_ok (k k2 : SK) {b : MBook} (ho : okC b) (hl : b.seen.length ≤ 100) {m : Nat} (hm : m ≤ 101) : ∀ r, LeaveOk k k2 b m r
  | 0 => leave_zero k k2 ho hl m
  | r + 1 => leave_step k k2 hl hm (leave_ok k k2 ho hl hm r)
theorem retQ_cells2 {P : Program} {t t' : Nat} {ty ty' : TypeId} {R : PV → Prop} {s : AS} {x y : PV} (hs : shapeN P ty = some none) (hs' : shapeN P ty' = some none) (h : stillV s (.ld none (.t t)) = some (.p x)) (h' : stillV s (.ld none (.t t')) = some (.p y)) (hR : R (.tup [x, y])) : retQ P [.cell t ty, .cell t' ty'] R s :=
  ⟨[.p x, .p y], [x, y], s.loc, .tup [x, y], by simp [resA, hs, hs', h, h'], rfl, PVle.refl _, hR⟩
def leftR (o : Option (List Int)) : PV := match o with | some z => .tup [fullL z, pb true] | none => .tup [nilL, pb false]
theorem leftOut_sem (k k2 : SK) {b : MBook} (ho : okC b) (hl : b.seen.length ≤ 100) {m : Nat} (hm : m ≤ 101) : Sem1 78 [bookP k k2 b, pi m] (leftR (firstAt b.seen.length (wrongP b) m)) := by
  have hok := leave_ok k k2 ho hl hm m .full 0 [] 0 (.inr rfl) (by simp) (by omega)
  have hF : firstAt b.seen.length (wrongP b) m = (listsF b.seen.length m [] 0).find? (wrongP b) := rfl
  rw [hF]
  refine semC_of_exec' mixed Try.func78 (by kernel_rfl) (by kernel_rfl) ac78_ok 2 rfl (by decide) [(.cell 4 31), (.cell 5 4)] (by kernel_rfl) ?_
  intro hr C hC hI
  unfold ac78
  simp only [go_sem, Nat.reduceBEq, Nat.reduceAdd, putCells]
  refine call_mem2 hC [0, 1, 2, 3, 4] (hok) rfl (by decide) rfl rfl rfl rfl (by simp) ?_
  rintro v L' ys' ⟨rfl, ⟨z, hz, rfl, hL⟩ | ⟨hz, rfl, hL⟩⟩ -
  · obtain ⟨X, rfl⟩ := take_LW hL
    rw [hz]
    unfold LW fullL
    simp only [go_sem, Nat.reduceBEq, Nat.reduceAdd, upd5, putCells, gs_stA, stG_loc, stGB_cells, List.map_cons, List.map_nil, true_or, true_and]
    refine ⟨⟨?_, ?_⟩, ?_⟩
    all_goals exact retQ_cells2 (by kernel_rfl) (by kernel_rfl) rfl rfl rfl
  · obtain ⟨X, rfl⟩ := take_LW hL
    rw [hz]
    unfold LW nilL
    simp only [go_sem, Nat.reduceBEq, Nat.reduceAdd, upd5, putCells, gs_stA, stG_loc, stGB_cells, List.map_cons, List.map_nil, true_or, true_and]
    refine ⟨⟨?_, ?_⟩, ?_⟩
    all_goals exact retQ_cells2 (by kernel_rfl) (by kernel_rfl) rfl rfl rfl
theorem wrong_sem (k k2 : SK) {b : MBook} (ho : okC b) (hl : b.seen.length ≤ 100) : Sem1 48 [bookP k k2 b] (pis (wrongI b)) := by
  refine semC_of_exec' mixed Try.func48 (by kernel_rfl) (by kernel_rfl) ac48_ok 1 rfl (by decide) [(.tmp 2)] (by kernel_rfl) ?_
  intro hr C hC hI
  unfold ac48
  simp only [go_sem, Nat.reduceBEq, List.length_map, wrap_succ (k := b.seen.length) (by omega)]
  refine loop_k (b.seen.length + 1) (fun j => ∀ x, x < j → firstAt b.seen.length (wrongP b) x = none) [0, 12] (fun j => [(13, .p (pi j))]) (fun x h => absurd h (by omega)) rfl ⟨rfl, by simp, by simp⟩ (by simp [wkT, look, AV.lo]) ?_
  rintro j ⟨hj, hok⟩
  simp only [go_sem, Nat.reduceBEq]
  refine ⟨fun h5 => ?_, fun h5 => ?_⟩
  · have hj2 : j < b.seen.length + 1 := by omega
    refine call_pure2 hC (leftOut_sem k k2 ho hl (m := j) (by omega)) rfl (PVleL_refl _) ?_
    rintro r rfl
    simp only [go_sem, Nat.reduceBEq]
    cases hf : firstAt b.seen.length (wrongP b) j with
    | none =>
      simp only [go_sem, Nat.reduceBEq, leftR, wrap_succ (k := j) (by omega)]
      refine ⟨⟨j + 1, hj2, fun x hx => ?_⟩, by simp only; omega, by simp [Wk, wkT, wkL, look, AV.lo]⟩
      by_cases e : x = j
      · rw [e]; exact hf
      · exact hok x (by omega)
    | some z =>
      have e : wrongI b = z := firstO_some hj2 hok hf
      rw [e]
      simp only [go_sem, Nat.reduceBEq, leftR, fullL]
      exact retQ_le rfl (PVle.sh _ _ _) rfl
  · have e : wrongI b = [] := firstO_none fun x hx => hok x (by omega)
    rw [e]
    exact retQ_le rfl (PVle.nil _ _ _) rfl
theorem Wrong_sem (k k2 : SK) (b : MBook) : Sem1 21 [.agg (bookC k k2 b)] (if errA b true = 0 then .tup [pis (wrongI b), pi 0] else .tup [pis [], pi (errA b true)]) := by
  refine semC_of_exec' mixed Try.func21 (by kernel_rfl) (by kernel_rfl) ac21_ok 1 rfl (by decide) [(.tmp 2), (.tmp 3)] (by kernel_rfl) ?_
  intro hr C hC hI
  unfold ac21
  simp only [go_sem, Nat.reduceBEq, Nat.reduceAdd]
  refine askP hC k k2 b true (fun hne => ?_) (fun h0 => ?_)
  · rw [if_neg hne]
    simp only [go_sem, Nat.reduceBEq, eq_true hne, decide_true]
    exact retQ_two_le rfl rfl (PVle.nil _ _ _) (PVle.refl _) rfl
  · obtain ⟨ho, -⟩ := errA_ok h0
    rw [if_pos h0]
    simp only [go_sem, Nat.reduceBEq, decide_false, not_true_eq_false]
    refine call_pure2 hC (wrong_sem k k2 ho.1 (by have := ho.2; omega)) rfl (PVleL_refl _) ?_
    rintro r rfl
    simp only [go_sem, Nat.reduceBEq]
    exact retQ_two rfl rfl rfl
end Go.Proofs.Ytlbolnlcncjijaa.Mk
