/- Contracts of mend: all truths of a work. Contracts of mend: a book in the calculation. -/
import Derived.Test.YtlcpplkbmlmmbaaGreatCaps07
namespace Go.Proofs.YtlcpplkbmlmmbaaGreat.Mk.Me
open Go.RowKit Ls
def ac120 : AC := (AC.seq (AC.ops [(AOp.mk (some 1) (AK.box 2 (AX.t 0)) none 0 false true), (AOp.mk (some 2) (AK.mv (AX.c (PV.val Value.nilFunc))) none 1 false true)]) (AC.seq (AC.tree (AT.op (AOp.mk (some 5) (AK.fadr 0 (AX.t 1)) none 0 true false) (AT.op (AOp.mk (some 6) (AK.ld none (AX.t 5)) none 1 true false) (AT.op (AOp.mk (some 8) (AK.ld (some 2) (AX.t 1)) none 3 true false) (AT.op (AOp.mk (some 9) (AK.mkf 155 [(AX.t 8)] []) none 4 true false) (AT.op (AOp.mk (some 11) (AK.fadr 0 (AX.t 1)) none 6 true false) (AT.op (AOp.mk (some 12) (AK.ld none (AX.t 11)) none 7 true false) (AT.op (AOp.mk (some 14) (AK.ld (some 2) (AX.t 1)) none 9 true false) (AT.op (AOp.mk (some 15) (AK.mkf 156 [(AX.t 14)] []) none 10 true false) (AT.alt (AOp.mk (some 7) (AK.call 154 [(AX.t 6)]) none 2 false false) (AT.alt (AOp.mk (some 10) (AK.call 153 [(AX.t 7), (AX.t 9)]) none 5 false false) (AT.alt (AOp.mk (some 13) (AK.call 154 [(AX.t 12)]) none 8 false false) (AT.alt (AOp.mk (some 16) (AK.call 153 [(AX.t 13), (AX.t 15)]) none 11 false false) (AT.fk (AOp.mk (some 3) (AK.new (PV.val (Value.int IntKind.i64 0))) none 12 false false) (AOp.mk (some 4) (AK.new (PV.val (Value.int IntKind.i64 0))) none 13 false false) (AT.op (AOp.mk (some 4) (AK.new (PV.val (Value.int IntKind.i64 0))) none 13 false false) (AT.op (AOp.mk none (AK.st 1 (AX.t 3) (AX.t 10)) none 14 false true) (AT.op (AOp.mk none (AK.st 1 (AX.t 4) (AX.t 16)) none 15 false true) AT.fin))) (AT.op (AOp.mk (some 3) (AK.new (PV.val (Value.int IntKind.i64 0))) none 12 false false) (AT.op (AOp.mk none (AK.st 1 (AX.t 3) (AX.t 10)) none 14 false true) (AT.op (AOp.mk none (AK.st 1 (AX.t 4) (AX.t 16)) none 15 false true) AT.fin)))) (AT.alt (AOp.mk (some 3) (AK.new (PV.val (Value.int IntKind.i64 0))) none 12 false false) (AT.fk (AOp.mk (some 16) (AK.call 153 [(AX.t 13), (AX.t 15)]) none 11 false false) (AOp.mk (some 4) (AK.new (PV.val (Value.int IntKind.i64 0))) none 13 false false) (AT.op (AOp.mk (some 4) (AK.new (PV.val (Value.int IntKind.i64 0))) none 13 false false) (AT.op (AOp.mk none (AK.st 1 (AX.t 3) (AX.t 10)) none 14 false true) (AT.op (AOp.mk none (AK.st 1 (AX.t 4) (AX.t 16)) none 15 false true) AT.fin))) (AT.op (AOp.mk (some 16) (AK.call 153 [(AX.t 13), (AX.t 15)]) none 11 false false) (AT.op (AOp.mk none (AK.st 1 (AX.t 3) (AX.t 10)) none 14 false true) (AT.op (AOp.mk none (AK.st 1 (AX.t 4) (AX.t 16)) none 15 false true) AT.fin)))) (AT.op (AOp.mk (some 4) (AK.new (PV.val (Value.int IntKind.i64 0))) none 13 false false) (AT.fk (AOp.mk (some 16) (AK.call 153 [(AX.t 13), (AX.t 15)]) none 11 false false) (AOp.mk (some 3) (AK.new (PV.val (Value.int IntKind.i64 0))) none 12 false false) (AT.op (AOp.mk (some 3) (AK.new (PV.val (Value.int IntKind.i64 0))) none 12 false false) (AT.op (AOp.mk none (AK.st 1 (AX.t 3) (AX.t 10)) none 14 false true) (AT.op (AOp.mk none (AK.st 1 (AX.t 4) (AX.t 16)) none 15 false true) AT.fin))) (AT.op (AOp.mk (some 16) (AK.call 153 [(AX.t 13), (AX.t 15)]) none 11 false false) (AT.op (AOp.mk none (AK.st 1 (AX.t 3) (AX.t 10)) none 14 false true) (AT.op (AOp.mk none (AK.st 1 (AX.t 4) (AX.t 16)) none 15 false true) AT.fin))))))) (AT.alt (AOp.mk (some 3) (AK.new (PV.val (Value.int IntKind.i64 0))) none 12 false false) (AT.fk (AOp.mk (some 13) (AK.call 154 [(AX.t 12)]) none 8 false false) (AOp.mk (some 4) (AK.new (PV.val (Value.int IntKind.i64 0))) none 13 false false) (AT.fk (AOp.mk (some 16) (AK.call 153 [(AX.t 13), (AX.t 15)]) none 11 false false) (AOp.mk (some 4) (AK.new (PV.val (Value.int IntKind.i64 0))) none 13 false false) (AT.op (AOp.mk (some 4) (AK.new (PV.val (Value.int IntKind.i64 0))) none 13 false false) (AT.op (AOp.mk none (AK.st 1 (AX.t 3) (AX.t 10)) none 14 false true) (AT.op (AOp.mk none (AK.st 1 (AX.t 4) (AX.t 16)) none 15 false true) AT.fin))) (AT.op (AOp.mk (some 16) (AK.call 153 [(AX.t 13), (AX.t 15)]) none 11 false false) (AT.op (AOp.mk none (AK.st 1 (AX.t 3) (AX.t 10)) none 14 false true) (AT.op (AOp.mk none (AK.st 1 (AX.t 4) (AX.t 16)) none 15 false true) AT.fin)))) (AT.op (AOp.mk (some 13) (AK.call 154 [(AX.t 12)]) none 8 false false) (AT.op (AOp.mk (some 16) (AK.call 153 [(AX.t 13), (AX.t 15)]) none 11 false false) (AT.op (AOp.mk none (AK.st 1 (AX.t 3) (AX.t 10)) none 14 false true) (AT.op (AOp.mk none (AK.st 1 (AX.t 4) (AX.t 16)) none 15 false true) AT.fin))))) (AT.op (AOp.mk (some 4) (AK.new (PV.val (Value.int IntKind.i64 0))) none 13 false false) (AT.fk (AOp.mk (some 13) (AK.call 154 [(AX.t 12)]) none 8 false false) (AOp.mk (some 3) (AK.new (PV.val (Value.int IntKind.i64 0))) none 12 false false) (AT.fk (AOp.mk (some 16) (AK.call 153 [(AX.t 13), (AX.t 15)]) none 11 false false) (AOp.mk (some 3) (AK.new (PV.val (Value.int IntKind.i64 0))) none 12 false false) (AT.op (AOp.mk (some 3) (AK.new (PV.val (Value.int IntKind.i64 0))) none 12 false false) (AT.op (AOp.mk none (AK.st 1 (AX.t 3) (AX.t 10)) none 14 false true) (AT.op (AOp.mk none (AK.st 1 (AX.t 4) (AX.t 16)) none 15 false true) AT.fin))) (AT.op (AOp.mk (some 16) (AK.call 153 [(AX.t 13), (AX.t 15)]) none 11 false false) (AT.op (AOp.mk none (AK.st 1 (AX.t 3) (AX.t 10)) none 14 false true) (AT.op (AOp.mk none (AK.st 1 (AX.t 4) (AX.t 16)) none 15 false true) AT.fin)))) (AT.op (AOp.mk (some 13) (AK.call 154 [(AX.t 12)]) none 8 false false) (AT.op (AOp.mk (some 16) (AK.call 153 [(AX.t 13), (AX.t 15)]) none 11 false false) (AT.op (AOp.mk none (AK.st 1 (AX.t 3) (AX.t 10)) none 14 false true) (AT.op (AOp.mk none (AK.st 1 (AX.t 4) (AX.t 16)) none 15 false true) AT.fin)))))))) (AT.alt (AOp.mk (some 3) (AK.new (PV.val (Value.int IntKind.i64 0))) none 12 false false) (AT.fk (AOp.mk (some 10) (AK.call 153 [(AX.t 7), (AX.t 9)]) none 5 false false) (AOp.mk (some 4) (AK.new (PV.val (Value.int IntKind.i64 0))) none 13 false false) (AT.fk (AOp.mk (some 13) (AK.call 154 [(AX.t 12)]) none 8 false false) (AOp.mk (some 4) (AK.new (PV.val (Value.int IntKind.i64 0))) none 13 false false) (AT.fk (AOp.mk (some 16) (AK.call 153 [(AX.t 13), (AX.t 15)]) none 11 false false) (AOp.mk (some 4) (AK.new (PV.val (Value.int IntKind.i64 0))) none 13 false false) (AT.op (AOp.mk (some 4) (AK.new (PV.val (Value.int IntKind.i64 0))) none 13 false false) (AT.op (AOp.mk none (AK.st 1 (AX.t 3) (AX.t 10)) none 14 false true) (AT.op (AOp.mk none (AK.st 1 (AX.t 4) (AX.t 16)) none 15 false true) AT.fin))) (AT.op (AOp.mk (some 16) (AK.call 153 [(AX.t 13), (AX.t 15)]) none 11 false false) (AT.op (AOp.mk none (AK.st 1 (AX.t 3) (AX.t 10)) none 14 false true) (AT.op (AOp.mk none (AK.st 1 (AX.t 4) (AX.t 16)) none 15 false true) AT.fin)))) (AT.op (AOp.mk (some 13) (AK.call 154 [(AX.t 12)]) none 8 false false) (AT.op (AOp.mk (some 16) (AK.call 153 [(AX.t 13), (AX.t 15)]) none 11 false false) (AT.op (AOp.mk none (AK.st 1 (AX.t 3) (AX.t 10)) none 14 false true) (AT.op (AOp.mk none (AK.st 1 (AX.t 4) (AX.t 16)) none 15 false true) AT.fin))))) (AT.op (AOp.mk (some 10) (AK.call 153 [(AX.t 7), (AX.t 9)]) none 5 false false) (AT.op (AOp.mk (some 13) (AK.call 154 [(AX.t 12)]) none 8 false false) (AT.op (AOp.mk (some 16) (AK.call 153 [(AX.t 13), (AX.t 15)]) none 11 false false) (AT.op (AOp.mk none (AK.st 1 (AX.t 3) (AX.t 10)) none 14 false true) (AT.op (AOp.mk none (AK.st 1 (AX.t 4) (AX.t 16)) none 15 false true) AT.fin)))))) (AT.op (AOp.mk (some 4) (AK.new (PV.val (Value.int IntKind.i64 0))) none 13 false false) (AT.fk (AOp.mk (some 10) (AK.call 153 [(AX.t 7), (AX.t 9)]) none 5 false false) (AOp.mk (some 3) (AK.new (PV.val (Value.int IntKind.i64 0))) none 12 false false) (AT.fk (AOp.mk (some 13) (AK.call 154 [(AX.t 12)]) none 8 false false) (AOp.mk (some 3) (AK.new (PV.val (Value.int IntKind.i64 0))) none 12 false false) (AT.fk (AOp.mk (some 16) (AK.call 153 [(AX.t 13), (AX.t 15)]) none 11 false false) (AOp.mk (some 3) (AK.new (PV.val (Value.int IntKind.i64 0))) none 12 false false) (AT.op (AOp.mk (some 3) (AK.new (PV.val (Value.int IntKind.i64 0))) none 12 false false) (AT.op (AOp.mk none (AK.st 1 (AX.t 3) (AX.t 10)) none 14 false true) (AT.op (AOp.mk none (AK.st 1 (AX.t 4) (AX.t 16)) none 15 false true) AT.fin))) (AT.op (AOp.mk (some 16) (AK.call 153 [(AX.t 13), (AX.t 15)]) none 11 false false) (AT.op (AOp.mk none (AK.st 1 (AX.t 3) (AX.t 10)) none 14 false true) (AT.op (AOp.mk none (AK.st 1 (AX.t 4) (AX.t 16)) none 15 false true) AT.fin)))) (AT.op (AOp.mk (some 13) (AK.call 154 [(AX.t 12)]) none 8 false false) (AT.op (AOp.mk (some 16) (AK.call 153 [(AX.t 13), (AX.t 15)]) none 11 false false) (AT.op (AOp.mk none (AK.st 1 (AX.t 3) (AX.t 10)) none 14 false true) (AT.op (AOp.mk none (AK.st 1 (AX.t 4) (AX.t 16)) none 15 false true) AT.fin))))) (AT.op (AOp.mk (some 10) (AK.call 153 [(AX.t 7), (AX.t 9)]) none 5 false false) (AT.op (AOp.mk (some 13) (AK.call 154 [(AX.t 12)]) none 8 false false) (AT.op (AOp.mk (some 16) (AK.call 153 [(AX.t 13), (AX.t 15)]) none 11 false false) (AT.op (AOp.mk none (AK.st 1 (AX.t 3) (AX.t 10)) none 14 false true) (AT.op (AOp.mk none (AK.st 1 (AX.t 4) (AX.t 16)) none 15 false true) AT.fin))))))))) (AT.alt (AOp.mk (some 3) (AK.new (PV.val (Value.int IntKind.i64 0))) none 12 false false) (AT.fk (AOp.mk (some 7) (AK.call 154 [(AX.t 6)]) none 2 false false) (AOp.mk (some 4) (AK.new (PV.val (Value.int IntKind.i64 0))) none 13 false false) (AT.fk (AOp.mk (some 10) (AK.call 153 [(AX.t 7), (AX.t 9)]) none 5 false false) (AOp.mk (some 4) (AK.new (PV.val (Value.int IntKind.i64 0))) none 13 false false) (AT.fk (AOp.mk (some 13) (AK.call 154 [(AX.t 12)]) none 8 false false) (AOp.mk (some 4) (AK.new (PV.val (Value.int IntKind.i64 0))) none 13 false false) (AT.fk (AOp.mk (some 16) (AK.call 153 [(AX.t 13), (AX.t 15)]) none 11 false false) (AOp.mk (some 4) (AK.new (PV.val (Value.int IntKind.i64 0))) none 13 false false) (AT.op (AOp.mk (some 4) (AK.new (PV.val (Value.int IntKind.i64 0))) none 13 false false) (AT.op (AOp.mk none (AK.st 1 (AX.t 3) (AX.t 10)) none 14 false true) (AT.op (AOp.mk none (AK.st 1 (AX.t 4) (AX.t 16)) none 15 false true) AT.fin))) (AT.op (AOp.mk (some 16) (AK.call 153 [(AX.t 13), (AX.t 15)]) none 11 false false) (AT.op (AOp.mk none (AK.st 1 (AX.t 3) (AX.t 10)) none 14 false true) (AT.op (AOp.mk none (AK.st 1 (AX.t 4) (AX.t 16)) none 15 false true) AT.fin)))) (AT.op (AOp.mk (some 13) (AK.call 154 [(AX.t 12)]) none 8 false false) (AT.op (AOp.mk (some 16) (AK.call 153 [(AX.t 13), (AX.t 15)]) none 11 false false) (AT.op (AOp.mk none (AK.st 1 (AX.t 3) (AX.t 10)) none 14 false true) (AT.op (AOp.mk none (AK.st 1 (AX.t 4) (AX.t 16)) none 15 false true) AT.fin))))) (AT.op (AOp.mk (some 10) (AK.call 153 [(AX.t 7), (AX.t 9)]) none 5 false false) (AT.op (AOp.mk (some 13) (AK.call 154 [(AX.t 12)]) none 8 false false) (AT.op (AOp.mk (some 16) (AK.call 153 [(AX.t 13), (AX.t 15)]) none 11 false false) (AT.op (AOp.mk none (AK.st 1 (AX.t 3) (AX.t 10)) none 14 false true) (AT.op (AOp.mk none (AK.st 1 (AX.t 4) (AX.t 16)) none 15 false true) AT.fin)))))) (AT.op (AOp.mk (some 7) (AK.call 154 [(AX.t 6)]) none 2 false false) (AT.op (AOp.mk (some 10) (AK.call 153 [(AX.t 7), (AX.t 9)]) none 5 false false) (AT.op (AOp.mk (some 13) (AK.call 154 [(AX.t 12)]) none 8 false false) (AT.op (AOp.mk (some 16) (AK.call 153 [(AX.t 13), (AX.t 15)]) none 11 false false) (AT.op (AOp.mk none (AK.st 1 (AX.t 3) (AX.t 10)) none 14 false true) (AT.op (AOp.mk none (AK.st 1 (AX.t 4) (AX.t 16)) none 15 false true) AT.fin))))))) (AT.op (AOp.mk (some 4) (AK.new (PV.val (Value.int IntKind.i64 0))) none 13 false false) (AT.fk (AOp.mk (some 7) (AK.call 154 [(AX.t 6)]) none 2 false false) (AOp.mk (some 3) (AK.new (PV.val (Value.int IntKind.i64 0))) none 12 false false) (AT.fk (AOp.mk (some 10) (AK.call 153 [(AX.t 7), (AX.t 9)]) none 5 false false) (AOp.mk (some 3) (AK.new (PV.val (Value.int IntKind.i64 0))) none 12 false false) (AT.fk (AOp.mk (some 13) (AK.call 154 [(AX.t 12)]) none 8 false false) (AOp.mk (some 3) (AK.new (PV.val (Value.int IntKind.i64 0))) none 12 false false) (AT.fk (AOp.mk (some 16) (AK.call 153 [(AX.t 13), (AX.t 15)]) none 11 false false) (AOp.mk (some 3) (AK.new (PV.val (Value.int IntKind.i64 0))) none 12 false false) (AT.op (AOp.mk (some 3) (AK.new (PV.val (Value.int IntKind.i64 0))) none 12 false false) (AT.op (AOp.mk none (AK.st 1 (AX.t 3) (AX.t 10)) none 14 false true) (AT.op (AOp.mk none (AK.st 1 (AX.t 4) (AX.t 16)) none 15 false true) AT.fin))) (AT.op (AOp.mk (some 16) (AK.call 153 [(AX.t 13), (AX.t 15)]) none 11 false false) (AT.op (AOp.mk none (AK.st 1 (AX.t 3) (AX.t 10)) none 14 false true) (AT.op (AOp.mk none (AK.st 1 (AX.t 4) (AX.t 16)) none 15 false true) AT.fin)))) (AT.op (AOp.mk (some 13) (AK.call 154 [(AX.t 12)]) none 8 false false) (AT.op (AOp.mk (some 16) (AK.call 153 [(AX.t 13), (AX.t 15)]) none 11 false false) (AT.op (AOp.mk none (AK.st 1 (AX.t 3) (AX.t 10)) none 14 false true) (AT.op (AOp.mk none (AK.st 1 (AX.t 4) (AX.t 16)) none 15 false true) AT.fin))))) (AT.op (AOp.mk (some 10) (AK.call 153 [(AX.t 7), (AX.t 9)]) none 5 false false) (AT.op (AOp.mk (some 13) (AK.call 154 [(AX.t 12)]) none 8 false false) (AT.op (AOp.mk (some 16) (AK.call 153 [(AX.t 13), (AX.t 15)]) none 11 false false) (AT.op (AOp.mk none (AK.st 1 (AX.t 3) (AX.t 10)) none 14 false true) (AT.op (AOp.mk none (AK.st 1 (AX.t 4) (AX.t 16)) none 15 false true) AT.fin)))))) (AT.op (AOp.mk (some 7) (AK.call 154 [(AX.t 6)]) none 2 false false) (AT.op (AOp.mk (some 10) (AK.call 153 [(AX.t 7), (AX.t 9)]) none 5 false false) (AT.op (AOp.mk (some 13) (AK.call 154 [(AX.t 12)]) none 8 false false) (AT.op (AOp.mk (some 16) (AK.call 153 [(AX.t 13), (AX.t 15)]) none 11 false false) (AT.op (AOp.mk none (AK.st 1 (AX.t 3) (AX.t 10)) none 14 false true) (AT.op (AOp.mk none (AK.st 1 (AX.t 4) (AX.t 16)) none 15 false true) AT.fin))))))))))))))))))) (AC.seq (AC.ops [(AOp.mk (some 17) (AK.mkf 157 [] [(AX.t 1), (AX.t 3), (AX.t 4)]) none 0 false true), (AOp.mk (some 2) (AK.mv (AX.t 17)) none 1 false true)]) AC.ret)))
theorem ac120_ok : cCode Tryz.prog (fun _ => false) Tryz.f120.ntmps (Tryz.f120.body.getD .skip) = some ac120 := by kernel_rfl
def ac157 : AC := (AC.seq (AC.ops [(AOp.mk (some 4) (AK.box 1 (AX.t 0)) none 0 false true)]) (AC.seq (AC.ops [(AOp.mk (some 5) (AK.new (PV.val Value.nilFunc)) none 0 false true)]) (AC.seq (AC.ops [(AOp.mk (some 6) (AK.mkf 158 [] [(AX.t 4), (AX.t 1), (AX.t 2), (AX.t 5)]) none 0 false true), (AOp.mk none (AK.st 1 (AX.t 5) (AX.t 6)) none 1 false true)]) (AC.ops [(AOp.mk (some 7) (AK.ld none (AX.t 5)) none 0 false true), (AOp.mk (some 8) (AK.fadr 1 (AX.t 1)) none 1 false true), (AOp.mk (some 9) (AK.ld none (AX.t 8)) none 2 false true), (AOp.mk (some 10) (AK.ld none (AX.t 3)) none 3 false true), (AOp.mk (some 11) (AK.build [(PV.val (Value.int IntKind.i64 0)), (PV.val (Value.int IntKind.i64 0))] [(0, (1, (AX.t 9))), (1, (1, (AX.t 10)))]) none 4 false true), (AOp.mk (some 12) (AK.callv (AX.t 7) [(AX.t 11), (AX.c (PV.val (Value.int IntKind.i64 0)))]) none 5 false true)]))))
theorem ac157_ok : cCode Tryz.prog (fun _ => false) Tryz.f157.ntmps (Tryz.f157.body.getD .skip) = some ac157 := by kernel_rfl
def ac158 : AC := (AC.seq (AC.ops [(AOp.mk (some 6) (AK.box 2 (AX.t 0)) none 0 false true), (AOp.mk (some 8) (AK.mv (AX.c (PV.val (Value.bool false)))) none 1 false true)]) (AC.seq (AC.seq (AC.ops [(AOp.mk (some 11) (AK.ld none (AX.t 2)) none 0 false true), (AOp.mk (some 12) (AK.ld (some 2) (AX.t 6)) none 1 false true), (AOp.mk (some 13) (AK.callv (AX.t 11) [(AX.t 12)]) none 2 false true), (AOp.mk (some 14) (AK.un UnOp.not (AX.t 13)) none 3 false true)]) (AC.cond (AX.t 14) (AC.seq (AC.ops [(AOp.mk (some 8) (AK.mv (AX.c (PV.val (Value.bool false)))) none 0 false true)]) AC.ret) AC.skip)) (AC.seq AC.skip (AC.seq (AC.seq (AC.ops [(AOp.mk (some 15) (AK.mv (AX.t 1)) none 0 false true), (AOp.mk (some 9) (AK.mv (AX.t 15)) none 1 false true)]) (AC.block 0 (AC.loop (AC.seq (AC.seq (AC.ops [(AOp.mk (some 16) (AK.mv (AX.t 9)) none 0 false true), (AOp.mk (some 17) (AK.fadr 0 (AX.t 3)) none 1 false true), (AOp.mk (some 18) (AK.ld none (AX.t 17)) none 2 false true), (AOp.mk (some 19) (AK.call 154 [(AX.t 18)]) none 3 false true), (AOp.mk (some 20) (AK.bin false BinOp.lss (AX.t 16) (AX.t 19)) none 4 false true)]) (AC.cond (AX.t 20) AC.skip (AC.exit 0))) (AC.seq (AC.block 1 (AC.seq (AC.ops [(AOp.mk (some 23) (AK.ld (some 2) (AX.t 6)) none 0 false true), (AOp.mk (some 24) (AK.mv (AX.t 9)) none 1 false true), (AOp.mk (some 25) (AK.call 159 [(AX.t 23), (AX.t 24)]) none 2 false true), (AOp.mk (some 10) (AK.new (PV.agg [(PV.val (Value.int IntKind.i64 0)), (PV.val (Value.int IntKind.i64 0))])) none 3 false true), (AOp.mk none (AK.st 2 (AX.t 10) (AX.t 25)) none 4 false true)]) (AC.block 2 (AC.seq (AC.seq (AC.ops [(AOp.mk (some 27) (AK.ld none (AX.t 4)) none 0 false true), (AOp.mk (some 28) (AK.mv (AX.t 9)) none 1 false true), (AOp.mk (some 29) (AK.call 160 [(AX.t 27), (AX.t 28)]) none 2 false true), (AOp.mk (some 30) (AK.un UnOp.not (AX.t 29)) none 3 false true), (AOp.mk (some 26) (AK.mv (AX.t 30)) none 4 false true)]) (AC.cond (AX.t 26) AC.skip (AC.seq (AC.ops [(AOp.mk (some 31) (AK.ld (some 2) (AX.t 10)) none 0 false true), (AOp.mk (some 32) (AK.ld (some 2) (AX.t 6)) none 1 false true), (AOp.mk (some 33) (AK.eqs [CK.i, CK.i] false (AX.t 31) (AX.t 32)) none 2 false true), (AOp.mk (some 26) (AK.mv (AX.t 33)) none 3 false true)]) (AC.cond (AX.t 26) AC.skip (AC.ops [(AOp.mk (some 34) (AK.fadr 1 (AX.t 10)) none 0 true false), (AOp.mk (some 35) (AK.ld none (AX.t 34)) none 1 true false), (AOp.mk (some 37) (AK.fadr 0 (AX.t 3)) none 3 true false), (AOp.mk (some 38) (AK.ld none (AX.t 37)) none 4 true false), (AOp.mk (some 39) (AK.nilc (AX.t 38)) none 5 true false), (AOp.mk (some 40) (AK.fadr 0 (AX.t 39)) none 6 true false), (AOp.mk (some 41) (AK.fadr 0 (AX.t 40)) none 7 true false), (AOp.mk (some 42) (AK.fadr 2 (AX.t 41)) none 8 true false), (AOp.mk (some 43) (AK.ld none (AX.t 42)) none 9 true false), (AOp.mk (some 36) (AK.call 161 [(AX.t 35)]) none 2 false false), (AOp.mk (some 44) (AK.bin false BinOp.gtr (AX.t 36) (AX.t 43)) none 10 true true), (AOp.mk (some 26) (AK.mv (AX.t 44)) none 11 true true)]))))) (AC.cond (AX.t 26) (AC.exit 1) (AC.seq (AC.ops [(AOp.mk (some 46) (AK.ld none (AX.t 5)) none 0 false true), (AOp.mk (some 47) (AK.ld (some 2) (AX.t 10)) none 1 false true), (AOp.mk (some 48) (AK.mv (AX.t 9)) none 2 false true), (AOp.mk (some 49) (AK.bin false BinOp.add (AX.t 48) (AX.c (PV.val (Value.int IntKind.i64 1)))) none 3 false true), (AOp.mk (some 50) (AK.callv (AX.t 46) [(AX.t 47), (AX.t 49)]) none 4 false true), (AOp.mk (some 51) (AK.un UnOp.not (AX.t 50)) none 5 false true), (AOp.mk (some 45) (AK.mv (AX.t 51)) none 6 false true)]) (AC.cond (AX.t 45) (AC.seq (AC.ops [(AOp.mk (some 8) (AK.mv (AX.c (PV.val (Value.bool false)))) none 0 false true)]) AC.ret) AC.skip))))))) (AC.ops [(AOp.mk (some 21) (AK.mv (AX.t 9)) none 0 false true), (AOp.mk (some 22) (AK.bin false BinOp.add (AX.t 21) (AX.c (PV.val (Value.int IntKind.i64 1)))) none 1 false true), (AOp.mk (some 9) (AK.mv (AX.t 22)) none 2 false true)])))))) (AC.seq (AC.ops [(AOp.mk (some 8) (AK.mv (AX.c (PV.val (Value.bool true)))) none 0 false true)]) AC.ret)))))
theorem ac158_ok : cCode Tryz.prog (fun _ => false) Tryz.f158.ntmps (Tryz.f158.body.getD .skip) = some ac158 := by kernel_rfl
abbrev wkP (κ : KS) (b : EBook) (m : Nat) : PV := .ptr [bookP κ b [], pi m] 0
set_option maxRecDepth 100000 in
set_option maxHeartbeats 4000000 in
theorem truths_clo (κ : KS) {b : EBook} (ho : okBook b.mb) {m : Nat} (hm : m < b.mb.makers.length) (hp : possB b.mb m = true) : Sem1 120 [workC κ b m] (.clo 157 [] [wkP κ b m, .ptr [pi (canS b.mb m : Nat)] 0, .ptr [pi (mustS b.mb m : Nat)] 0]) := by
  have hz : 0 < b.mb.makers.length := by omega
  have h6 := ho.1.2.1.2
  have hK := kinds_sem κ hz
  have hCan := those_sem (f := 155) (fi := [workC κ b m]) (cap := []) (e := nK b.mb) (P := canQ b.mb m) (by omega) (fun n hn => canBe_sem κ ho hm hn hp)
  have hMust := those_sem (f := 156) (fi := [workC κ b m]) (cap := []) (e := nK b.mb) (P := zeroB b.mb m) (by omega) (fun n hn => mustBe_sem κ ho hm hn hp)
  unfold workC at *
  unfold wkP
  obtain ⟨B, hB⟩ : ∃ B, bookP κ b [] = B := ⟨_, rfl⟩
  rw [hB] at hK hCan hMust ⊢
  obtain ⟨c, hc⟩ : ∃ c, canS b.mb m = c := ⟨_, rfl⟩
  obtain ⟨u, hu⟩ : ∃ u, mustS b.mb m = u := ⟨_, rfl⟩
  rw [show setP (canQ b.mb m) (nK b.mb) = c from hc] at hCan
  rw [show setP (zeroB b.mb m) (nK b.mb) = u from hu] at hMust
  rw [hc, hu]
  refine semC_of_exec' mixed Tryz.func120 (by kernel_rfl) (by kernel_rfl) ac120_ok 1 rfl (by decide) [(.tmp 2)] (by kernel_rfl) ?_
  intro hr C hC hI
  unfold ac120
  simp only [go_sem, Nat.reduceBEq, Nat.reduceAdd, gs_newV, gs_stA, List.map_cons, List.map_nil]
  repeat' (first
    | exact retQ_pur rfl rfl (PVle.refl _) rfl
    | refine And.intro ?_ ?_
    | (refine call_pure2 hC hK rfl (PVleL_refl _) ?_
       rintro _ rfl
       simp only [go_sem, Nat.reduceBEq, Nat.reduceAdd])
    | (refine call_pure2 hC hCan rfl (PVleL_refl _) ?_
       rintro _ rfl
       simp only [go_sem, Nat.reduceBEq, Nat.reduceAdd])
    | (refine call_pure2 hC hMust rfl (PVleL_refl _) ?_
       rintro _ rfl
       simp only [go_sem, Nat.reduceBEq, Nat.reduceAdd, stG_loc, stGB_cells, true_or, true_and]))
abbrev encT (t : Nat × Nat) : List PV := [.agg (trC t)]
def encTs (m : Nat) (l : List Nat) : List (List PV) := l.map fun s => encT (m, s)
def LC (κ : KS) (b : EBook) (m c : Nat) : List ABlk := [.cells [.p .yld], .cells [.clo 158 [] [.loc 0 0, .p (wkP κ b m), .p (.ptr [pi c] 0), .loc 1 0]]]
theorem take_LC {κ : KS} {b : EBook} {m c : Nat} {L : List ABlk} (h : L.take 2 = LC κ b m c) : ∃ X, L = LC κ b m c ++ X := ⟨L.drop 2, by rw [← h, List.take_append_drop]⟩
def ChgOk (κ : KS) (b : EBook) (m c r : Nat) : Prop := ∀ (t a : Nat) (rest : List (List PV)), a + r = nK b.mb → t < 2 ^ nK b.mb →
  SemM Tryz.prog Fence.wide 158 [.p (.agg (trC (m, t))), .p (pi a), .loc 0 0, .p (wkP κ b m), .p (.ptr [pi c] 0), .loc 1 0] (LC κ b m c) (some (encTs m (t :: chg2 c b.mb.repairs (nK b.mb) r t) ++ rest))
    (fun v L' ys' => L'.take 2 = LC κ b m c ∧ ((v = .p (pb true) ∧ ys' = some rest) ∨ (v = .p (pb false) ∧ ys' = none)))
theorem chg2_step {can : Nat} {rep : Int} {K r t q : Nat} (hq : q = K - (r + 1)) : chg2 can rep K (r + 1) t = (if can.testBit q && !t.testBit q && decide ((cntN (t ||| 2 ^ q) 6 : Int) ≤ rep) then (t ||| 2 ^ q) :: chg2 can rep K r (t ||| 2 ^ q) else []) ++ chg2 can rep K r t := by
  subst hq
  rfl
theorem encTs_app (m : Nat) (l r : List Nat) : encTs m (l ++ r) = encTs m l ++ encTs m r := by simp [encTs]
theorem or_lt {t q K : Nat} (ht : t < 2 ^ K) (hq : q < K) : t ||| 2 ^ q < 2 ^ K := Nat.or_lt_two_pow ht (Nat.pow_lt_pow_right (by decide) hq)
theorem or_new {t q : Nat} : t ||| 2 ^ q = t ↔ t.testBit q = true := by
  constructor
  · intro h
    rw [← h, or_bit]
    simp
  · exact or_old
set_option maxRecDepth 100000 in
theorem chg_ok (κ : KS) {b : EBook} (ho : okBook b.mb) (m c : Nat) : ∀ r, ChgOk κ b m c r := by
  intro r
  induction r using Nat.strongRecOn with
  | _ r ih =>
    intro t a rest har ht
    have hz : 0 < b.mb.makers.length := ho.1.1.1
    have h6 := ho.1.2.1.2
    have h64 := pow_le64 ho.1
    rw [show encTs m (t :: chg2 c b.mb.repairs (nK b.mb) r t) ++ rest = encT (m, t) :: (encTs m (chg2 c b.mb.repairs (nK b.mb) r t) ++ rest) from rfl]
    refine semM_of_exec' mixed Tryz.func158 (by kernel_rfl) (by kernel_rfl) ac158_ok 6 rfl (by decide) [(.tmp 8)] (by kernel_rfl) ?_
    intro C hC hI
    unfold ac158
    simp only [go_sem, Nat.reduceBEq, Nat.reduceAdd, LC]
    refine ⟨PVleL_refl _, ?_, ?_⟩
    rotate_left
    · exact retMQ_one rfl ⟨rfl, .inr ⟨rfl, rfl⟩⟩
    refine loop_ky r (fun _ => True) [3, 4, 5, 6] (fun j => [(9, .p (pi ((a + j : Nat) : Int)))]) (fun _ => LC κ b m c ++ [.cells [.p (pi m), .p (pi t)]]) (fun j => some (encTs m (chg2 c b.mb.repairs (nK b.mb) (r - j) t) ++ rest)) trivial (by simp [Wk, wkT, wkL, look, AV.lo, AV.lo.loL, keepS, LC]) ?_
    rintro j ⟨hj, -⟩
    unfold LC
    simp only [go_sem, Nat.reduceBEq]
    refine call_pure2 hC (kinds_sem κ hz) rfl (PVleL_refl _) ?_
    rintro r rfl
    simp only [go_sem, Nat.reduceBEq, Nat.reduceAdd]
    refine ⟨fun h5 => ?_, fun h5 => ?_⟩
    · have hj2 : j < r := by omega
      obtain ⟨q, hq⟩ : ∃ q, q = a + j := ⟨_, rfl⟩
      have hqk : q < nK b.mb := by omega
      rw [← hq]
      have hnx : IntKind.i64.wrap ((q : Int) + 1) = ((a + (j + 1) : Nat) : Int) := by rw [wrap_succ (k := q) (by omega), hq]; rfl
      have hst := chg2_step (can := c) (rep := b.mb.repairs) (K := nK b.mb) (r := r - (j + 1)) (t := t) (q := q) (by omega)
      rw [show r - (j + 1) + 1 = r - j by omega] at hst
      have hor := or_lt ht hqk
      have emm := eq_true (show (m : Int) = m from rfl)
      have emd := decide_eq_true (show (m : Int) = m from rfl)
      refine call_pure2 hC (changing_sem m t q (by omega) (by omega)) rfl (PVleL_refl _) ?_
      rintro r rfl
      simp only [go_sem, Nat.reduceBEq, Nat.reduceAdd, putCells]
      refine call_pure2 hC (has_sem c q (by omega)) rfl (PVleL_refl _) ?_
      rintro r rfl
      simp only [go_sem, Nat.reduceBEq]
      cases hb : c.testBit q
      · rw [hb, Bool.false_and, Bool.false_and, if_neg (by decide), List.nil_append] at hst
        rw [hst]
        simp only [go_sem, Nat.reduceBEq, hnx]
        refine ⟨⟨j + 1, hj2, trivial⟩, by simp only; omega, ?_⟩
        exact by simp [Wk, wkT, wkL, look, AV.lo, AV.lo.loL, ABlk.toZ]
      rw [hb, Bool.true_and] at hst
      cases htb : t.testBit q
      rotate_left
      · rw [htb, Bool.not_true, Bool.false_and, if_neg (by decide), List.nil_append] at hst
        rw [hst, or_old htb]
        simp only [go_sem, Nat.reduceBEq, Nat.reduceAdd, hnx, decide_true, Bool.true_and]
        refine ⟨⟨j + 1, hj2, trivial⟩, by simp only; omega, ?_⟩
        exact by simp [Wk, wkT, wkL, look, AV.lo, AV.lo.loL, ABlk.toZ]
      rw [htb, Bool.not_false, Bool.true_and] at hst
      have hne : ¬ ((t ||| 2 ^ q : Nat) : Int) = (t : Int) := fun e => by
        have := or_new.1 (show t ||| 2 ^ q = t by omega)
        rw [htb] at this
        cases this
      obtain ⟨u, hu⟩ : ∃ u, t ||| 2 ^ q = u := ⟨_, rfl⟩
      rw [hu] at hst hne hor ⊢
      simp only [go_sem, Nat.reduceBEq, Nat.reduceAdd, eq_false hne, List.append_nil, decide_true, decide_false, Bool.true_and, Bool.false_and, Bool.false_eq_true]
      refine call_pure2 hC (many_sem (s := u) (by omega)) rfl (PVleL_refl _) ?_
      rintro r rfl
      simp only [go_sem, Nat.reduceBEq, Nat.reduceAdd]
      refine ⟨fun h7 => ?_, fun h7 => ?_⟩
      · rw [decide_eq_false (show ¬ (cntN u 6 : Int) ≤ b.mb.repairs by omega), if_neg (by decide), List.nil_append] at hst
        rw [hst, hnx]
        refine ⟨⟨j + 1, hj2, trivial⟩, by simp only; omega, ?_⟩
        exact by simp [Wk, wkT, wkL, look, AV.lo, AV.lo.loL, ABlk.toZ]
      rw [decide_eq_true (show (cntN u 6 : Int) ≤ b.mb.repairs by omega), if_pos rfl] at hst
      have hnx2 : IntKind.i64.wrap ((q : Int) + 1) = ((q + 1 : Nat) : Int) := wrap_succ (by omega)
      rw [hst, encTs_app, List.append_assoc]
      simp only [go_sem, hnx2]
      refine call_mem2 hC [0, 1] (ih (r - (j + 1)) (by omega) u (q + 1) (encTs m (chg2 c b.mb.repairs (nK b.mb) (r - (j + 1)) t) ++ rest) (by omega) hor) rfl (by decide) rfl rfl rfl rfl (by simp) ?_
      rintro v L' ys' ⟨hL2, hcase⟩ -
      obtain ⟨X, rfl⟩ := take_LC hL2
      rcases hcase with ⟨rfl, rfl⟩ | ⟨rfl, rfl⟩
      · unfold LC
        simp only [go_sem, Nat.reduceBEq, Nat.reduceAdd, hnx]
        refine ⟨⟨j + 1, hj2, trivial⟩, by simp only; omega, ?_⟩
        exact by simp [Wk, wkT, wkL, look, AV.lo, AV.lo.loL, ABlk.toZ]
      · unfold LC
        simp only [go_sem, Nat.reduceBEq, Nat.reduceAdd]
        exact retMQ_one rfl ⟨rfl, .inr ⟨rfl, rfl⟩⟩
    · have hjn : j = r := by omega
      subst hjn
      rw [Nat.sub_self, show encTs m (chg2 c b.mb.repairs (nK b.mb) 0 t) ++ rest = rest from rfl]
      exact retMQ_one rfl ⟨rfl, .inl ⟨rfl, rfl⟩⟩
theorem truths_it (κ : KS) {b : EBook} (ho : okBook b.mb) (m : Nat) : IterC Tryz.prog Fence.wide 157 [.yld, wkP κ b m, .ptr [pi (canS b.mb m : Nat)] 0, .ptr [pi (mustS b.mb m : Nat)] 0] (encTs m (setsL b.mb m)) := by
  have hlt : mustS b.mb m < 2 ^ nK b.mb := setP_lt _ _
  have h := chg_ok κ ho m (canS b.mb m) (nK b.mb) (mustS b.mb m) 0 [] (by omega) hlt
  rw [List.append_nil] at h
  obtain ⟨u, hu⟩ : ∃ u, mustS b.mb m = u := ⟨_, rfl⟩
  unfold setsL
  rw [hu] at h ⊢
  refine iterC_of_exec' mixed Tryz.func157 (by kernel_rfl) (by kernel_rfl) ac157_ok 4 rfl (by decide) (by kernel_rfl) ?_
  intro C hC hI
  unfold ac157
  simp only [go_sem, Nat.reduceBEq, Nat.reduceAdd, Nat.reduceLeDiff, putCells]
  refine call_mem2 hC [0, 1] h rfl (by decide) rfl rfl rfl rfl (by simp) ?_
  rintro v L' ys' ⟨hL2, hcase⟩ -
  rcases hcase with ⟨rfl, rfl⟩ | ⟨rfl, rfl⟩
  · exact .inl rfl
  · exact .inr rfl
end Go.Proofs.YtlcpplkbmlmmbaaGreat.Mk.Me
namespace Go.Proofs.YtlcpplkbmlmmbaaGreat.Mk.Me
open Go.RowKit Ls
def ac121 : AC := (AC.seq (AC.ops [(AOp.mk (some 2) (AK.mv (AX.c (PV.val (Value.int IntKind.i64 0)))) none 0 false true)]) (AC.seq (AC.seq (AC.ops [(AOp.mk (some 5) (AK.mv (AX.t 0)) none 0 false true), (AOp.mk (some 6) (AK.nilc (AX.t 5)) none 1 false true), (AOp.mk (some 7) (AK.fadr 0 (AX.t 6)) none 2 false true), (AOp.mk (some 8) (AK.fadr 4 (AX.t 7)) none 3 false true), (AOp.mk (some 9) (AK.ld none (AX.t 8)) none 4 false true), (AOp.mk (some 10) (AK.len (AX.t 9)) none 5 false true), (AOp.mk (some 11) (AK.mv (AX.c (PV.val (Value.int IntKind.i64 0)))) none 6 false true)]) (AC.block 0 (AC.loop (AC.seq (AC.ops [(AOp.mk (some 12) (AK.bin false BinOp.lss (AX.t 11) (AX.t 10)) none 0 false true)]) (AC.seq (AC.cond (AX.t 12) AC.skip (AC.exit 0)) (AC.seq (AC.block 1 (AC.seq (AC.ops [(AOp.mk (some 13) (AK.iadrS 6 (AX.t 9) (AX.t 11)) none 0 false true), (AOp.mk (some 14) (AK.ld (some 6) (AX.t 13)) none 1 false true), (AOp.mk (some 4) (AK.new (PV.agg [(PV.val (Value.int IntKind.i64 0)), (PV.val (Value.int IntKind.i64 0)), (PV.val (Value.int IntKind.i64 0)), (PV.val (Value.int IntKind.i64 0)), (PV.val (Value.int IntKind.i64 0)), (PV.val (Value.int IntKind.i64 0))])) none 2 false true), (AOp.mk none (AK.st 6 (AX.t 4) (AX.t 14)) none 3 false true)]) (AC.ops [(AOp.mk (some 15) (AK.mv (AX.t 2)) none 0 false true), (AOp.mk (some 16) (AK.fadr 0 (AX.t 4)) none 1 false true), (AOp.mk (some 17) (AK.ld none (AX.t 16)) none 2 false true), (AOp.mk (some 18) (AK.call 162 [(AX.t 15), (AX.t 17)]) none 3 false true), (AOp.mk (some 2) (AK.mv (AX.t 18)) none 4 false true)]))) (AC.ops [(AOp.mk (some 19) (AK.bin false BinOp.add (AX.t 11) (AX.c (PV.val (Value.int IntKind.i64 1)))) none 0 false true), (AOp.mk (some 11) (AK.mv (AX.t 19)) none 1 false true)]))))))) (AC.seq (AC.ops [(AOp.mk (some 20) (AK.mv (AX.t 2)) none 0 false true), (AOp.mk (some 2) (AK.mv (AX.t 20)) none 1 false true)]) AC.ret)))
theorem ac121_ok : cCode Tryz.prog (fun _ => false) Tryz.f121.ntmps (Tryz.f121.body.getD .skip) = some ac121 := by kernel_rfl
def ac84 : AC := (AC.seq (AC.ops [(AOp.mk (some 2) (AK.box 8 (AX.t 0)) none 0 false true), (AOp.mk (some 4) (AK.mv (AX.c PV.nilp)) none 1 false true)]) (AC.seq (AC.ops [(AOp.mk (some 10) (AK.ld (some 8) (AX.t 2)) none 0 false true), (AOp.mk (some 11) (AK.build [(PV.sl SK.full 0 []), (PV.sl SK.full 0 []), (PV.val (Value.int IntKind.i64 0)), (PV.val (Value.int IntKind.i64 0)), (PV.sl SK.full 0 []), (PV.val (Value.int IntKind.i64 0)), (PV.sl SK.full 0 []), (PV.sl SK.full 0 []), (PV.sl SK.full 0 [])] [(0, (8, (AX.t 10)))]) none 1 false true), (AOp.mk (some 12) (AK.box 9 (AX.t 11)) none 2 false true), (AOp.mk (some 5) (AK.new PV.nilp) none 3 false true), (AOp.mk none (AK.st 1 (AX.t 5) (AX.t 12)) none 4 false true)]) (AC.seq (AC.ops [(AOp.mk (some 13) AK.mkm none 0 false true), (AOp.mk (some 6) (AK.new (PV.tup [PV.any])) none 1 false true), (AOp.mk none (AK.st 1 (AX.t 6) (AX.t 13)) none 2 false true)]) (AC.seq (AC.seq (AC.ops [(AOp.mk (some 14) (AK.mv (AX.t 1)) none 0 false true), (AOp.mk (some 15) (AK.len (AX.t 14)) none 1 false true), (AOp.mk (some 16) (AK.mv (AX.c (PV.val (Value.int IntKind.i64 0)))) none 2 false true)]) (AC.block 0 (AC.loop (AC.seq (AC.ops [(AOp.mk (some 17) (AK.bin false BinOp.lss (AX.t 16) (AX.t 15)) none 0 false true)]) (AC.seq (AC.cond (AX.t 17) AC.skip (AC.exit 0)) (AC.seq (AC.block 1 (AC.seq (AC.ops [(AOp.mk (some 18) (AK.iadrS 1 (AX.t 14) (AX.t 16)) none 0 false true), (AOp.mk (some 19) (AK.ld none (AX.t 18)) none 1 false true), (AOp.mk (some 8) (AK.mv (AX.t 19)) none 2 false true)]) (AC.seq (AC.ops [(AOp.mk (some 20) (AK.ld none (AX.t 5)) none 0 false true), (AOp.mk (some 21) (AK.mv (AX.t 8)) none 1 false true), (AOp.mk (some 22) (AK.build [PV.nilp, (PV.val (Value.int IntKind.i64 0))] [(0, (1, (AX.t 20))), (1, (1, (AX.t 21)))]) none 2 false true), (AOp.mk (some 23) (AK.call 120 [(AX.t 22)]) none 3 false true)]) (AC.block 2 (AC.rng (AX.t 23) [24] (AC.ops [(AOp.mk (some 9) (AK.new (PV.agg [(PV.val (Value.int IntKind.i64 0)), (PV.val (Value.int IntKind.i64 0))])) none 0 false true), (AOp.mk none (AK.st 2 (AX.t 9) (AX.t 24)) none 1 false true)]) (AC.block 3 (AC.seq (AC.ops [(AOp.mk (some 25) (AK.fadr 1 (AX.t 9)) none 0 true false), (AOp.mk (some 26) (AK.ld none (AX.t 25)) none 1 true false), (AOp.mk (some 27) (AK.ld none (AX.t 5)) none 2 true false), (AOp.mk (some 28) (AK.call 121 [(AX.t 27)]) none 3 false false), (AOp.mk (some 29) (AK.bin false BinOp.and (AX.t 26) (AX.t 28)) none 4 true true), (AOp.mk (some 30) (AK.fadr 1 (AX.t 9)) none 5 true true), (AOp.mk none (AK.st 1 (AX.t 30) (AX.t 29)) none 6 false true)]) (AC.seq (AC.ops [(AOp.mk (some 31) (AK.ld none (AX.t 6)) none 0 false true), (AOp.mk (some 32) (AK.ld (some 2) (AX.t 9)) none 1 false true), (AOp.mk (some 33) (AK.lkp [CK.i, CK.i] true (PV.val (Value.bool false)) false (AX.t 31) (AX.t 32)) none 2 false true), (AOp.mk (some 34) (AK.un UnOp.not (AX.t 33)) none 3 false true)]) (AC.cond (AX.t 34) (AC.seq (AC.ops [(AOp.mk (some 35) (AK.ld none (AX.t 6)) none 0 false true), (AOp.mk (some 36) (AK.ld (some 2) (AX.t 9)) none 1 false true), (AOp.mk none (AK.mup [CK.i, CK.i] true (AX.t 35) (AX.t 36) (AX.c (PV.val (Value.bool true)))) none 2 false true)]) (AC.ops [(AOp.mk (some 37) (AK.ld none (AX.t 5)) none 0 true false), (AOp.mk (some 38) (AK.ld none (AX.t 5)) none 1 true false), (AOp.mk (some 39) (AK.nilc (AX.t 38)) none 2 true false), (AOp.mk (some 40) (AK.fadr 8 (AX.t 39)) none 3 true false), (AOp.mk (some 41) (AK.ld none (AX.t 40)) none 4 true false), (AOp.mk (some 42) (AK.ld (some 2) (AX.t 9)) none 5 true false), (AOp.mk (some 43) (AK.bslice false 132 2 1 [(PV.val (Value.int IntKind.i64 0)), (PV.val (Value.int IntKind.i64 0))] [(0, (2, (AX.t 42)))]) none 6 false false), (AOp.mk (some 44) (AK.app false 132 2 16 [(PV.val (Value.int IntKind.i64 0)), (PV.val (Value.int IntKind.i64 0))] (AX.t 41) (AX.t 43)) none 7 false false), (AOp.mk (some 45) (AK.nilc (AX.t 37)) none 8 true true), (AOp.mk (some 46) (AK.fadr 8 (AX.t 45)) none 9 true true), (AOp.mk none (AK.st 1 (AX.t 46) (AX.t 44)) none 10 false true)])) AC.skip))))))))) (AC.ops [(AOp.mk (some 47) (AK.bin false BinOp.add (AX.t 16) (AX.c (PV.val (Value.int IntKind.i64 1)))) none 0 false true), (AOp.mk (some 16) (AK.mv (AX.t 47)) none 1 false true)]))))))) (AC.seq (AC.ops [(AOp.mk (some 48) (AK.ld none (AX.t 5)) none 0 false true), (AOp.mk (some 4) (AK.mv (AX.t 48)) none 1 false true)]) AC.ret)))))
theorem ac84_ok : cCode Tryz.prog (fun _ => false) Tryz.f84.ntmps (Tryz.f84.body.getD .skip) = some ac84 := by kernel_rfl
def mendF (b : EBook) (i : Nat) : Nat := (b.jobs.take i).foldl (fun s j => s ||| 2 ^ j.kind.toNat) 0
theorem mendF_next {b : EBook} {i : Nat} (h : i < b.jobs.length) : mendF b (i + 1) = mendF b i ||| 2 ^ b.jobs[i].kind.toNat := by
  unfold mendF
  rw [foldl_take _ _ _ _ h]
theorem mendF_lt {b : EBook} (hk : ∀ j ∈ b.jobs, 0 ≤ j.kind ∧ j.kind < 6) : ∀ i, mendF b i < 2 ^ 6
  | 0 => by simp [mendF]
  | i + 1 => by
    have ih := mendF_lt hk i
    by_cases h : i < b.jobs.length
    · rw [mendF_next h]
      exact or_lt ih (by have := hk _ (List.getElem_mem h); omega)
    · have e : mendF b (i + 1) = mendF b i := by
        unfold mendF
        rw [List.take_of_length_le (by omega), List.take_of_length_le (by omega)]
      rw [e]
      exact ih
theorem mendF_end (b : EBook) : mendF b b.jobs.length = mendS b := by
  unfold mendF mendS
  rw [List.take_length]
theorem kinds_lt {b : EBook} (ho : okE b) : ∀ j ∈ b.jobs, 0 ≤ j.kind ∧ j.kind < 6 := fun j hj => by
  have h1 := (ho.2.2.2.1 j hj).1
  have h2 := ho.1.1.2.1.2
  omega
theorem mended_sem (κ : KS) {b : EBook} (ho : okE b) : Sem1 121 [bookP κ b []] (pi (mendS b : Nat)) := by
  have h4 := ho.2.1.2
  have hk := kinds_lt ho
  refine semC_of_exec' mixed Tryz.func121 (by kernel_rfl) (by kernel_rfl) ac121_ok 1 rfl (by decide) [(.tmp 2)] (by kernel_rfl) ?_
  intro hr C hC hI
  unfold ac121
  simp only [go_sem, Nat.reduceBEq, List.append_nil, List.length_map]
  refine loop_k b.jobs.length (fun _ => True) [9, 10] (fun j => [(2, .p (pi (mendF b j : Nat))), (11, .p (pi j))]) trivial rfl ⟨rfl, by simp, by simp⟩ (by simp [mendF, wkT, look, AV.lo]) ?_
  rintro j ⟨hj, -⟩
  simp only [go_sem, Nat.reduceBEq]
  refine ⟨fun h5 => ?_, fun h5 => ?_⟩
  · have hj2 : j < b.jobs.length := by omega
    have hkj := hk _ (List.getElem_mem hj2)
    obtain ⟨q, hq⟩ : ∃ q : Nat, b.jobs[j].kind = q := ⟨b.jobs[j].kind.toNat, by omega⟩
    have hnx := mendF_next hj2
    have hlt := mendF_lt hk j
    rw [hq, Int.toNat_natCast] at hnx
    simp only [go_sem, Nat.reduceBEq, Nat.reduceAdd, iadr_map (f := jobC) (kd := κ.c) (sz := 6) hj2, putCells, hq]
    refine call_pure2 hC (with_sem (mendF b j) q (by omega) (by omega)) rfl (PVleL_refl _) ?_
    rintro r rfl
    simp only [go_sem, Nat.reduceBEq, wrap_succ (k := j) (by omega)]
    refine ⟨⟨j + 1, hj2, trivial⟩, by simp only; omega, ?_⟩
    rw [hnx]
    simp [Wk, wkT, wkL, look, AV.lo]
  · have hjn : j = b.jobs.length := by omega
    subst hjn
    rw [mendF_end]
    exact retQ_one rfl rfl
def rowF (b : EBook) (m : Nat) : List (Nat × Nat) := (setsL b.mb m).map fun s => (m, s &&& mendS b)
def doneL (b : EBook) (a i : Nat) : List (Nat × Nat) := ((whoL b.mb).take a).flatMap (rowF b) ++ (rowF b ((whoL b.mb).getD a 0)).take i
def knL (b : EBook) (a i : Nat) : List (Nat × Nat) := ddup (doneL b a i)
theorem ddup_snoc (l : List (Nat × Nat)) (x : Nat × Nat) : ddup (l ++ [x]) = if x ∈ ddup l then ddup l else ddup l ++ [x] := by
  unfold ddup
  rw [List.foldl_append]
  simp only [List.foldl_cons, List.foldl_nil, ddupF]
  by_cases h : x ∈ List.foldl ddupF [] l
  · rw [if_pos h, if_pos h]
  · rw [if_neg h, if_neg h]
theorem knL_next {b : EBook} {a i m s : Nat} (hm : (whoL b.mb).getD a 0 = m) (h : i < (setsL b.mb m).length) (hs : (setsL b.mb m)[i] = s) : knL b a (i + 1) = if (m, s &&& mendS b) ∈ knL b a i then knL b a i else knL b a i ++ [(m, s &&& mendS b)] := by
  have hl : i < (rowF b m).length := by unfold rowF; rw [List.length_map]; exact h
  have hg : (rowF b m)[i] = (m, s &&& mendS b) := by
    have e : (rowF b m)[i]? = some (m, s &&& mendS b) := by
      unfold rowF
      rw [List.getElem?_map, List.getElem?_eq_getElem h, hs]
      rfl
    exact (List.getElem?_eq_some_iff.1 e).2
  unfold knL doneL
  rw [hm, List.take_succ_eq_append_getElem hl, hg, ← List.append_assoc, ddup_snoc]
theorem knL_end {b : EBook} {a m : Nat} (ha : a < (whoL b.mb).length) (hm : (whoL b.mb).getD a 0 = m) : knL b a (setsL b.mb m).length = knL b (a + 1) 0 := by
  have hl : (setsL b.mb m).length = (rowF b m).length := by unfold rowF; rw [List.length_map]
  have hg : (whoL b.mb)[a] = m := by rw [← hm, List.getD_eq_getElem?_getD, List.getElem?_eq_getElem ha]; rfl
  unfold knL doneL
  rw [hm, hl, List.take_length, List.take_zero, List.append_nil, List.take_succ_eq_append_getElem ha, List.flatMap_append, hg]
  simp
theorem knL_zero (b : EBook) : knL b 0 0 = [] := by
  unfold knL doneL
  simp [ddup]
theorem knL_all (b : EBook) : knL b (whoL b.mb).length 0 = known b := by
  unfold knL doneL known allE
  rw [List.take_length, List.take_zero, List.append_nil]
  rfl
theorem knL_len {b : EBook} (ho : okC b.mb) (a i : Nat) : (knL b a i).length ≤ 1000 := by
  have h1 := (ddup_sub (doneL b a i)).length_le
  have h2 := flat_len (f := rowF b) (m := 64) (fun m => by
    unfold rowF
    rw [List.length_map]
    exact Nat.le_trans (sets_len b.mb m) (pow_le64 ho)) ((whoL b.mb).take a)
  have h3 : ((whoL b.mb).take a).length ≤ 5 := by
    have h5 := who_len b.mb
    have h6 := ho.1.2
    rw [List.length_take]
    omega
  have h4 : ((rowF b ((whoL b.mb).getD a 0)).take i).length ≤ 64 := by
    have h5 := sets_len b.mb ((whoL b.mb).getD a 0)
    have h6 := pow_le64 ho
    have h7 : (rowF b ((whoL b.mb).getD a 0)).length = (setsL b.mb ((whoL b.mb).getD a 0)).length := by unfold rowF; rw [List.length_map]
    rw [List.length_take]
    omega
  unfold knL
  unfold doneL at h1 ⊢
  rw [List.length_append] at h1
  omega
theorem key_eq (m s : Nat) (v : Nat × Nat) : keyEq [.i, .i] true (.agg (trC (m, s))) (.agg (trC v)) = some (decide (v = (m, s))) := by
  have : decide (v = (m, s)) = (decide ((m : Int) = v.1) && (decide ((s : Int) = v.2) && true)) := by
    rw [Bool.and_true, dec_and]
    refine decide_eq_decide.2 ⟨?_, ?_⟩
    · rintro rfl; exact ⟨rfl, rfl⟩
    · rintro ⟨h1, h2⟩
      exact Prod.ext (by omega) (by omega)
  rw [this]
  simp only [keyEq, eqCs_i, eqCs_nil, Option.map_some]
abbrev mapK (l : List (Nat × Nat)) : List (PV × PV) := l.map fun t => (.agg (trC t), pb true)
theorem look_k (l : List (Nat × Nat)) (m s : Nat) : lkpV [.i, .i] true (pb false) false (mapK l) (.agg (trC (m, s))) = some (pb (decide ((m, s) ∈ l))) := by
  rw [lkpV_map (p := fun v => decide (v = (m, s))) (view_self) (fun v _ => key_eq m s v)]
  by_cases h : (m, s) ∈ l
  · rw [decide_eq_true h]
    cases e : l.find? (fun v => decide (v = (m, s))) with
    | none => exact absurd (List.find?_eq_none.1 e _ h) (by simp)
    | some v => rfl
  · rw [decide_eq_false h]
    have : l.find? (fun v => decide (v = (m, s))) = none := List.find?_eq_none.2 fun v hv => by
      simp only [decide_eq_true_eq]
      rintro rfl
      exact h hv
    rw [this]
    rfl
theorem put_k {l : List (Nat × Nat)} {m s : Nat} (h : (m, s) ∉ l) : mput [.i, .i] true (.agg (trC (m, s))) (pb true) (mapK l) = some (mapK (l ++ [(m, s)])) := by
  rw [mput_new (p := fun v => decide (v = (m, s))) view_self (fun v _ => key_eq m s v) (fun v hv => decide_eq_false (fun e => h (e ▸ hv)))]
  simp [mapK]
abbrev cellsB (κ : KS) (b : EBook) (o : Option Nat) (l : List (Nat × Nat)) : List AV := (ebC κ b).map .p ++ [.p (slZ 132 2 o (l.map trC))]
def headB (κ : KS) (b : EBook) (a : Nat) (o : Option Nat) (l : List (Nat × Nat)) : ABlk := if a = 0 then .prz 0 8 (cellsB κ b o l) else if a < (whoL b.mb).length then .prt 8 (cellsB κ b o l) else .prz 8 9 (cellsB κ b o l)
def headL (κ : KS) (b : EBook) (h : ABlk) (l : List (Nat × Nat)) : List ABlk := [.cells ((ebC κ b).map .p), h, .cells [.loc 1 0], .mp (mapK l), .cells [.mpl 3]]
set_option maxRecDepth 100000 in
set_option maxHeartbeats 4000000 in
theorem bookOf_sem (κ : KS) {b : EBook} (ho : okE b) (k : SK) (hne : whoL b.mb ≠ []) : Sem1 84 [.agg (ebC κ b), .sl k 1 (ints (natL (whoL b.mb)))] (bookK κ b) := by
  have hlen : 0 < (whoL b.mb).length := List.length_pos_iff.2 hne
  have hw5 : (whoL b.mb).length ≤ 5 := by have := who_len b.mb; have := ho.1.1.1.2; omega
  refine semC_of_exec' mixed Tryz.func84 (by kernel_rfl) (by kernel_rfl) ac84_ok 2 rfl (by decide) [(.tmp 4)] (by kernel_rfl) ?_
  intro hr C hC hI
  unfold ac84
  simp only [go_sem, Nat.reduceBEq, Nat.reduceAdd, Nat.reduceLeDiff, putCells, List.length_map, natL_len]
  refine loop_g (α := Nat × Option Nat) (fun a => a.1 ≤ (whoL b.mb).length ∧ (a.2 = none → (knL b a.1 0).map trC = [])) (fun a => (whoL b.mb).length - a.1) [5, 6, 14, 15] (fun a => [(16, .p (pi a.1))]) (fun a => headL κ b (headB κ b a.1 a.2 (knL b a.1 0)) (knL b a.1 0)) (fun a => a.2.toList) (0, none) ⟨by omega, fun _ => by rw [knL_zero]; rfl⟩ ?_ ?_
  · rw [knL_zero]
    simp [Wk, wkT, wkL, look, AV.lo, AV.lo.loL, ABlk.toZ, upS_eq, keepS_nil, keepS_cons, headL, headB, pures]
    rfl
  rintro ⟨a, o⟩ ⟨ha, h0⟩
  replace ha : a ≤ (whoL b.mb).length := ha
  replace h0 : o = none → (knL b a 0).map trC = [] := h0
  simp only [go_sem, Nat.reduceBEq]
  refine ⟨fun h5 => ?_, fun h5 => ?_⟩
  · have ha2 : a < (whoL b.mb).length := by omega
    obtain ⟨m, hm⟩ : ∃ m, (whoL b.mb).getD a 0 = m := ⟨_, rfl⟩
    have hgm : (whoL b.mb)[a] = m := by rw [← hm, List.getD_eq_getElem?_getD, List.getElem?_eq_getElem ha2]; rfl
    obtain ⟨hml, hmp⟩ := mem_who.1 (hgm ▸ List.getElem_mem ha2 : m ∈ whoL b.mb)
    have e1 : iadrS' 1 (.p (.sl k 1 (ints (natL (whoL b.mb))))) (.p (pi a)) = some (.p (.ptr [pi m] 0)) := by
      have h := iadr_map (f := fun x : Int => [pi x]) (kd := k) (sz := 1) (l := natL (whoL b.mb)) (k := a) (by rw [natL_len]; exact ha2)
      have e : (natL (whoL b.mb))[a]'(by rw [natL_len]; exact ha2) = (m : Int) := by unfold natL; rw [List.getElem_map, hgm]
      rw [e] at h
      exact h
    have hpre : ∀ o l, pures ((cellsB κ b o l).take 8) = some (ebC κ b) := fun o l => rfl
    have hhead : ∀ h, h = headB κ b a o (knL b a 0) → purArgs.purV [.agg [.loc 1 0, .p (pi m)]] (headL κ b h (knL b a 0)) = some ([workC κ b m], headL κ b (.prt 8 (cellsB κ b o (knL b a 0))) (knL b a 0)) := by
      intro h hh
      unfold headB at hh
      by_cases h0a : a = 0
      · rw [if_pos h0a] at hh
        subst hh
        rfl
      · rw [if_neg h0a, if_pos ha2] at hh
        subst hh
        rfl
    obtain ⟨hd, hhd⟩ : ∃ hd, headB κ b a o (knL b a 0) = hd := ⟨_, rfl⟩
    have hpur := hhead hd hhd.symm
    rw [hhd]
    unfold headL at hpur ⊢
    simp only [go_sem, Nat.reduceBEq, Nat.reduceAdd, Nat.reduceLeDiff, e1, putCells]
    refine call_purA hC (truths_clo κ ho.1 hml hmp) (L' := headL κ b (.prt 8 (cellsB κ b o (knL b a 0))) (knL b a 0)) hpur (PVleL_refl _) ?_
    rintro _ rfl
    unfold headL
    simp only [go_sem]
    refine rng_m (ι := Option Nat) (setsL b.mb m) (fun s => encT (m, s)) [5, 6, 14, 15, 16] (fun i o => headL κ b (.prt 8 (cellsB κ b o (knL b a i))) (knL b a i)) (fun _ o => o.toList) (fun _ => some []) (fun i o => o = none → (knL b a i).map trC = []) o rfl rfl (hI _ _ _ (truths_it κ ho.1 m)) ?_ (fun _ => rfl) (by cases o <;> simp [Wk, wkT, wkL, look, AV.lo, AV.lo.loL, ABlk.toZ, keepS, headL, cellsB]) h0 ?_ ?_
    · have hy1 : noY.noYR (encTs m (setsL b.mb m)) = true := noYR_map (fun _ => rfl) _
      have hy2 : noY.noYR (jobsC b.jobs) = true := noYR_map (fun _ => rfl) _
      have hy3 : noY.noYR (ints b.extra) = true := noYR_map (fun _ => rfl) _
      have hy4 : noY.noYR (ints b.coins) = true := noYR_map (fun _ => rfl) _
      simp only [show noY.noYR ((setsL b.mb m).map fun s => encT (m, s)) = true from hy1, noY.noYL, noY, noY_rowsC, noY_seenC, hy2, hy3, hy4, List.append_nil, Bool.and_true]
    · intro i o hi hok
      obtain ⟨s, hs⟩ : ∃ s, (setsL b.mb m)[i] = s := ⟨_, rfl⟩
      have hsl : s < 2 ^ nK b.mb := sets_lt (hs ▸ List.getElem_mem hi)
      have h64 := pow_le64 ho.1.1
      have hml2 := mendF_lt (kinds_lt ho) b.jobs.length
      rw [mendF_end] at hml2
      have hnx := knL_next hm hi hs
      have hand : binS false .and (.p (pi (s : Nat))) (.p (pi (mendS b : Nat))) = some (.p (pi ((s &&& mendS b : Nat) : Int))) := bin_andN (by omega) (by omega)
      have hlk := look_k (knL b a i) m (s &&& mendS b)
      have hkl := knL_len ho.1.1 a i
      rw [hs]
      unfold headL
      simp only [go_sem, Nat.reduceBEq, Nat.reduceAdd, putCells]
      refine call_purA hC (mended_sem κ ho) (L' := [.cells ((ebC κ b).map .p), .prt 8 (cellsB κ b o (knL b a i)), .cells [.loc 1 0], .mp (mapK (knL b a i)), .cells [.mpl 3], .cells [.p (pi m), .p (pi s)]]) rfl (PVleL_refl _) ?_
      rintro _ rfl
      by_cases hk : (m, s &&& mendS b) ∈ knL b a i
      · rw [if_pos hk] at hnx
        simp only [go_sem, Nat.reduceBEq, Nat.reduceAdd, hand, putCells, hlk, eq_true hk, decide_true, not_false_eq_true]
        refine ⟨o, by rw [hnx]; exact hok, ?_⟩
        simp only [hnx]
        cases o <;> simp [Wk, wkT, wkL, look, AV.lo, AV.lo.loL, ABlk.toZ, cellsB]
      · rw [if_neg hk] at hnx
        have hput := put_k hk
        simp only [go_sem, Nat.reduceBEq, Nat.reduceAdd, hand, putCells, hlk, eq_false hk, decide_false, not_false_eq_true]
        refine ⟨_, hput, ?_⟩
        have h8 : (cellsB κ b o (knL b a i))[8]? = some (.p (slZ 132 2 o ((knL b a i).map trC))) := rfl
        have hp8 : ∀ v : AV, (cellsB κ b o (knL b a i)).take 8 ++ [v] ++ (cellsB κ b o (knL b a i)).drop (8 + [v].length) = (ebC κ b).map .p ++ [v] := fun v => rfl
        have hln : (cellsB κ b o (knL b a i)).length = 9 := rfl
        simp only [go_sem, Nat.reduceBEq, Nat.reduceAdd, h8]
        refine app_slZ hok (by rw [List.length_map]; omega) (fun t ht => ht) fun tk htk => ?_
        have hc1 : ∀ rows : List (List PV), cellsA 1 (.p (slZ 132 2 (some tk) rows)) = some [.p (slZ 132 2 (some tk) rows)] := fun _ => rfl
        simp only [go_sem, Nat.reduceBEq, Nat.reduceAdd, hc1, hln, Nat.le_refl, or_true, true_and, putCells]
        refine ⟨some tk, (fun h => by cases h), ?_⟩
        simp only [hnx]
        simp [Wk, wkT, wkL, look, AV.lo, AV.lo.loL, ABlk.toZ, cellsB, List.map_append]
    · intro o hok
      have hle := knL_end ha2 hm
      rw [hle] at hok ⊢
      unfold headL
      simp only [go_sem, Nat.reduceBEq, wrap_succ (k := a) (by omega)]
      refine ⟨⟨(a + 1, o), ha2, hok⟩, by simp only; omega, ?_⟩
      by_cases hlt : a + 1 < (whoL b.mb).length
      · cases o <;> simp [Wk, wkT, wkL, look, AV.lo, AV.lo.loL, ABlk.toZ, headB, cellsB, hlt]
      · cases o <;> simp [Wk, wkT, wkL, look, AV.lo, AV.lo.loL, ABlk.toZ, headB, cellsB, hlt, pures, slZ]
  · have han : a = (whoL b.mb).length := by omega
    subst han
    have hh : headB κ b (whoL b.mb).length o (knL b (whoL b.mb).length 0) = .prz 8 9 (cellsB κ b o (known b)) := by
      unfold headB
      rw [if_neg (by omega), if_neg (Nat.lt_irrefl _), knL_all]
    rw [knL_all] at h0
    rw [hh]
    unfold headL
    simp only [go_sem, Nat.reduceBEq]
    refine retQ_pur rfl (x := .ptr (ebC κ b ++ [slZ 132 2 o ((known b).map trC)]) 0) rfl (PVle.ptr ?_ 0) rfl
    exact ⟨PVle.refl _, PVle.refl _, PVle.refl _, PVle.refl _, PVle.refl _, PVle.refl _, PVle.refl _, PVle.refl _, slZ_le h0, trivial⟩
end Go.Proofs.YtlcpplkbmlmmbaaGreat.Mk.Me
