/- Contracts of mend: what some jobs' shares are at an end. Contracts of mend: all truths of a work. -/
import Derived.Test.YtlcpplkbmlmmbaaGreatOri06
namespace Go.Proofs.YtlcpplkbmlmmbaaGreat.Mk.Me
open Go.RowKit Ls
def ac86 : AC := (AC.seq (AC.ops [(AOp.mk (some 5) (AK.box 2 (AX.t 1)) none 0 false true), (AOp.mk (some 6) (AK.box 1 (AX.t 2)) none 1 false true), (AOp.mk (some 8) (AK.mv (AX.c (PV.val (Value.int IntKind.i64 0)))) none 2 false true)]) (AC.seq (AC.ops [(AOp.mk (some 9) (AK.mv (AX.c (PV.sl SK.full 0 []))) none 0 false true)]) (AC.seq (AC.seq (AC.ops [(AOp.mk (some 15) (AK.mv (AX.t 0)) none 0 false true), (AOp.mk (some 16) (AK.nilc (AX.t 15)) none 1 false true), (AOp.mk (some 17) (AK.fadr 8 (AX.t 16)) none 2 false true), (AOp.mk (some 18) (AK.ld none (AX.t 17)) none 3 false true), (AOp.mk (some 19) (AK.len (AX.t 18)) none 4 false true), (AOp.mk (some 20) (AK.mv (AX.c (PV.val (Value.int IntKind.i64 0)))) none 5 false true)]) (AC.block 0 (AC.loop (AC.seq (AC.ops [(AOp.mk (some 21) (AK.bin false BinOp.lss (AX.t 20) (AX.t 19)) none 0 false true)]) (AC.seq (AC.cond (AX.t 21) AC.skip (AC.exit 0)) (AC.seq (AC.block 1 (AC.seq (AC.ops [(AOp.mk (some 22) (AK.iadrS 2 (AX.t 18) (AX.t 20)) none 0 false true), (AOp.mk (some 23) (AK.ld (some 2) (AX.t 22)) none 1 false true), (AOp.mk (some 11) (AK.new (PV.agg [(PV.val (Value.int IntKind.i64 0)), (PV.val (Value.int IntKind.i64 0))])) none 2 false true), (AOp.mk none (AK.st 2 (AX.t 11) (AX.t 23)) none 3 false true)]) (AC.seq (AC.ops [(AOp.mk (some 12) (AK.mv (AX.c (PV.sl SK.full 0 []))) none 0 false true)]) (AC.seq (AC.seq (AC.ops [(AOp.mk (some 24) (AK.mv (AX.t 3)) none 0 false true), (AOp.mk (some 25) (AK.len (AX.t 24)) none 1 false true), (AOp.mk (some 26) (AK.mv (AX.c (PV.val (Value.int IntKind.i64 0)))) none 2 false true)]) (AC.block 2 (AC.loop (AC.seq (AC.ops [(AOp.mk (some 27) (AK.bin false BinOp.lss (AX.t 26) (AX.t 25)) none 0 false true)]) (AC.seq (AC.cond (AX.t 27) AC.skip (AC.exit 2)) (AC.seq (AC.block 3 (AC.seq (AC.ops [(AOp.mk (some 28) (AK.iadrS 6 (AX.t 24) (AX.t 26)) none 0 false true), (AOp.mk (some 29) (AK.ld (some 6) (AX.t 28)) none 1 false true), (AOp.mk (some 14) (AK.new (PV.agg [(PV.val (Value.int IntKind.i64 0)), (PV.val (Value.int IntKind.i64 0)), (PV.val (Value.int IntKind.i64 0)), (PV.val (Value.int IntKind.i64 0)), (PV.val (Value.int IntKind.i64 0)), (PV.val (Value.int IntKind.i64 0))])) none 2 false true), (AOp.mk none (AK.st 6 (AX.t 14) (AX.t 29)) none 3 false true)]) (AC.ops [(AOp.mk (some 30) (AK.mv (AX.t 12)) none 0 true false), (AOp.mk (some 31) (AK.fadr 0 (AX.t 6)) none 1 true false), (AOp.mk (some 32) (AK.ld none (AX.t 31)) none 2 true false), (AOp.mk (some 33) (AK.ld (some 6) (AX.t 14)) none 3 true false), (AOp.mk (some 34) (AK.mv (AX.t 0)) none 4 true false), (AOp.mk (some 35) (AK.ld (some 2) (AX.t 11)) none 5 true false), (AOp.mk (some 36) (AK.ld (some 6) (AX.t 14)) none 6 true false), (AOp.mk (some 37) (AK.fadr 0 (AX.t 5)) none 7 true false), (AOp.mk (some 38) (AK.ld none (AX.t 37)) none 8 true false), (AOp.mk (some 39) (AK.fadr 0 (AX.t 14)) none 9 true false), (AOp.mk (some 40) (AK.fadr 1 (AX.t 39)) none 10 true false), (AOp.mk (some 41) (AK.ld (some 2) (AX.t 40)) none 11 true false), (AOp.mk (some 43) (AK.fadr 0 (AX.t 5)) none 13 true false), (AOp.mk (some 44) (AK.ld none (AX.t 43)) none 14 true false), (AOp.mk (some 45) (AK.fadr 0 (AX.t 14)) none 15 true false), (AOp.mk (some 46) (AK.fadr 3 (AX.t 45)) none 16 true false), (AOp.mk (some 47) (AK.ld (some 2) (AX.t 46)) none 17 true false), (AOp.mk (some 42) (AK.callv (AX.t 38) [(AX.t 41)]) none 12 false false), (AOp.mk (some 48) (AK.callv (AX.t 44) [(AX.t 47)]) none 18 false false), (AOp.mk (some 49) (AK.call 125 [(AX.t 34), (AX.t 35), (AX.t 36), (AX.t 42), (AX.t 48)]) none 19 false false), (AOp.mk (some 50) (AK.callv (AX.t 32) [(AX.t 33), (AX.t 49)]) none 20 false true), (AOp.mk (some 51) (AK.bslice false 3 1 1 [(PV.val (Value.int IntKind.i64 0))] [(0, (1, (AX.t 50)))]) none 21 false true), (AOp.mk (some 52) (AK.app false 3 1 8 [(PV.val (Value.int IntKind.i64 0))] (AX.t 30) (AX.t 51)) none 22 false true), (AOp.mk (some 12) (AK.mv (AX.t 52)) none 23 true true)]))) (AC.ops [(AOp.mk (some 53) (AK.bin false BinOp.add (AX.t 26) (AX.c (PV.val (Value.int IntKind.i64 1)))) none 0 false true), (AOp.mk (some 26) (AK.mv (AX.t 53)) none 1 false true)]))))))) (AC.ops [(AOp.mk (some 54) (AK.mv (AX.t 9)) none 0 false true), (AOp.mk (some 55) (AK.mv (AX.t 12)) none 1 false true), (AOp.mk (some 56) (AK.call 126 [(AX.t 55)]) none 2 false true), (AOp.mk (some 57) (AK.bslice false 3 1 1 [(PV.val (Value.int IntKind.i64 0))] [(0, (1, (AX.t 56)))]) none 3 false true), (AOp.mk (some 58) (AK.app false 3 1 8 [(PV.val (Value.int IntKind.i64 0))] (AX.t 54) (AX.t 57)) none 4 false true), (AOp.mk (some 9) (AK.mv (AX.t 58)) none 5 false true)]))))) (AC.ops [(AOp.mk (some 59) (AK.bin false BinOp.add (AX.t 20) (AX.c (PV.val (Value.int IntKind.i64 1)))) none 0 false true), (AOp.mk (some 20) (AK.mv (AX.t 59)) none 1 false true)]))))))) (AC.seq (AC.ops [(AOp.mk (some 60) (AK.fadr 1 (AX.t 5)) none 0 false true), (AOp.mk (some 61) (AK.ld none (AX.t 60)) none 1 false true), (AOp.mk (some 62) (AK.mv (AX.t 9)) none 2 false true), (AOp.mk (some 63) (AK.callv (AX.t 61) [(AX.t 62)]) none 3 false true), (AOp.mk (some 8) (AK.mv (AX.t 63)) none 4 false true)]) AC.ret))))
theorem ac86_ok : cCode Tryz.prog (fun _ => false) Tryz.f86.ntmps (Tryz.f86.body.getD .skip) = some ac86 := by kernel_rfl
def ac52 : AC := (AC.seq (AC.ops [(AOp.mk (some 6) (AK.new (PV.agg [(PV.val (Value.int IntKind.i64 0)), (PV.val (Value.int IntKind.i64 0))])) none 0 false true)]) (AC.seq (AC.ops [(AOp.mk (some 8) (AK.call 85 []) none 0 false true), (AOp.mk (some 9) (AK.mv (AX.t 1)) none 1 false true), (AOp.mk (some 10) (AK.iadrS 1 (AX.t 8) (AX.t 9)) none 2 false true), (AOp.mk (some 11) (AK.ld (some 1) (AX.t 10)) none 3 false true), (AOp.mk (some 7) (AK.new (PV.agg [(PV.val Value.nilFunc)])) none 4 false true), (AOp.mk none (AK.st 1 (AX.t 7) (AX.t 11)) none 5 false true)]) (AC.seq (AC.ops [(AOp.mk (some 12) (AK.mv (AX.t 0)) none 0 true false), (AOp.mk (some 14) (AK.ld (some 1) (AX.t 7)) none 2 true false), (AOp.mk (some 15) (AK.mv (AX.t 2)) none 3 true false), (AOp.mk (some 17) (AK.mv (AX.t 0)) none 5 true false), (AOp.mk (some 19) (AK.ld (some 1) (AX.t 7)) none 7 true false), (AOp.mk (some 20) (AK.mv (AX.t 2)) none 8 true false), (AOp.mk (some 13) (AK.call 87 []) none 1 false false), (AOp.mk (some 16) (AK.call 86 [(AX.t 12), (AX.t 13), (AX.t 14), (AX.t 15)]) none 4 false false), (AOp.mk (some 18) (AK.call 88 []) none 6 false false), (AOp.mk (some 21) (AK.call 86 [(AX.t 17), (AX.t 18), (AX.t 19), (AX.t 20)]) none 9 false true), (AOp.mk (some 22) (AK.build [(PV.val (Value.int IntKind.i64 0)), (PV.val (Value.int IntKind.i64 0))] [(0, (1, (AX.t 16))), (1, (1, (AX.t 21)))]) none 10 true true), (AOp.mk none (AK.st 2 (AX.t 6) (AX.t 22)) none 11 false true)]) AC.ret)))
theorem ac52_ok : cCode Tryz.prog (fun _ => false) Tryz.f52.ntmps (Tryz.f52.body.getD .skip) = some ac52 := by kernel_rfl
def ac53 : AC := (AC.seq (AC.ops [(AOp.mk (some 4) (AK.new (PV.agg [(PV.val (Value.int IntKind.i64 0)), (PV.val (Value.int IntKind.i64 0)), (PV.val (Value.int IntKind.i64 0)), (PV.val (Value.int IntKind.i64 0)), (PV.val (Value.int IntKind.i64 0)), (PV.val (Value.int IntKind.i64 0))])) none 0 false true)]) (AC.seq (AC.ops [(AOp.mk (some 5) (AK.mv (AX.t 0)) none 0 false true), (AOp.mk (some 6) (AK.nilc (AX.t 5)) none 1 false true), (AOp.mk (some 7) (AK.fadr 0 (AX.t 6)) none 2 false true), (AOp.mk (some 8) (AK.fadr 4 (AX.t 7)) none 3 false true), (AOp.mk (some 9) (AK.ld none (AX.t 8)) none 4 false true), (AOp.mk (some 10) (AK.mv (AX.t 1)) none 5 false true), (AOp.mk (some 11) (AK.iadrS 6 (AX.t 9) (AX.t 10)) none 6 false true), (AOp.mk (some 12) (AK.ld (some 6) (AX.t 11)) none 7 false true), (AOp.mk (some 13) (AK.build [(PV.val (Value.int IntKind.i64 0)), (PV.val (Value.int IntKind.i64 0)), (PV.val (Value.int IntKind.i64 0)), (PV.val (Value.int IntKind.i64 0)), (PV.val (Value.int IntKind.i64 0)), (PV.val (Value.int IntKind.i64 0))] [(0, (6, (AX.t 12)))]) none 8 false true), (AOp.mk none (AK.st 6 (AX.t 4) (AX.t 13)) none 9 false true)]) AC.ret))
theorem ac53_ok : cCode Tryz.prog (fun _ => false) Tryz.f53.ntmps (Tryz.f53.body.getD .skip) = some ac53 := by kernel_rfl
def ac98 : AC := (AC.seq (AC.ops [(AOp.mk (some 2) (AK.mv (AX.c (PV.sl SK.full 0 []))) none 0 false true)]) (AC.seq (AC.ops [(AOp.mk (some 4) (AK.mv (AX.t 0)) none 0 false true), (AOp.mk (some 5) (AK.len (AX.t 4)) none 1 false true), (AOp.mk (some 3) (AK.mv (AX.t 5)) none 2 false true)]) (AC.seq (AC.ops [(AOp.mk (some 6) (AK.mv (AX.t 0)) none 0 false true), (AOp.mk (some 7) (AK.mv (AX.t 3)) none 1 false true), (AOp.mk (some 8) (AK.mv (AX.t 3)) none 2 false true), (AOp.mk (some 9) (AK.slc 6 (AX.t 6) none (some (AX.t 7)) (some (AX.t 8))) none 3 false true), (AOp.mk (some 2) (AK.mv (AX.t 9)) none 4 false true)]) AC.ret)))
theorem ac98_ok : cCode Tryz.prog (fun _ => false) Tryz.f98.ntmps (Tryz.f98.body.getD .skip) = some ac98 := by kernel_rfl
def ac63 : AC := (AC.seq (AC.ops [(AOp.mk (some 2) (AK.mv (AX.c (PV.sl SK.full 0 []))) none 0 false true)]) (AC.seq (AC.ops [(AOp.mk (some 3) (AK.mv (AX.c (PV.sl SK.full 0 []))) none 0 false true)]) (AC.seq (AC.seq (AC.ops [(AOp.mk (some 5) (AK.mv (AX.t 0)) none 0 false true), (AOp.mk (some 6) (AK.nilc (AX.t 5)) none 1 false true), (AOp.mk (some 7) (AK.fadr 0 (AX.t 6)) none 2 false true), (AOp.mk (some 8) (AK.fadr 4 (AX.t 7)) none 3 false true), (AOp.mk (some 9) (AK.ld none (AX.t 8)) none 4 false true), (AOp.mk (some 10) (AK.len (AX.t 9)) none 5 false true), (AOp.mk (some 11) (AK.mv (AX.c (PV.val (Value.int IntKind.i64 0)))) none 6 false true)]) (AC.block 0 (AC.loop (AC.seq (AC.ops [(AOp.mk (some 12) (AK.bin false BinOp.lss (AX.t 11) (AX.t 10)) none 0 false true)]) (AC.seq (AC.cond (AX.t 12) AC.skip (AC.exit 0)) (AC.seq (AC.block 1 (AC.seq (AC.ops [(AOp.mk (some 13) (AK.mv (AX.t 11)) none 0 false true), (AOp.mk (some 4) (AK.mv (AX.t 13)) none 1 false true)]) (AC.ops [(AOp.mk (some 14) (AK.mv (AX.t 3)) none 0 false true), (AOp.mk (some 15) (AK.mv (AX.t 0)) none 1 false true), (AOp.mk (some 16) (AK.mv (AX.t 4)) none 2 false true), (AOp.mk (some 17) (AK.call 53 [(AX.t 15), (AX.t 16)]) none 3 false true), (AOp.mk (some 18) (AK.bslice false 74 6 1 [(PV.val (Value.int IntKind.i64 0)), (PV.val (Value.int IntKind.i64 0)), (PV.val (Value.int IntKind.i64 0)), (PV.val (Value.int IntKind.i64 0)), (PV.val (Value.int IntKind.i64 0)), (PV.val (Value.int IntKind.i64 0))] [(0, (6, (AX.t 17)))]) none 4 false true), (AOp.mk (some 19) (AK.app false 74 6 48 [(PV.val (Value.int IntKind.i64 0)), (PV.val (Value.int IntKind.i64 0)), (PV.val (Value.int IntKind.i64 0)), (PV.val (Value.int IntKind.i64 0)), (PV.val (Value.int IntKind.i64 0)), (PV.val (Value.int IntKind.i64 0))] (AX.t 14) (AX.t 18)) none 5 false true), (AOp.mk (some 3) (AK.mv (AX.t 19)) none 6 false true)]))) (AC.ops [(AOp.mk (some 20) (AK.bin false BinOp.add (AX.t 11) (AX.c (PV.val (Value.int IntKind.i64 1)))) none 0 false true), (AOp.mk (some 11) (AK.mv (AX.t 20)) none 1 false true)]))))))) (AC.seq (AC.ops [(AOp.mk (some 21) (AK.mv (AX.t 3)) none 0 false true), (AOp.mk (some 22) (AK.call 98 [(AX.t 21)]) none 1 false true), (AOp.mk (some 2) (AK.mv (AX.t 22)) none 2 false true)]) AC.ret))))
theorem ac63_ok : cCode Tryz.prog (fun _ => false) Tryz.f63.ntmps (Tryz.f63.body.getD .skip) = some ac63 := by kernel_rfl
def ac65 : AC := (AC.seq (AC.ops [(AOp.mk (some 2) (AK.mv (AX.c (PV.val (Value.int IntKind.i64 0)))) none 0 false true), (AOp.mk (some 3) (AK.mv (AX.c (PV.val (Value.bool false)))) none 1 false true)]) (AC.seq (AC.ops [(AOp.mk (some 4) (AK.mv (AX.c (PV.val (Value.int IntKind.i64 0)))) none 0 false true)]) (AC.seq (AC.seq (AC.ops [(AOp.mk (some 8) (AK.mv (AX.t 0)) none 0 false true), (AOp.mk (some 9) (AK.call 63 [(AX.t 8)]) none 1 false true), (AOp.mk (some 10) (AK.len (AX.t 9)) none 2 false true), (AOp.mk (some 11) (AK.mv (AX.c (PV.val (Value.int IntKind.i64 0)))) none 3 false true)]) (AC.block 0 (AC.loop (AC.seq (AC.ops [(AOp.mk (some 12) (AK.bin false BinOp.lss (AX.t 11) (AX.t 10)) none 0 false true)]) (AC.seq (AC.cond (AX.t 12) AC.skip (AC.exit 0)) (AC.seq (AC.block 1 (AC.seq (AC.ops [(AOp.mk (some 13) (AK.mv (AX.t 11)) none 0 false true), (AOp.mk (some 14) (AK.iadrS 6 (AX.t 9) (AX.t 11)) none 1 false true), (AOp.mk (some 15) (AK.ld (some 6) (AX.t 14)) none 2 false true), (AOp.mk (some 6) (AK.new (PV.agg [(PV.val (Value.int IntKind.i64 0)), (PV.val (Value.int IntKind.i64 0)), (PV.val (Value.int IntKind.i64 0)), (PV.val (Value.int IntKind.i64 0)), (PV.val (Value.int IntKind.i64 0)), (PV.val (Value.int IntKind.i64 0))])) none 3 false true), (AOp.mk (some 5) (AK.mv (AX.t 13)) none 4 false true), (AOp.mk none (AK.st 6 (AX.t 6) (AX.t 15)) none 5 false true)]) (AC.seq (AC.ops [(AOp.mk (some 16) (AK.mv (AX.t 0)) none 0 false true), (AOp.mk (some 17) (AK.ld (some 6) (AX.t 6)) none 1 false true), (AOp.mk (some 18) (AK.bslice false 74 6 1 [(PV.val (Value.int IntKind.i64 0)), (PV.val (Value.int IntKind.i64 0)), (PV.val (Value.int IntKind.i64 0)), (PV.val (Value.int IntKind.i64 0)), (PV.val (Value.int IntKind.i64 0)), (PV.val (Value.int IntKind.i64 0))] [(0, (6, (AX.t 17)))]) none 2 false true), (AOp.mk (some 19) (AK.call 52 [(AX.t 16), (AX.c (PV.val (Value.int IntKind.i64 2))), (AX.t 18)]) none 3 false true), (AOp.mk (some 20) (AK.fld 1 none (AX.t 19)) none 4 false true), (AOp.mk (some 7) (AK.mv (AX.t 20)) none 5 false true)]) (AC.seq (AC.ops [(AOp.mk (some 21) (AK.mv (AX.t 7)) none 0 false true), (AOp.mk (some 22) (AK.mv (AX.t 4)) none 1 false true), (AOp.mk (some 23) (AK.bin false BinOp.gtr (AX.t 21) (AX.t 22)) none 2 false true)]) (AC.cond (AX.t 23) (AC.ops [(AOp.mk (some 24) (AK.mv (AX.t 5)) none 0 false true), (AOp.mk (some 25) (AK.mv (AX.t 7)) none 1 false true), (AOp.mk (some 2) (AK.mv (AX.t 24)) none 2 false true), (AOp.mk (some 4) (AK.mv (AX.t 25)) none 3 false true)]) AC.skip))))) (AC.ops [(AOp.mk (some 26) (AK.bin false BinOp.add (AX.t 11) (AX.c (PV.val (Value.int IntKind.i64 1)))) none 0 false true), (AOp.mk (some 11) (AK.mv (AX.t 26)) none 1 false true)]))))))) (AC.seq (AC.ops [(AOp.mk (some 27) (AK.mv (AX.t 2)) none 0 false true), (AOp.mk (some 28) (AK.mv (AX.t 4)) none 1 false true), (AOp.mk (some 29) (AK.bin false BinOp.gtr (AX.t 28) (AX.c (PV.val (Value.int IntKind.i64 0)))) none 2 false true), (AOp.mk (some 2) (AK.mv (AX.t 27)) none 3 false true), (AOp.mk (some 3) (AK.mv (AX.t 29)) none 4 false true)]) AC.ret))))
theorem dropT_some (t : Nat) (l : List Nat) : dropT (some t) l = l.erase t := rfl
theorem dropT_none (l : List Nat) : dropT none l = l := rfl
set_option maxRecDepth 100000 in
set_option maxHeartbeats 2000000 in
theorem outmost_sem (κ : KS) {b : EBook} (ho : okE b) (hne : known b ≠ []) (hwho : ∀ t ∈ known b, t.1 < b.mb.makers.length) {F1 F2 G : FuncId} (lo : Bool) (w : Nat)
    (h1 : ∀ x y, Sem1 F1 [.agg [pi x, pi y]] (pi (if lo then x else y)))
    (h2 : ∀ l : List Int, l ≠ [] → l.length ≤ 1000 → Sem1 F2 [.sl .sh 1 (ints l)] (pi (ampl lo l)))
    (h3 : ∀ (j : Job) (c : Int), -1 ≤ j.cap → 0 ≤ c ∧ c ≤ 1000000 → Sem1 G [.agg (jobC j), pi c] (pi (shareI w j c)))
    (k : SK) (js : List Job) (hj : ∀ j ∈ js, okJob b j) (hl : js.length ≤ 4) : Sem1 86 [bookK κ b, .agg [fnV F1, fnV F2], .agg [fnV G], .sl k 6 (jobsC js)] (pi (outI lo b w js)) := by
  have hkl := known_len ho.1.1
  obtain ⟨Kn, hKn⟩ : ∃ Kn, known b = Kn := ⟨_, rfl⟩
  unfold outI
  unfold bookK
  rw [hKn] at hne hwho hkl ⊢
  refine semC_of_exec' mixed Tryz.func86 (by kernel_rfl) (by kernel_rfl) ac86_ok 4 rfl (by decide) [(.tmp 8)] (by kernel_rfl) ?_
  intro hr C hC hI
  unfold ac86
  simp only [go_sem, Nat.reduceBEq, Nat.reduceAdd, List.length_map]
  refine loop_g (α := Nat × Option Nat) (fun a => a.1 ≤ Kn.length ∧ (a.2 = none → ints ((Kn.take a.1).map (jobsI lo b w js)) = [])) (fun a => Kn.length - a.1) [0, 3, 5, 6, 18, 19] (fun a => [(9, .p (slZ 3 1 a.2 (ints ((Kn.take a.1).map (jobsI lo b w js))))), (20, .p (pi a.1))]) (fun _ => [.cells [.p (fnV F1), .p (fnV F2)], .cells [.p (fnV G)]]) (fun a => a.2.toList) (0, none) ⟨by omega, fun _ => rfl⟩ (by simp [Wk, wkT, wkL, look, AV.lo, AV.lo.loL, ABlk.toZ, upS_eq, keepS_nil, keepS_cons, slZ]) ?_
  rintro ⟨i, o⟩ ⟨hi, h0⟩
  replace hi : i ≤ Kn.length := hi
  replace h0 : o = none → ints ((Kn.take i).map (jobsI lo b w js)) = [] := h0
  simp only [go_sem, Nat.reduceBEq]
  refine ⟨fun d5 => ?_, fun d5 => ?_⟩
  · have hi2 : i < Kn.length := by omega
    obtain ⟨t, et⟩ : ∃ t, Kn[i] = t := ⟨_, rfl⟩
    have htm : t.1 < b.mb.makers.length := hwho t (et ▸ List.getElem_mem hi2)
    have e1 := iadr_map (f := trC) (kd := .sh) (sz := 2) hi2
    rw [et] at e1
    simp only [go_sem, Nat.reduceBEq, Nat.reduceAdd, e1, putCells, List.length_map]
    refine loop_g (α := Nat × Option Nat) (fun c => c.1 ≤ js.length ∧ (c.2 = none → ints ((js.take c.1).map (eachI lo b w t)) = [])) (fun c => js.length - c.1) [0, 3, 5, 6, 9, 11, 18, 19, 20, 24, 25] (fun c => [(12, .p (slZ 3 1 c.2 (ints ((js.take c.1).map (eachI lo b w t))))), (26, .p (pi c.1))]) (fun _ => [.cells [.p (fnV F1), .p (fnV F2)], .cells [.p (fnV G)], .cells [.p (pi t.1), .p (pi t.2)]]) (fun c => c.2.toList ++ o.toList) (0, none) ⟨by omega, fun _ => rfl⟩ (by cases o <;> simp [Wk, wkT, wkL, look, AV.lo, AV.lo.loL, ABlk.toZ, upS_eq, keepS_nil, keepS_cons, slZ]) ?_
    rintro ⟨q, o2⟩ ⟨hq, g0⟩
    replace hq : q ≤ js.length := hq
    replace g0 : o2 = none → ints ((js.take q).map (eachI lo b w t)) = [] := g0
    simp only [go_sem, Nat.reduceBEq]
    refine ⟨fun e5 => ?_, fun e5 => ?_⟩
    · have hq2 : q < js.length := by omega
      obtain ⟨j, ej⟩ : ∃ j, js[q] = j := ⟨_, rfl⟩
      have hjo : okJob b j := hj j (ej ▸ List.getElem_mem hq2)
      have e2 := iadr_map (f := jobC) (kd := k) (sz := 6) hq2
      rw [ej] at e2
      have hc := end_cost ho hjo lo t
      have hH : 0 ≤ endH lo j ∧ endH lo j ≤ 20 := by have := hjo.2.1; unfold endH; split <;> omega
      have hP : 0 ≤ endPt lo j ∧ endPt lo j ≤ 99 := by have := hjo.2.2.1; unfold endPt; split <;> omega
      have hnx : ints ((js.take (q + 1)).map (eachI lo b w t)) = ints ((js.take q).map (eachI lo b w t)) ++ [[pi (eachI lo b w t j)]] := by
        rw [List.take_succ_eq_append_getElem hq2, ej, List.map_append]
        simp
      simp only [go_sem, Nat.reduceBEq, Nat.reduceAdd, Nat.reduceLeDiff, e2, putCells]
      refine call_pure2 hC (h1 j.hl j.hh) rfl (PVleL_refl _) ?_
      rintro _ rfl
      simp only [go_sem, Nat.reduceBEq]
      refine call_pure2 hC (h1 j.pl j.ph) rfl (PVleL_refl _) ?_
      rintro _ rfl
      simp only [go_sem, Nat.reduceBEq]
      have hcost := cost_sem κ ho htm hjo hH hP
      unfold bookK at hcost
      rw [hKn] at hcost
      refine call_pure2 hC hcost rfl (PVleL_refl _) ?_
      rintro _ rfl
      simp only [go_sem, Nat.reduceBEq]
      refine call_pure2 hC (h3 j _ hjo.2.2.2.1 (by omega)) rfl (PVleL_refl _) ?_
      rintro _ rfl
      simp only [go_sem, Nat.reduceBEq]
      refine app_slZ g0 (by rw [List.length_map, List.length_map, List.length_take]; omega) (fun t ht => List.mem_append_left _ ht) fun tk htk => ?_
      simp only [go_sem, Nat.reduceBEq, wrap_succ (k := q) (by omega)]
      refine ⟨⟨(q + 1, some tk), hq2, (fun h => by cases h)⟩, by simp only; omega, ?_⟩
      simp only [hnx]
      have htk2 : tk ∉ o.toList := fun h => htk (List.mem_append_right _ h)
      clear htk
      cases o <;> cases o2 <;> simp_all [Wk, wkT, wkL, look, AV.lo, AV.lo.loL, ABlk.toZ, slZ, dropT_some, dropT_none, eachI]
    · have hqn : q = js.length := by omega
      subst hqn
      rw [List.take_length] at g0 ⊢
      have hjb := fun x (hx : x ∈ js.map (eachI lo b w t)) => show 0 ≤ x ∧ x ≤ 1000000 from by
        obtain ⟨j, hjm, rfl⟩ := List.mem_map.1 hx
        have := each_bound ho (hj j hjm) lo w t
        omega
      refine call_pure2 hC (sum_sem .sh (js.map (eachI lo b w t)) hjb (by rw [List.length_map]; omega)) rfl ⟨slZ_le g0, trivial⟩ ?_
      rintro _ rfl
      simp only [go_sem, Nat.reduceBEq]
      have hnx : ints ((Kn.take (i + 1)).map (jobsI lo b w js)) = ints ((Kn.take i).map (jobsI lo b w js)) ++ [[pi (sumI (js.map (eachI lo b w t)))]] := by
        rw [List.take_succ_eq_append_getElem hi2, et, List.map_append]
        simp [jobsI]
      refine app_slZ h0 (by rw [List.length_map, List.length_map, List.length_take]; omega) (fun t ht => List.mem_append_right _ ht) fun tk htk => ?_
      simp only [go_sem, Nat.reduceBEq, wrap_succ (k := i) (by omega)]
      refine ⟨⟨(i + 1, some tk), hi2, (fun h => by cases h)⟩, by simp only; omega, ?_⟩
      simp only [hnx]
      cases o <;> simp [Wk, wkT, wkL, look, AV.lo, AV.lo.loL, ABlk.toZ, slZ]
  · have hin : i = Kn.length := by omega
    subst hin
    rw [List.take_length] at h0 ⊢
    refine call_pure2 hC (h2 (Kn.map (jobsI lo b w js)) (by simpa using hne) (by rw [List.length_map]; omega)) rfl ⟨slZ_le h0, trivial⟩ ?_
    rintro _ rfl
    simp only [go_sem, Nat.reduceBEq]
    exact retQ_one rfl rfl
def shF (w : Nat) : FuncId := if w = 0 then 122 else if w = 1 then 123 else 124
theorem share_sem (w : Nat) (j : Job) (c : Int) (hj : -1 ≤ j.cap) (hc : 0 ≤ c ∧ c ≤ 1000000) : Sem1 (shF w) [.agg (jobC j), pi c] (pi (shareI w j c)) := by
  unfold shF
  by_cases h0 : w = 0
  · rw [if_pos h0, h0]
    exact whole_sem j c
  · rw [if_neg h0]
    by_cases h1 : w = 1
    · rw [if_pos h1, h1]
      exact share1_sem j c
    · rw [if_neg h1]
      have h := lost_sem hj hc
      have e : shareI w j c = shareI 2 j c := by unfold shareI; rw [if_neg h0, if_neg h1, if_neg (by decide), if_neg (by decide)]
      rw [e]
      exact h
theorem low_out (κ : KS) {b : EBook} (ho : okE b) (hne : known b ≠ []) (hwho : ∀ t ∈ known b, t.1 < b.mb.makers.length) (w : Nat) (k : SK) (js : List Job) (hj : ∀ j ∈ js, okJob b j) (hl : js.length ≤ 4) : Sem1 86 [bookK κ b, .agg [fnV 127, fnV 128], .agg [fnV (shF w)], .sl k 6 (jobsC js)] (pi (outI true b w js)) :=
  outmost_sem κ ho hne hwho true w (fun x y => low_sem x y) (fun l h1 h2 => Min_sem l h1 h2) (fun j c h1 h2 => share_sem w j c h1 h2) k js hj hl
theorem high_out (κ : KS) {b : EBook} (ho : okE b) (hne : known b ≠ []) (hwho : ∀ t ∈ known b, t.1 < b.mb.makers.length) (w : Nat) (k : SK) (js : List Job) (hj : ∀ j ∈ js, okJob b j) (hl : js.length ≤ 4) : Sem1 86 [bookK κ b, .agg [fnV 129, fnV 130], .agg [fnV (shF w)], .sl k 6 (jobsC js)] (pi (outI false b w js)) :=
  outmost_sem κ ho hne hwho false w (fun x y => high_sem x y) (fun l h1 h2 => Max_sem l h1 h2) (fun j c h1 h2 => share_sem w j c h1 h2) k js hj hl
theorem sh_0 : iadrS' 1 (.p (.sl .full 1 [[fnV 122], [fnV 123], [fnV 124]])) (.p (.val (.int .i64 0))) = some (.p (.ptr [fnV (shF 0)] 0)) := rfl
theorem sh_1 : iadrS' 1 (.p (.sl .full 1 [[fnV 122], [fnV 123], [fnV 124]])) (.p (.val (.int .i64 1))) = some (.p (.ptr [fnV (shF 1)] 0)) := rfl
theorem sh_2 : iadrS' 1 (.p (.sl .full 1 [[fnV 122], [fnV 123], [fnV 124]])) (.p (.val (.int .i64 2))) = some (.p (.ptr [fnV (shF 2)] 0)) := rfl
abbrev spanP (b : EBook) (w : Nat) (js : List Job) : PV := .agg [pi (outI true b w js), pi (outI false b w js)]
theorem span_sem (κ : KS) {b : EBook} (ho : okE b) (hne : known b ≠ []) (hwho : ∀ t ∈ known b, t.1 < b.mb.makers.length) (w : Nat) (hw : w < 3) (k : SK) (js : List Job) (hj : ∀ j ∈ js, okJob b j) (hl : js.length ≤ 4) : Sem1 52 [bookK κ b, pi w, .sl k 6 (jobsC js)] (spanP b w js) := by
  have hL := low_out κ ho hne hwho w k js hj hl
  have hH := high_out κ ho hne hwho w k js hj hl
  have hw3 : w = 0 ∨ w = 1 ∨ w = 2 := by omega
  have hS := shares_sem
  obtain ⟨B, hB⟩ : ∃ B, bookK κ b = B := ⟨_, rfl⟩
  rw [hB] at hL hH ⊢
  have s0 := sh_0
  have s1 := sh_1
  have s2 := sh_2
  obtain ⟨V, hV⟩ : ∃ V, PV.sl .full 1 [[fnV 122], [fnV 123], [fnV 124]] = V := ⟨_, rfl⟩
  rw [hV] at hS s0 s1 s2
  have key : ∀ v : Int, (w : Int) = v → iadrS' 1 (.p V) (.p (.val (.int .i64 v))) = some (.p (.ptr [fnV (shF w)] 0)) := by
    rintro v rfl
    rcases hw3 with rfl | rfl | rfl
    · exact s0
    · exact s1
    · exact s2
  refine semC_of_exec' mixed Tryz.func52 (by kernel_rfl) (by kernel_rfl) ac52_ok 3 rfl (by decide) [(.cell 6 31)] (by kernel_rfl) ?_
  intro hr C hC hI
  unfold ac52
  simp only [go_sem, Nat.reduceAdd]
  refine call_pure2 hC hS rfl (PVleL_refl _) ?_
  rintro _ rfl
  simp only [go_sem, Nat.reduceBEq, key _ rfl, putCells]
  refine call_pure2 hC lowest_sem rfl (PVleL_refl _) ?_
  rintro _ rfl
  simp only [go_sem, Nat.reduceBEq]
  refine call_pure2 hC hL rfl (PVleL_refl _) ?_
  rintro _ rfl
  simp only [go_sem]
  refine call_pure2 hC highest_sem rfl (PVleL_refl _) ?_
  rintro _ rfl
  simp only [go_sem, Nat.reduceBEq]
  refine call_pure2 hC hH rfl (PVleL_refl _) ?_
  rintro _ rfl
  simp only [go_sem, Nat.reduceBEq, Nat.reduceAdd, Nat.reduceLeDiff, putCells]
  exact retQ_cell (n := some 2) (by kernel_rfl) rfl rfl
theorem job_sem (κ : KS) {b : EBook} {n : Nat} (hn : n < b.jobs.length) : Sem1 53 [bookK κ b, pi n] (.agg (jobC b.jobs[n])) := by
  have e1 := iadr_map (f := jobC) (kd := κ.c) (sz := 6) hn
  refine semC_of_exec' mixed Tryz.func53 (by kernel_rfl) (by kernel_rfl) ac53_ok 2 rfl (by decide) [(.cell 4 74)] (by kernel_rfl) ?_
  intro hr C hC hI
  unfold ac53
  simp only [go_sem, Nat.reduceBEq, Nat.reduceAdd, putCells, e1]
  exact retQ_cell (n := some 6) (by kernel_rfl) rfl rfl
theorem handedJ_sem (k : SK) (sz : Nat) (l : List Job) (hsz : sz = 6 ∨ l = []) : Sem1 98 [.sl k sz (jobsC l)] (.sl .full 6 (jobsC l)) := by
  refine semC_of_exec' mixed Tryz.func98 (by kernel_rfl) (by kernel_rfl) ac98_ok 1 rfl (by decide) [(.tmp 2)] (by kernel_rfl) ?_
  intro hr C hC hI
  unfold ac98
  simp only [go_sem, Nat.reduceBEq, slcS_all (sz := sz) (sz' := 6) (k := k) (es := jobsC l) (hsz.imp id fun h => by rw [h]; rfl)]
  exact retQ_one rfl rfl
theorem jobs_sem (κ : KS) {b : EBook} (hl : b.jobs.length ≤ 4) : Sem1 63 [bookK κ b] (.sl .full 6 (jobsC b.jobs)) := by
  refine semC_of_exec' mixed Tryz.func63 (by kernel_rfl) (by kernel_rfl) ac63_ok 1 rfl (by decide) [(.tmp 2)] (by kernel_rfl) ?_
  intro hr C hC hI
  unfold ac63
  simp only [go_sem, Nat.reduceBEq, List.length_map]
  refine loop_g (α := Nat × Option Nat) (fun a => a.1 ≤ b.jobs.length ∧ (a.2 = none → jobsC (b.jobs.take a.1) = [])) (fun a => b.jobs.length - a.1) [0, 10] (fun a => [(3, .p (slZ 74 6 a.2 (jobsC (b.jobs.take a.1)))), (11, .p (pi a.1))]) (fun _ => []) (fun a => a.2.toList) (0, none) ⟨by omega, fun _ => rfl⟩ (by simp [Wk, wkT, wkL, look, AV.lo, upS_eq, keepS_nil, keepS_cons, slZ]) ?_
  rintro ⟨j, o⟩ ⟨hj, h0⟩
  replace hj : j ≤ b.jobs.length := hj
  replace h0 : o = none → jobsC (b.jobs.take j) = [] := h0
  simp only [go_sem, Nat.reduceBEq]
  refine ⟨fun h5 => ?_, fun h5 => ?_⟩
  · have hj2 : j < b.jobs.length := by omega
    have hnx : jobsC (b.jobs.take (j + 1)) = jobsC (b.jobs.take j) ++ [jobC b.jobs[j]] := by
      show List.map jobC _ = List.map jobC _ ++ _
      rw [List.take_succ_eq_append_getElem hj2, List.map_append]
      rfl
    refine call_pure2 hC (job_sem κ hj2) rfl (PVleL_refl _) ?_
    rintro _ rfl
    simp only [go_sem, Nat.reduceBEq, Nat.reduceAdd]
    refine app_slZ h0 (by rw [List.length_map, List.length_take]; omega) (fun t ht => ht) fun tk htk => ?_
    simp only [go_sem, Nat.reduceBEq, wrap_succ (k := j) (by omega)]
    refine ⟨⟨(j + 1, some tk), hj2, (fun h => by cases h)⟩, by simp only; omega, ?_⟩
    simp only [hnx]
    cases o <;> simp [Wk, wkT, wkL, look, AV.lo, slZ]
  · have hjn : j = b.jobs.length := by omega
    subst hjn
    rw [List.take_length] at h0 ⊢
    cases o with
    | none =>
      have he := h0 rfl
      rw [he]
      have hj0 : b.jobs = [] := by simpa using he
      refine call_pure2 hC (handedJ_sem .full 0 [] (.inr rfl)) rfl (PVleL_refl _) ?_
      rintro _ rfl
      simp only [go_sem, Nat.reduceBEq]
      exact retQ_one rfl rfl
    | some t =>
      refine call_pure2 hC (handedJ_sem (.own t 74 6) 6 b.jobs (.inl rfl)) rfl (PVleL_refl _) ?_
      rintro _ rfl
      simp only [go_sem, Nat.reduceBEq]
      exact retQ_one rfl rfl
def lossN (b : EBook) (k : Nat) : Int := match b.jobs[k]? with | some j => lossI b j | none => 0
end Go.Proofs.YtlcpplkbmlmmbaaGreat.Mk.Me
namespace Go.Proofs.YtlcpplkbmlmmbaaGreat.Mk.Me
open Go.RowKit Ls
def ac120 : AC := (AC.seq (AC.ops [(AOp.mk (some 1) (AK.box 2 (AX.t 0)) none 0 false true), (AOp.mk (some 2) (AK.mv (AX.c (PV.val Value.nilFunc))) none 1 false true)]) (AC.seq (AC.tree (AT.op (AOp.mk (some 5) (AK.fadr 0 (AX.t 1)) none 0 true false) (AT.op (AOp.mk (some 6) (AK.ld none (AX.t 5)) none 1 true false) (AT.op (AOp.mk (some 8) (AK.ld (some 2) (AX.t 1)) none 3 true false) (AT.op (AOp.mk (some 9) (AK.mkf 155 [(AX.t 8)] []) none 4 true false) (AT.op (AOp.mk (some 11) (AK.fadr 0 (AX.t 1)) none 6 true false) (AT.op (AOp.mk (some 12) (AK.ld none (AX.t 11)) none 7 true false) (AT.op (AOp.mk (some 14) (AK.ld (some 2) (AX.t 1)) none 9 true false) (AT.op (AOp.mk (some 15) (AK.mkf 156 [(AX.t 14)] []) none 10 true false) (AT.alt (AOp.mk (some 7) (AK.call 154 [(AX.t 6)]) none 2 false false) (AT.alt (AOp.mk (some 10) (AK.call 153 [(AX.t 7), (AX.t 9)]) none 5 false false) (AT.alt (AOp.mk (some 13) (AK.call 154 [(AX.t 12)]) none 8 false false) (AT.alt (AOp.mk (some 16) (AK.call 153 [(AX.t 13), (AX.t 15)]) none 11 false false) (AT.fk (AOp.mk (some 3) (AK.new (PV.val (Value.int IntKind.i64 0))) none 12 false false) (AOp.mk (some 4) (AK.new (PV.val (Value.int IntKind.i64 0))) none 13 false false) (AT.op (AOp.mk (some 4) (AK.new (PV.val (Value.int IntKind.i64 0))) none 13 false false) (AT.op (AOp.mk none (AK.st 1 (AX.t 3) (AX.t 10)) none 14 false true) (AT.op (AOp.mk none (AK.st 1 (AX.t 4) (AX.t 16)) none 15 false true) AT.fin))) (AT.op (AOp.mk (some 3) (AK.new (PV.val (Value.int IntKind.i64 0))) none 12 false false) (AT.op (AOp.mk none (AK.st 1 (AX.t 3) (AX.t 10)) none 14 false true) (AT.op (AOp.mk none (AK.st 1 (AX.t 4) (AX.t 16)) none 15 false true) AT.fin)))) (AT.alt (AOp.mk (some 3) (AK.new (PV.val (Value.int IntKind.i64 0))) none 12 false false) (AT.fk (AOp.mk (some 16) (AK.call 153 [(AX.t 13), (AX.t 15)]) none 11 false false) (AOp.mk (some 4) (AK.new (PV.val (Value.int IntKind.i64 0))) none 13 false false) (AT.op (AOp.mk (some 4) (AK.new (PV.val (Value.int IntKind.i64 0))) none 13 false false) (AT.op (AOp.mk none (AK.st 1 (AX.t 3) (AX.t 10)) none 14 false true) (AT.op (AOp.mk none (AK.st 1 (AX.t 4) (AX.t 16)) none 15 false true) AT.fin))) (AT.op (AOp.mk (some 16) (AK.call 153 [(AX.t 13), (AX.t 15)]) none 11 false false) (AT.op (AOp.mk none (AK.st 1 (AX.t 3) (AX.t 10)) none 14 false true) (AT.op (AOp.mk none (AK.st 1 (AX.t 4) (AX.t 16)) none 15 false true) AT.fin)))) (AT.op (AOp.mk (some 4) (AK.new (PV.val (Value.int IntKind.i64 0))) none 13 false false) (AT.fk (AOp.mk (some 16) (AK.call 153 [(AX.t 13), (AX.t 15)]) none 11 false false) (AOp.mk (some 3) (AK.new (PV.val (Value.int IntKind.i64 0))) none 12 false false) (AT.op (AOp.mk (some 3) (AK.new (PV.val (Value.int IntKind.i64 0))) none 12 false false) (AT.op (AOp.mk none (AK.st 1 (AX.t 3) (AX.t 10)) none 14 false true) (AT.op (AOp.mk none (AK.st 1 (AX.t 4) (AX.t 16)) none 15 false true) AT.fin))) (AT.op (AOp.mk (some 16) (AK.call 153 [(AX.t 13), (AX.t 15)]) none 11 false false) (AT.op (AOp.mk none (AK.st 1 (AX.t 3) (AX.t 10)) none 14 false true) (AT.op (AOp.mk none (AK.st 1 (AX.t 4) (AX.t 16)) none 15 false true) AT.fin))))))) (AT.alt (AOp.mk (some 3) (AK.new (PV.val (Value.int IntKind.i64 0))) none 12 false false) (AT.fk (AOp.mk (some 13) (AK.call 154 [(AX.t 12)]) none 8 false false) (AOp.mk (some 4) (AK.new (PV.val (Value.int IntKind.i64 0))) none 13 false false) (AT.fk (AOp.mk (some 16) (AK.call 153 [(AX.t 13), (AX.t 15)]) none 11 false false) (AOp.mk (some 4) (AK.new (PV.val (Value.int IntKind.i64 0))) none 13 false false) (AT.op (AOp.mk (some 4) (AK.new (PV.val (Value.int IntKind.i64 0))) none 13 false false) (AT.op (AOp.mk none (AK.st 1 (AX.t 3) (AX.t 10)) none 14 false true) (AT.op (AOp.mk none (AK.st 1 (AX.t 4) (AX.t 16)) none 15 false true) AT.fin))) (AT.op (AOp.mk (some 16) (AK.call 153 [(AX.t 13), (AX.t 15)]) none 11 false false) (AT.op (AOp.mk none (AK.st 1 (AX.t 3) (AX.t 10)) none 14 false true) (AT.op (AOp.mk none (AK.st 1 (AX.t 4) (AX.t 16)) none 15 false true) AT.fin)))) (AT.op (AOp.mk (some 13) (AK.call 154 [(AX.t 12)]) none 8 false false) (AT.op (AOp.mk (some 16) (AK.call 153 [(AX.t 13), (AX.t 15)]) none 11 false false) (AT.op (AOp.mk none (AK.st 1 (AX.t 3) (AX.t 10)) none 14 false true) (AT.op (AOp.mk none (AK.st 1 (AX.t 4) (AX.t 16)) none 15 false true) AT.fin))))) (AT.op (AOp.mk (some 4) (AK.new (PV.val (Value.int IntKind.i64 0))) none 13 false false) (AT.fk (AOp.mk (some 13) (AK.call 154 [(AX.t 12)]) none 8 false false) (AOp.mk (some 3) (AK.new (PV.val (Value.int IntKind.i64 0))) none 12 false false) (AT.fk (AOp.mk (some 16) (AK.call 153 [(AX.t 13), (AX.t 15)]) none 11 false false) (AOp.mk (some 3) (AK.new (PV.val (Value.int IntKind.i64 0))) none 12 false false) (AT.op (AOp.mk (some 3) (AK.new (PV.val (Value.int IntKind.i64 0))) none 12 false false) (AT.op (AOp.mk none (AK.st 1 (AX.t 3) (AX.t 10)) none 14 false true) (AT.op (AOp.mk none (AK.st 1 (AX.t 4) (AX.t 16)) none 15 false true) AT.fin))) (AT.op (AOp.mk (some 16) (AK.call 153 [(AX.t 13), (AX.t 15)]) none 11 false false) (AT.op (AOp.mk none (AK.st 1 (AX.t 3) (AX.t 10)) none 14 false true) (AT.op (AOp.mk none (AK.st 1 (AX.t 4) (AX.t 16)) none 15 false true) AT.fin)))) (AT.op (AOp.mk (some 13) (AK.call 154 [(AX.t 12)]) none 8 false false) (AT.op (AOp.mk (some 16) (AK.call 153 [(AX.t 13), (AX.t 15)]) none 11 false false) (AT.op (AOp.mk none (AK.st 1 (AX.t 3) (AX.t 10)) none 14 false true) (AT.op (AOp.mk none (AK.st 1 (AX.t 4) (AX.t 16)) none 15 false true) AT.fin)))))))) (AT.alt (AOp.mk (some 3) (AK.new (PV.val (Value.int IntKind.i64 0))) none 12 false false) (AT.fk (AOp.mk (some 10) (AK.call 153 [(AX.t 7), (AX.t 9)]) none 5 false false) (AOp.mk (some 4) (AK.new (PV.val (Value.int IntKind.i64 0))) none 13 false false) (AT.fk (AOp.mk (some 13) (AK.call 154 [(AX.t 12)]) none 8 false false) (AOp.mk (some 4) (AK.new (PV.val (Value.int IntKind.i64 0))) none 13 false false) (AT.fk (AOp.mk (some 16) (AK.call 153 [(AX.t 13), (AX.t 15)]) none 11 false false) (AOp.mk (some 4) (AK.new (PV.val (Value.int IntKind.i64 0))) none 13 false false) (AT.op (AOp.mk (some 4) (AK.new (PV.val (Value.int IntKind.i64 0))) none 13 false false) (AT.op (AOp.mk none (AK.st 1 (AX.t 3) (AX.t 10)) none 14 false true) (AT.op (AOp.mk none (AK.st 1 (AX.t 4) (AX.t 16)) none 15 false true) AT.fin))) (AT.op (AOp.mk (some 16) (AK.call 153 [(AX.t 13), (AX.t 15)]) none 11 false false) (AT.op (AOp.mk none (AK.st 1 (AX.t 3) (AX.t 10)) none 14 false true) (AT.op (AOp.mk none (AK.st 1 (AX.t 4) (AX.t 16)) none 15 false true) AT.fin)))) (AT.op (AOp.mk (some 13) (AK.call 154 [(AX.t 12)]) none 8 false false) (AT.op (AOp.mk (some 16) (AK.call 153 [(AX.t 13), (AX.t 15)]) none 11 false false) (AT.op (AOp.mk none (AK.st 1 (AX.t 3) (AX.t 10)) none 14 false true) (AT.op (AOp.mk none (AK.st 1 (AX.t 4) (AX.t 16)) none 15 false true) AT.fin))))) (AT.op (AOp.mk (some 10) (AK.call 153 [(AX.t 7), (AX.t 9)]) none 5 false false) (AT.op (AOp.mk (some 13) (AK.call 154 [(AX.t 12)]) none 8 false false) (AT.op (AOp.mk (some 16) (AK.call 153 [(AX.t 13), (AX.t 15)]) none 11 false false) (AT.op (AOp.mk none (AK.st 1 (AX.t 3) (AX.t 10)) none 14 false true) (AT.op (AOp.mk none (AK.st 1 (AX.t 4) (AX.t 16)) none 15 false true) AT.fin)))))) (AT.op (AOp.mk (some 4) (AK.new (PV.val (Value.int IntKind.i64 0))) none 13 false false) (AT.fk (AOp.mk (some 10) (AK.call 153 [(AX.t 7), (AX.t 9)]) none 5 false false) (AOp.mk (some 3) (AK.new (PV.val (Value.int IntKind.i64 0))) none 12 false false) (AT.fk (AOp.mk (some 13) (AK.call 154 [(AX.t 12)]) none 8 false false) (AOp.mk (some 3) (AK.new (PV.val (Value.int IntKind.i64 0))) none 12 false false) (AT.fk (AOp.mk (some 16) (AK.call 153 [(AX.t 13), (AX.t 15)]) none 11 false false) (AOp.mk (some 3) (AK.new (PV.val (Value.int IntKind.i64 0))) none 12 false false) (AT.op (AOp.mk (some 3) (AK.new (PV.val (Value.int IntKind.i64 0))) none 12 false false) (AT.op (AOp.mk none (AK.st 1 (AX.t 3) (AX.t 10)) none 14 false true) (AT.op (AOp.mk none (AK.st 1 (AX.t 4) (AX.t 16)) none 15 false true) AT.fin))) (AT.op (AOp.mk (some 16) (AK.call 153 [(AX.t 13), (AX.t 15)]) none 11 false false) (AT.op (AOp.mk none (AK.st 1 (AX.t 3) (AX.t 10)) none 14 false true) (AT.op (AOp.mk none (AK.st 1 (AX.t 4) (AX.t 16)) none 15 false true) AT.fin)))) (AT.op (AOp.mk (some 13) (AK.call 154 [(AX.t 12)]) none 8 false false) (AT.op (AOp.mk (some 16) (AK.call 153 [(AX.t 13), (AX.t 15)]) none 11 false false) (AT.op (AOp.mk none (AK.st 1 (AX.t 3) (AX.t 10)) none 14 false true) (AT.op (AOp.mk none (AK.st 1 (AX.t 4) (AX.t 16)) none 15 false true) AT.fin))))) (AT.op (AOp.mk (some 10) (AK.call 153 [(AX.t 7), (AX.t 9)]) none 5 false false) (AT.op (AOp.mk (some 13) (AK.call 154 [(AX.t 12)]) none 8 false false) (AT.op (AOp.mk (some 16) (AK.call 153 [(AX.t 13), (AX.t 15)]) none 11 false false) (AT.op (AOp.mk none (AK.st 1 (AX.t 3) (AX.t 10)) none 14 false true) (AT.op (AOp.mk none (AK.st 1 (AX.t 4) (AX.t 16)) none 15 false true) AT.fin))))))))) (AT.alt (AOp.mk (some 3) (AK.new (PV.val (Value.int IntKind.i64 0))) none 12 false false) (AT.fk (AOp.mk (some 7) (AK.call 154 [(AX.t 6)]) none 2 false false) (AOp.mk (some 4) (AK.new (PV.val (Value.int IntKind.i64 0))) none 13 false false) (AT.fk (AOp.mk (some 10) (AK.call 153 [(AX.t 7), (AX.t 9)]) none 5 false false) (AOp.mk (some 4) (AK.new (PV.val (Value.int IntKind.i64 0))) none 13 false false) (AT.fk (AOp.mk (some 13) (AK.call 154 [(AX.t 12)]) none 8 false false) (AOp.mk (some 4) (AK.new (PV.val (Value.int IntKind.i64 0))) none 13 false false) (AT.fk (AOp.mk (some 16) (AK.call 153 [(AX.t 13), (AX.t 15)]) none 11 false false) (AOp.mk (some 4) (AK.new (PV.val (Value.int IntKind.i64 0))) none 13 false false) (AT.op (AOp.mk (some 4) (AK.new (PV.val (Value.int IntKind.i64 0))) none 13 false false) (AT.op (AOp.mk none (AK.st 1 (AX.t 3) (AX.t 10)) none 14 false true) (AT.op (AOp.mk none (AK.st 1 (AX.t 4) (AX.t 16)) none 15 false true) AT.fin))) (AT.op (AOp.mk (some 16) (AK.call 153 [(AX.t 13), (AX.t 15)]) none 11 false false) (AT.op (AOp.mk none (AK.st 1 (AX.t 3) (AX.t 10)) none 14 false true) (AT.op (AOp.mk none (AK.st 1 (AX.t 4) (AX.t 16)) none 15 false true) AT.fin)))) (AT.op (AOp.mk (some 13) (AK.call 154 [(AX.t 12)]) none 8 false false) (AT.op (AOp.mk (some 16) (AK.call 153 [(AX.t 13), (AX.t 15)]) none 11 false false) (AT.op (AOp.mk none (AK.st 1 (AX.t 3) (AX.t 10)) none 14 false true) (AT.op (AOp.mk none (AK.st 1 (AX.t 4) (AX.t 16)) none 15 false true) AT.fin))))) (AT.op (AOp.mk (some 10) (AK.call 153 [(AX.t 7), (AX.t 9)]) none 5 false false) (AT.op (AOp.mk (some 13) (AK.call 154 [(AX.t 12)]) none 8 false false) (AT.op (AOp.mk (some 16) (AK.call 153 [(AX.t 13), (AX.t 15)]) none 11 false false) (AT.op (AOp.mk none (AK.st 1 (AX.t 3) (AX.t 10)) none 14 false true) (AT.op (AOp.mk none (AK.st 1 (AX.t 4) (AX.t 16)) none 15 false true) AT.fin)))))) (AT.op (AOp.mk (some 7) (AK.call 154 [(AX.t 6)]) none 2 false false) (AT.op (AOp.mk (some 10) (AK.call 153 [(AX.t 7), (AX.t 9)]) none 5 false false) (AT.op (AOp.mk (some 13) (AK.call 154 [(AX.t 12)]) none 8 false false) (AT.op (AOp.mk (some 16) (AK.call 153 [(AX.t 13), (AX.t 15)]) none 11 false false) (AT.op (AOp.mk none (AK.st 1 (AX.t 3) (AX.t 10)) none 14 false true) (AT.op (AOp.mk none (AK.st 1 (AX.t 4) (AX.t 16)) none 15 false true) AT.fin))))))) (AT.op (AOp.mk (some 4) (AK.new (PV.val (Value.int IntKind.i64 0))) none 13 false false) (AT.fk (AOp.mk (some 7) (AK.call 154 [(AX.t 6)]) none 2 false false) (AOp.mk (some 3) (AK.new (PV.val (Value.int IntKind.i64 0))) none 12 false false) (AT.fk (AOp.mk (some 10) (AK.call 153 [(AX.t 7), (AX.t 9)]) none 5 false false) (AOp.mk (some 3) (AK.new (PV.val (Value.int IntKind.i64 0))) none 12 false false) (AT.fk (AOp.mk (some 13) (AK.call 154 [(AX.t 12)]) none 8 false false) (AOp.mk (some 3) (AK.new (PV.val (Value.int IntKind.i64 0))) none 12 false false) (AT.fk (AOp.mk (some 16) (AK.call 153 [(AX.t 13), (AX.t 15)]) none 11 false false) (AOp.mk (some 3) (AK.new (PV.val (Value.int IntKind.i64 0))) none 12 false false) (AT.op (AOp.mk (some 3) (AK.new (PV.val (Value.int IntKind.i64 0))) none 12 false false) (AT.op (AOp.mk none (AK.st 1 (AX.t 3) (AX.t 10)) none 14 false true) (AT.op (AOp.mk none (AK.st 1 (AX.t 4) (AX.t 16)) none 15 false true) AT.fin))) (AT.op (AOp.mk (some 16) (AK.call 153 [(AX.t 13), (AX.t 15)]) none 11 false false) (AT.op (AOp.mk none (AK.st 1 (AX.t 3) (AX.t 10)) none 14 false true) (AT.op (AOp.mk none (AK.st 1 (AX.t 4) (AX.t 16)) none 15 false true) AT.fin)))) (AT.op (AOp.mk (some 13) (AK.call 154 [(AX.t 12)]) none 8 false false) (AT.op (AOp.mk (some 16) (AK.call 153 [(AX.t 13), (AX.t 15)]) none 11 false false) (AT.op (AOp.mk none (AK.st 1 (AX.t 3) (AX.t 10)) none 14 false true) (AT.op (AOp.mk none (AK.st 1 (AX.t 4) (AX.t 16)) none 15 false true) AT.fin))))) (AT.op (AOp.mk (some 10) (AK.call 153 [(AX.t 7), (AX.t 9)]) none 5 false false) (AT.op (AOp.mk (some 13) (AK.call 154 [(AX.t 12)]) none 8 false false) (AT.op (AOp.mk (some 16) (AK.call 153 [(AX.t 13), (AX.t 15)]) none 11 false false) (AT.op (AOp.mk none (AK.st 1 (AX.t 3) (AX.t 10)) none 14 false true) (AT.op (AOp.mk none (AK.st 1 (AX.t 4) (AX.t 16)) none 15 false true) AT.fin)))))) (AT.op (AOp.mk (some 7) (AK.call 154 [(AX.t 6)]) none 2 false false) (AT.op (AOp.mk (some 10) (AK.call 153 [(AX.t 7), (AX.t 9)]) none 5 false false) (AT.op (AOp.mk (some 13) (AK.call 154 [(AX.t 12)]) none 8 false false) (AT.op (AOp.mk (some 16) (AK.call 153 [(AX.t 13), (AX.t 15)]) none 11 false false) (AT.op (AOp.mk none (AK.st 1 (AX.t 3) (AX.t 10)) none 14 false true) (AT.op (AOp.mk none (AK.st 1 (AX.t 4) (AX.t 16)) none 15 false true) AT.fin))))))))))))))))))) (AC.seq (AC.ops [(AOp.mk (some 17) (AK.mkf 157 [] [(AX.t 1), (AX.t 3), (AX.t 4)]) none 0 false true), (AOp.mk (some 2) (AK.mv (AX.t 17)) none 1 false true)]) AC.ret)))
theorem ac120_ok : cCode Tryz.prog (fun _ => false) Tryz.f120.ntmps (Tryz.f120.body.getD .skip) = some ac120 := by kernel_rfl
def ac157 : AC := (AC.seq (AC.ops [(AOp.mk (some 4) (AK.box 1 (AX.t 0)) none 0 false true)]) (AC.seq (AC.ops [(AOp.mk (some 5) (AK.new (PV.val Value.nilFunc)) none 0 false true)]) (AC.seq (AC.ops [(AOp.mk (some 6) (AK.mkf 158 [] [(AX.t 4), (AX.t 1), (AX.t 2), (AX.t 5)]) none 0 false true), (AOp.mk none (AK.st 1 (AX.t 5) (AX.t 6)) none 1 false true)]) (AC.ops [(AOp.mk (some 7) (AK.ld none (AX.t 5)) none 0 false true), (AOp.mk (some 8) (AK.fadr 1 (AX.t 1)) none 1 false true), (AOp.mk (some 9) (AK.ld none (AX.t 8)) none 2 false true), (AOp.mk (some 10) (AK.ld none (AX.t 3)) none 3 false true), (AOp.mk (some 11) (AK.build [(PV.val (Value.int IntKind.i64 0)), (PV.val (Value.int IntKind.i64 0))] [(0, (1, (AX.t 9))), (1, (1, (AX.t 10)))]) none 4 false true), (AOp.mk (some 12) (AK.callv (AX.t 7) [(AX.t 11), (AX.c (PV.val (Value.int IntKind.i64 0)))]) none 5 false true)]))))
theorem ac157_ok : cCode Tryz.prog (fun _ => false) Tryz.f157.ntmps (Tryz.f157.body.getD .skip) = some ac157 := by kernel_rfl
def ac158 : AC := (AC.seq (AC.ops [(AOp.mk (some 6) (AK.box 2 (AX.t 0)) none 0 false true), (AOp.mk (some 8) (AK.mv (AX.c (PV.val (Value.bool false)))) none 1 false true)]) (AC.seq (AC.seq (AC.ops [(AOp.mk (some 11) (AK.ld none (AX.t 2)) none 0 false true), (AOp.mk (some 12) (AK.ld (some 2) (AX.t 6)) none 1 false true), (AOp.mk (some 13) (AK.callv (AX.t 11) [(AX.t 12)]) none 2 false true), (AOp.mk (some 14) (AK.un UnOp.not (AX.t 13)) none 3 false true)]) (AC.cond (AX.t 14) (AC.seq (AC.ops [(AOp.mk (some 8) (AK.mv (AX.c (PV.val (Value.bool false)))) none 0 false true)]) AC.ret) AC.skip)) (AC.seq AC.skip (AC.seq (AC.seq (AC.ops [(AOp.mk (some 15) (AK.mv (AX.t 1)) none 0 false true), (AOp.mk (some 9) (AK.mv (AX.t 15)) none 1 false true)]) (AC.block 0 (AC.loop (AC.seq (AC.seq (AC.ops [(AOp.mk (some 16) (AK.mv (AX.t 9)) none 0 false true), (AOp.mk (some 17) (AK.fadr 0 (AX.t 3)) none 1 false true), (AOp.mk (some 18) (AK.ld none (AX.t 17)) none 2 false true), (AOp.mk (some 19) (AK.call 154 [(AX.t 18)]) none 3 false true), (AOp.mk (some 20) (AK.bin false BinOp.lss (AX.t 16) (AX.t 19)) none 4 false true)]) (AC.cond (AX.t 20) AC.skip (AC.exit 0))) (AC.seq (AC.block 1 (AC.seq (AC.ops [(AOp.mk (some 23) (AK.ld (some 2) (AX.t 6)) none 0 false true), (AOp.mk (some 24) (AK.mv (AX.t 9)) none 1 false true), (AOp.mk (some 25) (AK.call 159 [(AX.t 23), (AX.t 24)]) none 2 false true), (AOp.mk (some 10) (AK.new (PV.agg [(PV.val (Value.int IntKind.i64 0)), (PV.val (Value.int IntKind.i64 0))])) none 3 false true), (AOp.mk none (AK.st 2 (AX.t 10) (AX.t 25)) none 4 false true)]) (AC.block 2 (AC.seq (AC.seq (AC.ops [(AOp.mk (some 27) (AK.ld none (AX.t 4)) none 0 false true), (AOp.mk (some 28) (AK.mv (AX.t 9)) none 1 false true), (AOp.mk (some 29) (AK.call 160 [(AX.t 27), (AX.t 28)]) none 2 false true), (AOp.mk (some 30) (AK.un UnOp.not (AX.t 29)) none 3 false true), (AOp.mk (some 26) (AK.mv (AX.t 30)) none 4 false true)]) (AC.cond (AX.t 26) AC.skip (AC.seq (AC.ops [(AOp.mk (some 31) (AK.ld (some 2) (AX.t 10)) none 0 false true), (AOp.mk (some 32) (AK.ld (some 2) (AX.t 6)) none 1 false true), (AOp.mk (some 33) (AK.eqs [CK.i, CK.i] false (AX.t 31) (AX.t 32)) none 2 false true), (AOp.mk (some 26) (AK.mv (AX.t 33)) none 3 false true)]) (AC.cond (AX.t 26) AC.skip (AC.ops [(AOp.mk (some 34) (AK.fadr 1 (AX.t 10)) none 0 true false), (AOp.mk (some 35) (AK.ld none (AX.t 34)) none 1 true false), (AOp.mk (some 37) (AK.fadr 0 (AX.t 3)) none 3 true false), (AOp.mk (some 38) (AK.ld none (AX.t 37)) none 4 true false), (AOp.mk (some 39) (AK.nilc (AX.t 38)) none 5 true false), (AOp.mk (some 40) (AK.fadr 0 (AX.t 39)) none 6 true false), (AOp.mk (some 41) (AK.fadr 0 (AX.t 40)) none 7 true false), (AOp.mk (some 42) (AK.fadr 2 (AX.t 41)) none 8 true false), (AOp.mk (some 43) (AK.ld none (AX.t 42)) none 9 true false), (AOp.mk (some 36) (AK.call 161 [(AX.t 35)]) none 2 false false), (AOp.mk (some 44) (AK.bin false BinOp.gtr (AX.t 36) (AX.t 43)) none 10 true true), (AOp.mk (some 26) (AK.mv (AX.t 44)) none 11 true true)]))))) (AC.cond (AX.t 26) (AC.exit 1) (AC.seq (AC.ops [(AOp.mk (some 46) (AK.ld none (AX.t 5)) none 0 false true), (AOp.mk (some 47) (AK.ld (some 2) (AX.t 10)) none 1 false true), (AOp.mk (some 48) (AK.mv (AX.t 9)) none 2 false true), (AOp.mk (some 49) (AK.bin false BinOp.add (AX.t 48) (AX.c (PV.val (Value.int IntKind.i64 1)))) none 3 false true), (AOp.mk (some 50) (AK.callv (AX.t 46) [(AX.t 47), (AX.t 49)]) none 4 false true), (AOp.mk (some 51) (AK.un UnOp.not (AX.t 50)) none 5 false true), (AOp.mk (some 45) (AK.mv (AX.t 51)) none 6 false true)]) (AC.cond (AX.t 45) (AC.seq (AC.ops [(AOp.mk (some 8) (AK.mv (AX.c (PV.val (Value.bool false)))) none 0 false true)]) AC.ret) AC.skip))))))) (AC.ops [(AOp.mk (some 21) (AK.mv (AX.t 9)) none 0 false true), (AOp.mk (some 22) (AK.bin false BinOp.add (AX.t 21) (AX.c (PV.val (Value.int IntKind.i64 1)))) none 1 false true), (AOp.mk (some 9) (AK.mv (AX.t 22)) none 2 false true)])))))) (AC.seq (AC.ops [(AOp.mk (some 8) (AK.mv (AX.c (PV.val (Value.bool true)))) none 0 false true)]) AC.ret)))))
theorem ac158_ok : cCode Tryz.prog (fun _ => false) Tryz.f158.ntmps (Tryz.f158.body.getD .skip) = some ac158 := by kernel_rfl
abbrev wkP (κ : KS) (b : EBook) (m : Nat) : PV := .ptr [bookP κ b [], pi m] 0
set_option maxRecDepth 100000 in
set_option maxHeartbeats 4000000 in
theorem truths_clo (κ : KS) {b : EBook} (ho : okBook b.mb) {m : Nat} (hm : m < b.mb.makers.length) (hp : possB b.mb m = true) : Sem1 120 [workC κ b m] (.clo 157 [] [wkP κ b m, .ptr [pi (canS b.mb m : Nat)] 0, .ptr [pi (mustS b.mb m : Nat)] 0]) := by
  have hz : 0 < b.mb.makers.length := by omega
  have h6 := ho.1.2.1.2
  have hK := kinds_sem κ hz
  have hCan := those_sem (f := 155) (fi := [workC κ b m]) (cap := []) (e := nK b.mb) (P := canQ b.mb m) (by omega) (fun n hn => canBe_sem κ ho hm hn hp)
  have hMust := those_sem (f := 156) (fi := [workC κ b m]) (cap := []) (e := nK b.mb) (P := zeroB b.mb m) (by omega) (fun n hn => mustBe_sem κ ho hm hn hp)
  unfold workC at *
  unfold wkP
  obtain ⟨B, hB⟩ : ∃ B, bookP κ b [] = B := ⟨_, rfl⟩
  rw [hB] at hK hCan hMust ⊢
  obtain ⟨c, hc⟩ : ∃ c, canS b.mb m = c := ⟨_, rfl⟩
  obtain ⟨u, hu⟩ : ∃ u, mustS b.mb m = u := ⟨_, rfl⟩
  rw [show setP (canQ b.mb m) (nK b.mb) = c from hc] at hCan
  rw [show setP (zeroB b.mb m) (nK b.mb) = u from hu] at hMust
  rw [hc, hu]
  refine semC_of_exec' mixed Tryz.func120 (by kernel_rfl) (by kernel_rfl) ac120_ok 1 rfl (by decide) [(.tmp 2)] (by kernel_rfl) ?_
  intro hr C hC hI
  unfold ac120
  simp only [go_sem, Nat.reduceBEq, Nat.reduceAdd, gs_newV, gs_stA, List.map_cons, List.map_nil]
  repeat' (first
    | exact retQ_pur rfl rfl (PVle.refl _) rfl
    | refine And.intro ?_ ?_
    | (refine call_pure2 hC hK rfl (PVleL_refl _) ?_
       rintro _ rfl
       simp only [go_sem, Nat.reduceBEq, Nat.reduceAdd])
    | (refine call_pure2 hC hCan rfl (PVleL_refl _) ?_
       rintro _ rfl
       simp only [go_sem, Nat.reduceBEq, Nat.reduceAdd])
    | (refine call_pure2 hC hMust rfl (PVleL_refl _) ?_
       rintro _ rfl
       simp only [go_sem, Nat.reduceBEq, Nat.reduceAdd, stG_loc, stGB_cells, true_or, true_and]))
abbrev encT (t : Nat × Nat) : List PV := [.agg (trC t)]
def encTs (m : Nat) (l : List Nat) : List (List PV) := l.map fun s => encT (m, s)
def LC (κ : KS) (b : EBook) (m c : Nat) : List ABlk := [.cells [.p .yld], .cells [.clo 158 [] [.loc 0 0, .p (wkP κ b m), .p (.ptr [pi c] 0), .loc 1 0]]]
theorem take_LC {κ : KS} {b : EBook} {m c : Nat} {L : List ABlk} (h : L.take 2 = LC κ b m c) : ∃ X, L = LC κ b m c ++ X := ⟨L.drop 2, by rw [← h, List.take_append_drop]⟩
def ChgOk (κ : KS) (b : EBook) (m c r : Nat) : Prop := ∀ (t a : Nat) (rest : List (List PV)), a + r = nK b.mb → t < 2 ^ nK b.mb →
  SemM Tryz.prog Fence.wide 158 [.p (.agg (trC (m, t))), .p (pi a), .loc 0 0, .p (wkP κ b m), .p (.ptr [pi c] 0), .loc 1 0] (LC κ b m c) (some (encTs m (t :: chg2 c b.mb.repairs (nK b.mb) r t) ++ rest))
    (fun v L' ys' => L'.take 2 = LC κ b m c ∧ ((v = .p (pb true) ∧ ys' = some rest) ∨ (v = .p (pb false) ∧ ys' = none)))
theorem chg2_step {can : Nat} {rep : Int} {K r t q : Nat} (hq : q = K - (r + 1)) : chg2 can rep K (r + 1) t = (if can.testBit q && !t.testBit q && decide ((cntN (t ||| 2 ^ q) 6 : Int) ≤ rep) then (t ||| 2 ^ q) :: chg2 can rep K r (t ||| 2 ^ q) else []) ++ chg2 can rep K r t := by
  subst hq
  rfl
theorem encTs_app (m : Nat) (l r : List Nat) : encTs m (l ++ r) = encTs m l ++ encTs m r := by simp [encTs]
theorem or_lt {t q K : Nat} (ht : t < 2 ^ K) (hq : q < K) : t ||| 2 ^ q < 2 ^ K := Nat.or_lt_two_pow ht (Nat.pow_lt_pow_right (by decide) hq)
theorem or_new {t q : Nat} : t ||| 2 ^ q = t ↔ t.testBit q = true := by
  constructor
  · intro h
    rw [← h, or_bit]
    simp
  · exact or_old
set_option maxRecDepth 100000 in
theorem chg_ok (κ : KS) {b : EBook} (ho : okBook b.mb) (m c : Nat) : ∀ r, ChgOk κ b m c r := by
  intro r
  induction r using Nat.strongRecOn with
  | _ r ih =>
    intro t a rest har ht
    have hz : 0 < b.mb.makers.length := ho.1.1.1
    have h6 := ho.1.2.1.2
    have h64 := pow_le64 ho.1
    rw [show encTs m (t :: chg2 c b.mb.repairs (nK b.mb) r t) ++ rest = encT (m, t) :: (encTs m (chg2 c b.mb.repairs (nK b.mb) r t) ++ rest) from rfl]
    refine semM_of_exec' mixed Tryz.func158 (by kernel_rfl) (by kernel_rfl) ac158_ok 6 rfl (by decide) [(.tmp 8)] (by kernel_rfl) ?_
    intro C hC hI
    unfold ac158
    simp only [go_sem, Nat.reduceBEq, Nat.reduceAdd, LC]
    refine ⟨PVleL_refl _, ?_, ?_⟩
    rotate_left
    · exact retMQ_one rfl ⟨rfl, .inr ⟨rfl, rfl⟩⟩
    refine loop_ky r (fun _ => True) [3, 4, 5, 6] (fun j => [(9, .p (pi ((a + j : Nat) : Int)))]) (fun _ => LC κ b m c ++ [.cells [.p (pi m), .p (pi t)]]) (fun j => some (encTs m (chg2 c b.mb.repairs (nK b.mb) (r - j) t) ++ rest)) trivial (by simp [Wk, wkT, wkL, look, AV.lo, AV.lo.loL, keepS, LC]) ?_
    rintro j ⟨hj, -⟩
    unfold LC
    simp only [go_sem, Nat.reduceBEq]
    refine call_pure2 hC (kinds_sem κ hz) rfl (PVleL_refl _) ?_
    rintro r rfl
    simp only [go_sem, Nat.reduceBEq, Nat.reduceAdd]
    refine ⟨fun h5 => ?_, fun h5 => ?_⟩
    · have hj2 : j < r := by omega
      obtain ⟨q, hq⟩ : ∃ q, q = a + j := ⟨_, rfl⟩
      have hqk : q < nK b.mb := by omega
      rw [← hq]
      have hnx : IntKind.i64.wrap ((q : Int) + 1) = ((a + (j + 1) : Nat) : Int) := by rw [wrap_succ (k := q) (by omega), hq]; rfl
      have hst := chg2_step (can := c) (rep := b.mb.repairs) (K := nK b.mb) (r := r - (j + 1)) (t := t) (q := q) (by omega)
      rw [show r - (j + 1) + 1 = r - j by omega] at hst
      have hor := or_lt ht hqk
      have emm := eq_true (show (m : Int) = m from rfl)
      have emd := decide_eq_true (show (m : Int) = m from rfl)
      refine call_pure2 hC (changing_sem m t q (by omega) (by omega)) rfl (PVleL_refl _) ?_
      rintro r rfl
      simp only [go_sem, Nat.reduceBEq, Nat.reduceAdd, putCells]
      refine call_pure2 hC (has_sem c q (by omega)) rfl (PVleL_refl _) ?_
      rintro r rfl
      simp only [go_sem, Nat.reduceBEq]
      cases hb : c.testBit q
      · rw [hb, Bool.false_and, Bool.false_and, if_neg (by decide), List.nil_append] at hst
        rw [hst]
        simp only [go_sem, Nat.reduceBEq, hnx]
        refine ⟨⟨j + 1, hj2, trivial⟩, by simp only; omega, ?_⟩
        exact by simp [Wk, wkT, wkL, look, AV.lo, AV.lo.loL, ABlk.toZ]
      rw [hb, Bool.true_and] at hst
      cases htb : t.testBit q
      rotate_left
      · rw [htb, Bool.not_true, Bool.false_and, if_neg (by decide), List.nil_append] at hst
        rw [hst, or_old htb]
        simp only [go_sem, Nat.reduceBEq, Nat.reduceAdd, hnx, decide_true, Bool.true_and]
        refine ⟨⟨j + 1, hj2, trivial⟩, by simp only; omega, ?_⟩
        exact by simp [Wk, wkT, wkL, look, AV.lo, AV.lo.loL, ABlk.toZ]
      rw [htb, Bool.not_false, Bool.true_and] at hst
      have hne : ¬ ((t ||| 2 ^ q : Nat) : Int) = (t : Int) := fun e => by
        have := or_new.1 (show t ||| 2 ^ q = t by omega)
        rw [htb] at this
        cases this
      obtain ⟨u, hu⟩ : ∃ u, t ||| 2 ^ q = u := ⟨_, rfl⟩
      rw [hu] at hst hne hor ⊢
      simp only [go_sem, Nat.reduceBEq, Nat.reduceAdd, eq_false hne, List.append_nil, decide_true, decide_false, Bool.true_and, Bool.false_and, Bool.false_eq_true]
      refine call_pure2 hC (many_sem (s := u) (by omega)) rfl (PVleL_refl _) ?_
      rintro r rfl
      simp only [go_sem, Nat.reduceBEq, Nat.reduceAdd]
      refine ⟨fun h7 => ?_, fun h7 => ?_⟩
      · rw [decide_eq_false (show ¬ (cntN u 6 : Int) ≤ b.mb.repairs by omega), if_neg (by decide), List.nil_append] at hst
        rw [hst, hnx]
        refine ⟨⟨j + 1, hj2, trivial⟩, by simp only; omega, ?_⟩
        exact by simp [Wk, wkT, wkL, look, AV.lo, AV.lo.loL, ABlk.toZ]
      rw [decide_eq_true (show (cntN u 6 : Int) ≤ b.mb.repairs by omega), if_pos rfl] at hst
      have hnx2 : IntKind.i64.wrap ((q : Int) + 1) = ((q + 1 : Nat) : Int) := wrap_succ (by omega)
      rw [hst, encTs_app, List.append_assoc]
      simp only [go_sem, hnx2]
      refine call_mem2 hC [0, 1] (ih (r - (j + 1)) (by omega) u (q + 1) (encTs m (chg2 c b.mb.repairs (nK b.mb) (r - (j + 1)) t) ++ rest) (by omega) hor) rfl (by decide) rfl rfl rfl rfl (by simp) ?_
      rintro v L' ys' ⟨hL2, hcase⟩ -
      obtain ⟨X, rfl⟩ := take_LC hL2
      rcases hcase with ⟨rfl, rfl⟩ | ⟨rfl, rfl⟩
      · unfold LC
        simp only [go_sem, Nat.reduceBEq, Nat.reduceAdd, hnx]
        refine ⟨⟨j + 1, hj2, trivial⟩, by simp only; omega, ?_⟩
        exact by simp [Wk, wkT, wkL, look, AV.lo, AV.lo.loL, ABlk.toZ]
      · unfold LC
        simp only [go_sem, Nat.reduceBEq, Nat.reduceAdd]
        exact retMQ_one rfl ⟨rfl, .inr ⟨rfl, rfl⟩⟩
    · have hjn : j = r := by omega
      subst hjn
      rw [Nat.sub_self, show encTs m (chg2 c b.mb.repairs (nK b.mb) 0 t) ++ rest = rest from rfl]
      exact retMQ_one rfl ⟨rfl, .inl ⟨rfl, rfl⟩⟩
theorem truths_it (κ : KS) {b : EBook} (ho : okBook b.mb) (m : Nat) : IterC Tryz.prog Fence.wide 157 [.yld, wkP κ b m, .ptr [pi (canS b.mb m : Nat)] 0, .ptr [pi (mustS b.mb m : Nat)] 0] (encTs m (setsL b.mb m)) := by
  have hlt : mustS b.mb m < 2 ^ nK b.mb := setP_lt _ _
  have h := chg_ok κ ho m (canS b.mb m) (nK b.mb) (mustS b.mb m) 0 [] (by omega) hlt
  rw [List.append_nil] at h
  obtain ⟨u, hu⟩ : ∃ u, mustS b.mb m = u := ⟨_, rfl⟩
  unfold setsL
  rw [hu] at h ⊢
  refine iterC_of_exec' mixed Tryz.func157 (by kernel_rfl) (by kernel_rfl) ac157_ok 4 rfl (by decide) (by kernel_rfl) ?_
  intro C hC hI
  unfold ac157
  simp only [go_sem, Nat.reduceBEq, Nat.reduceAdd, Nat.reduceLeDiff, putCells]
  refine call_mem2 hC [0, 1] h rfl (by decide) rfl rfl rfl rfl (by simp) ?_
  rintro v L' ys' ⟨hL2, hcase⟩ -
  rcases hcase with ⟨rfl, rfl⟩ | ⟨rfl, rfl⟩
  · exact .inl rfl
  · exact .inr rfl
end Go.Proofs.YtlcpplkbmlmmbaaGreat.Mk.Me
