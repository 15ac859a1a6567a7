/- Contracts of maker: what is valid. What comes in, as values without addresses. For the rows: what is small enough, of each parameter. What comes in, of maker's types. Closed facts of the program, for the rows. -/
import Derived.Test.YtlbolnlcncjijaaGreatGa15
import Derived.Test.YtlbolnlcncjijaaGreatGa16
import Derived.Test.YtlbolnlcncjijaaGreatGa14
import Derived.ProofKit
import Derived.OpenShut
import Derived.ChangeOld
import Derived.Below
import Derived.SizedLaws
import Derived.Deep.Slices
import Derived.Deep.Fields
import Derived.ChangeSame
import Derived.Test.YtlbolnlcncjijaaGreatRows
import Derived.WalkKit
namespace Go.Proofs.YtlbolnlcncjijaaGreat.Mk
open Go.RowKit
def ac64 : AC := (AC.seq (AC.ops [(AOp.mk (some 6) (AK.mv (AX.c (PV.val (Value.bool false)))) none 0 false true)]) (AC.seq (AC.ops [(AOp.mk (some 7) (AK.mv (AX.t 1)) none 0 false true), (AOp.mk (some 8) (AK.mv (AX.t 0)) none 1 false true), (AOp.mk (some 9) (AK.bin false BinOp.leq (AX.t 7) (AX.t 8)) none 2 false true), (AOp.mk (some 10) (AK.mv (AX.t 9)) none 3 false true), (AOp.mk (some 11) (AK.mv (AX.t 0)) (some (10, true)) 4 false true), (AOp.mk (some 12) (AK.mv (AX.t 2)) (some (10, true)) 5 false true), (AOp.mk (some 13) (AK.bin false BinOp.leq (AX.t 11) (AX.t 12)) (some (10, true)) 6 false true), (AOp.mk (some 14) (AK.pick (AX.t 10) (AX.t 13) (AX.c (PV.val (Value.bool false)))) none 7 false true), (AOp.mk (some 6) (AK.mv (AX.t 14)) none 8 false true)]) AC.ret))
theorem ac64_ok : cCode Tryz.prog (fun _ => false) Tryz.f64.ntmps (Tryz.f64.body.getD .skip) = some ac64 := by kernel_rfl
def ac102 : AC := (AC.seq (AC.ops [(AOp.mk (some 2) (AK.mv (AX.c (PV.val (Value.bool false)))) none 0 false true)]) (AC.seq (AC.ops [(AOp.mk (some 3) (AK.mv (AX.t 0)) none 0 false true), (AOp.mk (some 4) (AK.call 64 [(AX.t 3), (AX.c (PV.val (Value.int IntKind.i64 1))), (AX.c (PV.val (Value.int IntKind.i64 31)))]) none 1 false true), (AOp.mk (some 2) (AK.mv (AX.t 4)) none 2 false true)]) AC.ret))
theorem ac102_ok : cCode Tryz.prog (fun _ => false) Tryz.f102.ntmps (Tryz.f102.body.getD .skip) = some ac102 := by kernel_rfl
def ac99 : AC := (AC.seq (AC.ops [(AOp.mk (some 1) (AK.box 4 (AX.t 0)) none 0 false true), (AOp.mk (some 2) (AK.mv (AX.c (PV.val (Value.int IntKind.i64 0)))) none 1 false true)]) (AC.seq (AC.seq (AC.ops [(AOp.mk (some 3) (AK.fadr 0 (AX.t 1)) none 0 false true), (AOp.mk (some 4) (AK.ld none (AX.t 3)) none 1 false true), (AOp.mk (some 5) (AK.len (AX.t 4)) none 2 false true), (AOp.mk (some 6) (AK.bin false BinOp.eql (AX.t 5) (AX.c (PV.val (Value.int IntKind.i64 0)))) none 3 false true)]) (AC.cond (AX.t 6) (AC.seq (AC.ops [(AOp.mk (some 2) (AK.mv (AX.c (PV.val (Value.int IntKind.i64 0)))) none 0 false true)]) AC.ret) AC.skip)) (AC.seq (AC.ops [(AOp.mk (some 7) (AK.fadr 0 (AX.t 1)) none 0 false true), (AOp.mk (some 8) (AK.ld none (AX.t 7)) none 1 false true), (AOp.mk (some 9) (AK.iadrS 1 (AX.t 8) (AX.c (PV.val (Value.int IntKind.i64 0)))) none 2 false true), (AOp.mk (some 10) (AK.ld none (AX.t 9)) none 3 false true), (AOp.mk (some 11) (AK.len (AX.t 10)) none 4 false true), (AOp.mk (some 2) (AK.mv (AX.t 11)) none 5 false true)]) AC.ret)))
theorem ac99_ok : cCode Tryz.prog (fun _ => false) Tryz.f99.ntmps (Tryz.f99.body.getD .skip) = some ac99 := by kernel_rfl
def ac100 : AC := (AC.seq (AC.ops [(AOp.mk (some 2) (AK.box 4 (AX.t 0)) none 0 false true), (AOp.mk (some 4) (AK.mv (AX.c (PV.val (Value.bool false)))) none 1 false true)]) (AC.seq (AC.seq (AC.ops [(AOp.mk (some 7) (AK.mv (AX.t 1)) none 0 false true), (AOp.mk (some 8) (AK.len (AX.t 7)) none 1 false true), (AOp.mk (some 9) (AK.ld (some 4) (AX.t 2)) none 2 false true), (AOp.mk (some 10) (AK.call 99 [(AX.t 9)]) none 3 false true), (AOp.mk (some 11) (AK.bin false BinOp.neq (AX.t 8) (AX.t 10)) none 4 false true)]) (AC.cond (AX.t 11) (AC.seq (AC.ops [(AOp.mk (some 4) (AK.mv (AX.c (PV.val (Value.bool false)))) none 0 false true)]) AC.ret) AC.skip)) (AC.seq (AC.seq (AC.ops [(AOp.mk (some 12) (AK.mv (AX.t 1)) none 0 false true), (AOp.mk (some 13) (AK.len (AX.t 12)) none 1 false true), (AOp.mk (some 14) (AK.mv (AX.c (PV.val (Value.int IntKind.i64 0)))) none 2 false true)]) (AC.block 0 (AC.loop (AC.seq (AC.ops [(AOp.mk (some 15) (AK.bin false BinOp.lss (AX.t 14) (AX.t 13)) none 0 false true)]) (AC.seq (AC.cond (AX.t 15) AC.skip (AC.exit 0)) (AC.seq (AC.block 1 (AC.seq (AC.ops [(AOp.mk (some 16) (AK.iadrS 1 (AX.t 12) (AX.t 14)) none 0 false true), (AOp.mk (some 17) (AK.ld none (AX.t 16)) none 1 false true), (AOp.mk (some 6) (AK.mv (AX.t 17)) none 2 false true)]) (AC.seq (AC.ops [(AOp.mk (some 18) (AK.mv (AX.t 6)) none 0 false true), (AOp.mk (some 19) (AK.call 102 [(AX.t 18)]) none 1 false true), (AOp.mk (some 20) (AK.un UnOp.not (AX.t 19)) none 2 false true)]) (AC.cond (AX.t 20) (AC.seq (AC.ops [(AOp.mk (some 4) (AK.mv (AX.c (PV.val (Value.bool false)))) none 0 false true)]) AC.ret) AC.skip)))) (AC.ops [(AOp.mk (some 21) (AK.bin false BinOp.add (AX.t 14) (AX.c (PV.val (Value.int IntKind.i64 1)))) none 0 false true), (AOp.mk (some 14) (AK.mv (AX.t 21)) none 1 false true)]))))))) (AC.seq (AC.ops [(AOp.mk (some 4) (AK.mv (AX.c (PV.val (Value.bool true)))) none 0 false true)]) AC.ret))))
theorem ac100_ok : cCode Tryz.prog (fun _ => false) Tryz.f100.ntmps (Tryz.f100.body.getD .skip) = some ac100 := by kernel_rfl
def ac82 : AC := (AC.seq (AC.ops [(AOp.mk (some 1) (AK.box 4 (AX.t 0)) none 0 false true), (AOp.mk (some 2) (AK.mv (AX.c (PV.val (Value.bool false)))) none 1 false true)]) (AC.seq (AC.seq (AC.ops [(AOp.mk (some 7) (AK.fadr 0 (AX.t 1)) none 0 false true), (AOp.mk (some 8) (AK.ld none (AX.t 7)) none 1 false true), (AOp.mk (some 9) (AK.len (AX.t 8)) none 2 false true), (AOp.mk (some 10) (AK.call 64 [(AX.t 9), (AX.c (PV.val (Value.int IntKind.i64 1))), (AX.c (PV.val (Value.int IntKind.i64 5)))]) none 3 false true), (AOp.mk (some 11) (AK.un UnOp.not (AX.t 10)) none 4 false true), (AOp.mk (some 12) (AK.mv (AX.t 11)) none 5 false true), (AOp.mk (some 13) (AK.ld (some 4) (AX.t 1)) (some (12, false)) 6 false true), (AOp.mk (some 14) (AK.call 99 [(AX.t 13)]) (some (12, false)) 7 false true), (AOp.mk (some 15) (AK.call 64 [(AX.t 14), (AX.c (PV.val (Value.int IntKind.i64 1))), (AX.c (PV.val (Value.int IntKind.i64 6)))]) (some (12, false)) 8 false true), (AOp.mk (some 16) (AK.un UnOp.not (AX.t 15)) (some (12, false)) 9 false true), (AOp.mk (some 17) (AK.pick (AX.t 12) (AX.c (PV.val (Value.bool true))) (AX.t 16)) none 10 false true), (AOp.mk (some 18) (AK.mv (AX.t 17)) none 11 false true), (AOp.mk (some 19) (AK.fadr 1 (AX.t 1)) (some (18, false)) 12 false true), (AOp.mk (some 20) (AK.ld none (AX.t 19)) (some (18, false)) 13 false true), (AOp.mk (some 21) (AK.len (AX.t 20)) (some (18, false)) 14 false true), (AOp.mk (some 22) (AK.bin false BinOp.gtr (AX.t 21) (AX.c (PV.val (Value.int IntKind.i64 8)))) (some (18, false)) 15 false true), (AOp.mk (some 23) (AK.pick (AX.t 18) (AX.c (PV.val (Value.bool true))) (AX.t 22)) none 16 false true)]) (AC.cond (AX.t 23) (AC.seq (AC.ops [(AOp.mk (some 2) (AK.mv (AX.c (PV.val (Value.bool false)))) none 0 false true)]) AC.ret) AC.skip)) (AC.seq (AC.seq (AC.ops [(AOp.mk (some 24) (AK.fadr 0 (AX.t 1)) none 0 false true), (AOp.mk (some 25) (AK.ld none (AX.t 24)) none 1 false true), (AOp.mk (some 26) (AK.len (AX.t 25)) none 2 false true), (AOp.mk (some 27) (AK.mv (AX.c (PV.val (Value.int IntKind.i64 0)))) none 3 false true)]) (AC.block 0 (AC.loop (AC.seq (AC.ops [(AOp.mk (some 28) (AK.bin false BinOp.lss (AX.t 27) (AX.t 26)) none 0 false true)]) (AC.seq (AC.cond (AX.t 28) AC.skip (AC.exit 0)) (AC.seq (AC.block 1 (AC.seq (AC.ops [(AOp.mk (some 29) (AK.iadrS 1 (AX.t 25) (AX.t 27)) none 0 false true), (AOp.mk (some 30) (AK.ld none (AX.t 29)) none 1 false true), (AOp.mk (some 4) (AK.mv (AX.t 30)) none 2 false true)]) (AC.seq (AC.ops [(AOp.mk (some 31) (AK.ld (some 4) (AX.t 1)) none 0 false true), (AOp.mk (some 32) (AK.mv (AX.t 4)) none 1 false true), (AOp.mk (some 33) (AK.call 100 [(AX.t 31), (AX.t 32)]) none 2 false true), (AOp.mk (some 34) (AK.un UnOp.not (AX.t 33)) none 3 false true)]) (AC.cond (AX.t 34) (AC.seq (AC.ops [(AOp.mk (some 2) (AK.mv (AX.c (PV.val (Value.bool false)))) none 0 false true)]) AC.ret) AC.skip)))) (AC.ops [(AOp.mk (some 35) (AK.bin false BinOp.add (AX.t 27) (AX.c (PV.val (Value.int IntKind.i64 1)))) none 0 false true), (AOp.mk (some 27) (AK.mv (AX.t 35)) none 1 false true)]))))))) (AC.seq (AC.seq (AC.ops [(AOp.mk (some 36) (AK.fadr 1 (AX.t 1)) none 0 false true), (AOp.mk (some 37) (AK.ld none (AX.t 36)) none 1 false true), (AOp.mk (some 38) (AK.len (AX.t 37)) none 2 false true), (AOp.mk (some 39) (AK.mv (AX.c (PV.val (Value.int IntKind.i64 0)))) none 3 false true)]) (AC.block 2 (AC.loop (AC.seq (AC.ops [(AOp.mk (some 40) (AK.bin false BinOp.lss (AX.t 39) (AX.t 38)) none 0 false true)]) (AC.seq (AC.cond (AX.t 40) AC.skip (AC.exit 2)) (AC.seq (AC.block 3 (AC.seq (AC.ops [(AOp.mk (some 41) (AK.iadrS 2 (AX.t 37) (AX.t 39)) none 0 false true), (AOp.mk (some 42) (AK.ld (some 2) (AX.t 41)) none 1 false true), (AOp.mk (some 6) (AK.new (PV.agg [(PV.val (Value.int IntKind.i64 0)), (PV.val (Value.int IntKind.i64 0))])) none 2 false true), (AOp.mk none (AK.st 2 (AX.t 6) (AX.t 42)) none 3 false true)]) (AC.seq (AC.ops [(AOp.mk (some 43) (AK.ld (some 4) (AX.t 1)) none 0 false true), (AOp.mk (some 44) (AK.fadr 0 (AX.t 6)) none 1 false true), (AOp.mk (some 45) (AK.ld none (AX.t 44)) none 2 false true), (AOp.mk (some 46) (AK.call 101 [(AX.t 43), (AX.t 45)]) none 3 false true), (AOp.mk (some 47) (AK.un UnOp.not (AX.t 46)) none 4 false true), (AOp.mk (some 48) (AK.mv (AX.t 47)) none 5 false true), (AOp.mk (some 49) (AK.fadr 1 (AX.t 6)) (some (48, false)) 6 false true), (AOp.mk (some 50) (AK.ld none (AX.t 49)) (some (48, false)) 7 false true), (AOp.mk (some 51) (AK.call 102 [(AX.t 50)]) (some (48, false)) 8 false true), (AOp.mk (some 52) (AK.un UnOp.not (AX.t 51)) (some (48, false)) 9 false true), (AOp.mk (some 53) (AK.pick (AX.t 48) (AX.c (PV.val (Value.bool true))) (AX.t 52)) none 10 false true)]) (AC.cond (AX.t 53) (AC.seq (AC.ops [(AOp.mk (some 2) (AK.mv (AX.c (PV.val (Value.bool false)))) none 0 false true)]) AC.ret) AC.skip)))) (AC.ops [(AOp.mk (some 54) (AK.bin false BinOp.add (AX.t 39) (AX.c (PV.val (Value.int IntKind.i64 1)))) none 0 false true), (AOp.mk (some 39) (AK.mv (AX.t 54)) none 1 false true)]))))))) (AC.seq (AC.ops [(AOp.mk (some 55) (AK.fadr 2 (AX.t 1)) none 0 true false), (AOp.mk (some 56) (AK.ld none (AX.t 55)) none 1 true false), (AOp.mk (some 57) (AK.ld (some 4) (AX.t 1)) none 2 true false), (AOp.mk (some 58) (AK.call 99 [(AX.t 57)]) none 3 false false), (AOp.mk (some 59) (AK.call 64 [(AX.t 56), (AX.c (PV.val (Value.int IntKind.i64 0))), (AX.t 58)]) none 4 false true), (AOp.mk (some 60) (AK.mv (AX.t 59)) none 5 true true), (AOp.mk (some 61) (AK.fadr 3 (AX.t 1)) (some (60, true)) 6 true false), (AOp.mk (some 62) (AK.ld none (AX.t 61)) (some (60, true)) 7 true false), (AOp.mk (some 63) (AK.ld (some 4) (AX.t 1)) (some (60, true)) 8 true false), (AOp.mk (some 64) (AK.call 99 [(AX.t 63)]) (some (60, true)) 9 false false), (AOp.mk (some 65) (AK.bin false BinOp.shl (AX.c (PV.val (Value.int IntKind.i64 1))) (AX.t 64)) (some (60, true)) 10 true false), (AOp.mk (some 66) (AK.bin false BinOp.sub (AX.t 65) (AX.c (PV.val (Value.int IntKind.i64 1)))) (some (60, true)) 11 true false), (AOp.mk (some 67) (AK.call 64 [(AX.t 62), (AX.c (PV.val (Value.int IntKind.i64 0))), (AX.t 66)]) (some (60, true)) 12 false true), (AOp.mk (some 68) (AK.pick (AX.t 60) (AX.t 67) (AX.c (PV.val (Value.bool false)))) none 13 true true), (AOp.mk (some 2) (AK.mv (AX.t 68)) none 14 true true)]) AC.ret)))))
theorem ac82_ok : cCode Tryz.prog (fun _ => false) Tryz.f82.ntmps (Tryz.f82.body.getD .skip) = some ac82 := by kernel_rfl
def ac62 : AC := (AC.seq (AC.ops [(AOp.mk (some 1) (AK.box 4 (AX.t 0)) none 0 false true), (AOp.mk (some 2) (AK.mv (AX.c (PV.val (Value.int IntKind.i64 0)))) none 1 false true)]) (AC.seq (AC.seq (AC.ops [(AOp.mk (some 3) (AK.ld (some 4) (AX.t 1)) none 0 false true), (AOp.mk (some 4) (AK.call 82 [(AX.t 3)]) none 1 false true), (AOp.mk (some 5) (AK.un UnOp.not (AX.t 4)) none 2 false true)]) (AC.cond (AX.t 5) (AC.seq (AC.ops [(AOp.mk (some 2) (AK.mv (AX.c (PV.val (Value.int IntKind.i64 50)))) none 0 false true)]) AC.ret) AC.skip)) (AC.seq (AC.ops [(AOp.mk (some 2) (AK.mv (AX.c (PV.val (Value.int IntKind.i64 0)))) none 0 false true)]) AC.ret)))
theorem ac62_ok : cCode Tryz.prog (fun _ => false) Tryz.f62.ntmps (Tryz.f62.body.getD .skip) = some ac62 := by kernel_rfl
def ac39 : AC := (AC.seq (AC.ops [(AOp.mk (some 2) (AK.box 4 (AX.t 0)) none 0 false true), (AOp.mk (some 4) (AK.mv (AX.c (PV.val (Value.bool false)))) none 1 false true)]) (AC.seq (AC.ops [(AOp.mk (some 5) (AK.mv (AX.t 1)) none 0 false true), (AOp.mk (some 6) (AK.fadr 0 (AX.t 2)) none 1 false true), (AOp.mk (some 7) (AK.ld none (AX.t 6)) none 2 false true), (AOp.mk (some 8) (AK.len (AX.t 7)) none 3 false true), (AOp.mk (some 9) (AK.bin false BinOp.sub (AX.t 8) (AX.c (PV.val (Value.int IntKind.i64 1)))) none 4 false true), (AOp.mk (some 10) (AK.call 64 [(AX.t 5), (AX.c (PV.val (Value.int IntKind.i64 0))), (AX.t 9)]) none 5 false true), (AOp.mk (some 4) (AK.mv (AX.t 10)) none 6 false true)]) AC.ret))
theorem ac39_ok : cCode Tryz.prog (fun _ => false) Tryz.f39.ntmps (Tryz.f39.body.getD .skip) = some ac39 := by kernel_rfl
def ac101 : AC := (AC.seq (AC.ops [(AOp.mk (some 2) (AK.box 4 (AX.t 0)) none 0 false true), (AOp.mk (some 4) (AK.mv (AX.c (PV.val (Value.bool false)))) none 1 false true)]) (AC.seq (AC.ops [(AOp.mk (some 5) (AK.mv (AX.t 1)) none 0 false true), (AOp.mk (some 6) (AK.ld (some 4) (AX.t 2)) none 1 false true), (AOp.mk (some 7) (AK.call 99 [(AX.t 6)]) none 2 false true), (AOp.mk (some 8) (AK.bin false BinOp.sub (AX.t 7) (AX.c (PV.val (Value.int IntKind.i64 1)))) none 3 false true), (AOp.mk (some 9) (AK.call 64 [(AX.t 5), (AX.c (PV.val (Value.int IntKind.i64 0))), (AX.t 8)]) none 4 false true), (AOp.mk (some 4) (AK.mv (AX.t 9)) none 5 false true)]) AC.ret))
theorem ac101_ok : cCode Tryz.prog (fun _ => false) Tryz.f101.ntmps (Tryz.f101.body.getD .skip) = some ac101 := by kernel_rfl
abbrev rowsC (hs : List (List Int)) : List (List PV) := hs.map fun h => [pis h]
abbrev seenC (l : List (Int × Int)) : List (List PV) := l.map fun m => [pi m.1, pi m.2]
abbrev bookC (k k2 : SK) (b : MBook) : List PV := [.sl k 1 (rowsC b.makers), .sl k2 2 (seenC b.seen), pi b.repairs, pi b.fixed]
theorem within_sem (n a b : Int) : Sem1 64 [pi n, pi a, pi b] (pb (decide (a ≤ n ∧ n ≤ b))) := by
  refine semC_of_exec' mixed Tryz.func64 (by kernel_rfl) (by kernel_rfl) ac64_ok 3 rfl (by decide) [(.tmp 6)] (by kernel_rfl) ?_
  intro hr C hC hI
  unfold ac64
  simp only [go_sem, Nat.reduceBEq, Nat.reduceAdd]
  exact ⟨fun h => retQ_one rfl (by simp [h]), fun h => retQ_one rfl (by simp [h])⟩
theorem isValues_sem (n : Int) : Sem1 102 [pi n] (pb (decide (1 ≤ n ∧ n ≤ 31))) := by
  refine semC_of_exec' mixed Tryz.func102 (by kernel_rfl) (by kernel_rfl) ac102_ok 1 rfl (by decide) [(.tmp 2)] (by kernel_rfl) ?_
  intro hr C hC hI
  unfold ac102
  simp only [go_sem, Nat.reduceBEq]
  refine call_pure2 hC (within_sem ..) rfl (PVleL_refl _) ?_
  rintro r rfl
  simp only [go_sem, Nat.reduceBEq]
  exact retQ_one rfl rfl
theorem kindsOf_sem (k k2 : SK) (b : MBook) : Sem1 99 [.agg (bookC k k2 b)] (pi (nK b)) := by
  cases hm : b.makers with
  | nil =>
    refine semC_of_exec' mixed Tryz.func99 (by kernel_rfl) (by kernel_rfl) ac99_ok 1 rfl (by decide) [(.tmp 2)] (by kernel_rfl) ?_
    intro hr C hC hI
    unfold ac99
    simp only [go_sem, Nat.reduceBEq, Nat.reduceAdd, hm, List.length_nil, List.map_nil, Int.natCast_zero, decide_true]
    refine retQ_one rfl ?_
    unfold nK
    rw [hm]
    rfl
  | cons r l =>
    have e0 := iadr_map (f := fun h => [pis h]) (kd := k) (sz := 1) (l := r :: l) (k := 0) (by simp)
    refine semC_of_exec' mixed Tryz.func99 (by kernel_rfl) (by kernel_rfl) ac99_ok 1 rfl (by decide) [(.tmp 2)] (by kernel_rfl) ?_
    intro hr C hC hI
    unfold ac99
    simp only [go_sem, Nat.reduceBEq, Nat.reduceAdd, hm, List.length_map, List.length_cons]
    refine ⟨fun h => absurd h (by omega), fun _ => ?_⟩
    simp only [go_sem, show (0 : Int) = ((0 : Nat) : Int) from rfl]
    refine retQ_one rfl ?_
    rw [List.length_map]
    unfold nK
    rw [hm]
    rfl
theorem take_all {l : List Int} {P : Int → Prop} {j : Nat} (hj : j < l.length) (h1 : ∀ x ∈ l.take j, P x) (h2 : P l[j]) : ∀ x ∈ l.take (j + 1), P x := by
  intro x hx
  rw [List.take_succ_eq_append_getElem hj, List.mem_append, List.mem_singleton] at hx
  rcases hx with hx | rfl
  · exact h1 x hx
  · exact h2
theorem take_allG {α : Type} {l : List α} {P : α → Prop} {j : Nat} (hj : j < l.length) (h1 : ∀ x ∈ l.take j, P x) (h2 : P l[j]) : ∀ x ∈ l.take (j + 1), P x := by
  intro x hx
  rw [List.take_succ_eq_append_getElem hj, List.mem_append, List.mem_singleton] at hx
  rcases hx with hx | rfl
  · exact h1 x hx
  · exact h2
def okRow (b : MBook) (r : List Int) : Prop := r.length = nK b ∧ ∀ x ∈ r, 1 ≤ x ∧ x ≤ 31
instance (b : MBook) (r : List Int) : Decidable (okRow b r) := by unfold okRow; exact inferInstance
theorem validMaker_sem (k k2 : SK) (b : MBook) (r : List Int) : Sem1 100 [.agg (bookC k k2 b), pis r] (pb (decide (okRow b r))) := by
  refine semC_of_exec' mixed Tryz.func100 (by kernel_rfl) (by kernel_rfl) ac100_ok 2 rfl (by decide) [(.tmp 4)] (by kernel_rfl) ?_
  intro hr C hC hI
  unfold ac100
  simp only [go_sem, Nat.reduceBEq, Nat.reduceAdd, List.length_map]
  have hlen := real_len (i := 1) hr rfl
  rw [List.length_map] at hlen
  refine call_pure2 hC (kindsOf_sem k k2 b) rfl (PVleL_refl _) ?_
  rintro r rfl
  simp only [go_sem, Nat.reduceBEq, List.length_map]
  refine ⟨fun h => ?_, fun h => ?_⟩
  · have : ¬ okRow b r := fun ho => h (by have := ho.1; omega)
    rw [decide_eq_false this]
    exact retQ_one rfl rfl
  have hl : r.length = nK b := by omega
  refine loop_k r.length (fun j => ∀ x ∈ r.take j, 1 ≤ x ∧ x ≤ 31) [12, 13] (fun j => [(14, .p (pi j))]) (by simp) rfl ⟨rfl, by simp, by simp⟩ (by simp [wkT, look, AV.lo]) ?_
  rintro j ⟨hj, hok⟩
  simp only [go_sem, Nat.reduceBEq]
  refine ⟨fun h5 => ?_, fun h5 => ?_⟩
  · have hj2 : j < r.length := by omega
    simp only [go_sem, Nat.reduceBEq, iadr_pis hj2]
    refine call_pure2 hC (isValues_sem ..) rfl (PVleL_refl _) ?_
    rintro r rfl
    simp only [go_sem, Nat.reduceBEq]
    refine ⟨fun h7 => ?_, fun h7 => ?_⟩
    · have : ¬ okRow b r := fun ho => absurd (ho.2 _ (List.getElem_mem hj2)) (by simpa using h7)
      rw [decide_eq_false this]
      exact retQ_one rfl rfl
    · have h8 : 1 ≤ r[j] ∧ r[j] ≤ 31 := by simpa using h7
      simp only [go_sem, wrap_succ (k := j) (by omega)]
      exact ⟨⟨j + 1, hj2, take_all hj2 hok h8⟩, by simp only; omega, by simp [Wk, wkT, wkL, look, AV.lo, AV.lo.loL, ABlk.toZ]⟩
  · have hjn : j = r.length := by omega
    subst hjn
    rw [List.take_length] at hok
    rw [decide_eq_true (show okRow b r from ⟨hl, hok⟩)]
    exact retQ_one rfl rfl
theorem hasMaker_sem (k k2 : SK) (b : MBook) (n : Int) (hl : b.makers.length ≤ 140737488355328) : Sem1 39 [.agg (bookC k k2 b), pi n] (pb (decide (0 ≤ n ∧ n < b.makers.length))) := by
  refine semC_of_exec' mixed Tryz.func39 (by kernel_rfl) (by kernel_rfl) ac39_ok 2 rfl (by decide) [(.tmp 4)] (by kernel_rfl) ?_
  intro hr C hC hI
  unfold ac39
  simp only [go_sem, Nat.reduceBEq, Nat.reduceAdd, List.length_map]
  refine call_pure2 hC (within_sem ..) rfl (PVleL_refl _) ?_
  rintro r rfl
  simp only [go_sem, Nat.reduceBEq]
  refine retQ_one rfl ?_
  rw [wrap_id (n := (b.makers.length : Int) - 1) (by omega) (by omega), show (decide (0 ≤ n ∧ n ≤ (b.makers.length : Int) - 1)) = decide (0 ≤ n ∧ n < b.makers.length) from decide_eq_decide.2 (by omega)]
theorem hasKind_sem (k k2 : SK) (b : MBook) (n : Int) (hl : nK b ≤ 140737488355328) : Sem1 101 [.agg (bookC k k2 b), pi n] (pb (decide (0 ≤ n ∧ n < (nK b : Int)))) := by
  refine semC_of_exec' mixed Tryz.func101 (by kernel_rfl) (by kernel_rfl) ac101_ok 2 rfl (by decide) [(.tmp 4)] (by kernel_rfl) ?_
  intro hr C hC hI
  unfold ac101
  simp only [go_sem, Nat.reduceBEq, Nat.reduceAdd]
  refine call_pure2 hC (kindsOf_sem ..) rfl (PVleL_refl _) ?_
  rintro r rfl
  simp only [go_sem, Nat.reduceBEq]
  refine call_pure2 hC (within_sem ..) rfl (PVleL_refl _) ?_
  rintro r rfl
  simp only [go_sem, Nat.reduceBEq]
  refine retQ_one rfl ?_
  rw [wrap_id (n := (nK b : Int) - 1) (by omega) (by omega), show (decide (0 ≤ n ∧ n ≤ (nK b : Int) - 1)) = decide (0 ≤ n ∧ n < (nK b : Int)) from decide_eq_decide.2 (by omega)]
theorem shl6 {m : Nat} (h : m ≤ 8) : IntKind.i64.wrap (1 * 2 ^ (min (m : Int).toNat 64)) = ((2 ^ m : Nat) : Int) := by
  have : m = 0 ∨ m = 1 ∨ m = 2 ∨ m = 3 ∨ m = 4 ∨ m = 5 ∨ m = 6 ∨ m = 7 ∨ m = 8 := by omega
  rcases this with rfl | rfl | rfl | rfl | rfl | rfl | rfl | rfl | rfl <;> decide
theorem shl6m {m : Nat} (h : m ≤ 8) : IntKind.i64.wrap (((2 ^ m : Nat) : Int) - 1) = ((2 ^ m : Nat) : Int) - 1 := by
  have : m = 0 ∨ m = 1 ∨ m = 2 ∨ m = 3 ∨ m = 4 ∨ m = 5 ∨ m = 6 ∨ m = 7 ∨ m = 8 := by omega
  rcases this with rfl | rfl | rfl | rfl | rfl | rfl | rfl | rfl | rfl <;> decide
def okMark (b : MBook) (m : Int × Int) : Prop := (0 ≤ m.1 ∧ m.1 < (nK b : Int)) ∧ 1 ≤ m.2 ∧ m.2 ≤ 31
instance (b : MBook) (m : Int × Int) : Decidable (okMark b m) := by unfold okMark; exact inferInstance
theorem validBook_sem (k k2 : SK) (b : MBook) : Sem1 82 [.agg (bookC k k2 b)] (pb (decide (okBook b))) := by
  by_cases c1 : (1 : Int) ≤ b.makers.length ∧ (b.makers.length : Int) ≤ 5
  rotate_left
  · rw [decide_eq_false (fun h : okBook b => c1 (by have := h.1.1; omega))]
    refine semC_of_exec' mixed Tryz.func82 (by kernel_rfl) (by kernel_rfl) ac82_ok 1 rfl (by decide) [(.tmp 2)] (by kernel_rfl) ?_
    intro hr C hC hI
    unfold ac82
    simp only [go_sem, Nat.reduceBEq, Nat.reduceAdd, List.length_map]
    refine call_pure2 hC (within_sem ..) rfl (PVleL_refl _) ?_
    rintro r rfl
    simp only [go_sem, Nat.reduceBEq, decide_eq_false c1]
    exact retQ_one rfl rfl
  by_cases c2 : (1 : Int) ≤ (nK b : Int) ∧ (nK b : Int) ≤ 6
  rotate_left
  · rw [decide_eq_false (fun h : okBook b => c2 (by have := h.1.2.1; omega))]
    refine semC_of_exec' mixed Tryz.func82 (by kernel_rfl) (by kernel_rfl) ac82_ok 1 rfl (by decide) [(.tmp 2)] (by kernel_rfl) ?_
    intro hr C hC hI
    unfold ac82
    simp only [go_sem, Nat.reduceBEq, Nat.reduceAdd, List.length_map]
    refine call_pure2 hC (within_sem ..) rfl (PVleL_refl _) ?_
    rintro r rfl
    simp only [go_sem, Nat.reduceBEq, Nat.reduceAdd, decide_eq_true c1]
    refine call_pure2 hC (kindsOf_sem k k2 b) rfl (PVleL_refl _) ?_
    rintro r rfl
    simp only [go_sem, Nat.reduceBEq]
    refine call_pure2 hC (within_sem ..) rfl (PVleL_refl _) ?_
    rintro r rfl
    simp only [go_sem, Nat.reduceBEq, decide_eq_false c2]
    exact retQ_one rfl rfl
  by_cases c3 : (8 : Int) < b.seen.length
  · rw [decide_eq_false (fun h : okBook b => absurd h.2 (by omega))]
    refine semC_of_exec' mixed Tryz.func82 (by kernel_rfl) (by kernel_rfl) ac82_ok 1 rfl (by decide) [(.tmp 2)] (by kernel_rfl) ?_
    intro hr C hC hI
    unfold ac82
    simp only [go_sem, Nat.reduceBEq, Nat.reduceAdd, List.length_map]
    refine call_pure2 hC (within_sem ..) rfl (PVleL_refl _) ?_
    rintro r rfl
    simp only [go_sem, Nat.reduceBEq, Nat.reduceAdd, decide_eq_true c1]
    refine call_pure2 hC (kindsOf_sem k k2 b) rfl (PVleL_refl _) ?_
    rintro r rfl
    simp only [go_sem, Nat.reduceBEq]
    refine call_pure2 hC (within_sem ..) rfl (PVleL_refl _) ?_
    rintro r rfl
    simp only [go_sem, Nat.reduceBEq, decide_eq_true c2, List.length_map, eq_true c3, decide_true]
    exact retQ_one rfl rfl
  refine semC_of_exec' mixed Tryz.func82 (by kernel_rfl) (by kernel_rfl) ac82_ok 1 rfl (by decide) [(.tmp 2)] (by kernel_rfl) ?_
  intro hr C hC hI
  unfold ac82
  simp only [go_sem, Nat.reduceBEq, Nat.reduceAdd, List.length_map]
  refine call_pure2 hC (within_sem ..) rfl (PVleL_refl _) ?_
  rintro r rfl
  simp only [go_sem, Nat.reduceBEq, Nat.reduceAdd, decide_eq_true c1]
  refine call_pure2 hC (kindsOf_sem k k2 b) rfl (PVleL_refl _) ?_
  rintro r rfl
  simp only [go_sem, Nat.reduceBEq]
  refine call_pure2 hC (within_sem ..) rfl (PVleL_refl _) ?_
  rintro r rfl
  simp only [go_sem, Nat.reduceBEq, decide_eq_true c2, List.length_map, eq_false c3, decide_false]
  refine loop_k b.makers.length (fun j => ∀ r ∈ b.makers.take j, okRow b r) [1, 25, 26] (fun j => [(27, .p (pi j))]) (by simp) rfl ⟨rfl, by simp, by simp⟩ (by simp [wkT, look, AV.lo]) ?_
  rintro j ⟨hj, hok⟩
  simp only [go_sem, Nat.reduceBEq]
  refine ⟨fun h5 => ?_, fun h5 => ?_⟩
  · have hj2 : j < b.makers.length := by omega
    simp only [go_sem, Nat.reduceBEq, Nat.reduceAdd, iadr_map (f := fun h => [pis h]) (kd := k) (sz := 1) hj2]
    refine call_pure2 hC (validMaker_sem k k2 b b.makers[j]) rfl (PVleL_refl _) ?_
    rintro r rfl
    simp only [go_sem, Nat.reduceBEq]
    refine ⟨fun h7 => ?_, fun h7 => ?_⟩
    · rw [decide_eq_false (fun h : okBook b => by
        have := h.1.2.2.1 _ (List.getElem_mem hj2)
        have hr : okRow b b.makers[j] := this
        simp [hr] at h7)]
      exact retQ_one rfl rfl
    · have h8 : okRow b b.makers[j] := by simpa using h7
      simp only [go_sem, wrap_succ (k := j) (by omega)]
      exact ⟨⟨j + 1, hj2, take_allG hj2 hok h8⟩, by simp only; omega, by simp [Wk, wkT, wkL, look, AV.lo, AV.lo.loL, ABlk.toZ]⟩
  have hjn : j = b.makers.length := by omega
  subst hjn
  rw [List.take_length] at hok
  simp only [go_sem, List.length_map]
  refine loop_k b.seen.length (fun j => ∀ m ∈ b.seen.take j, okMark b m) [1, 37, 38] (fun j => [(39, .p (pi j))]) (by simp) rfl ⟨rfl, by simp, by simp⟩ (by simp [wkT, look, AV.lo]) ?_
  rintro j ⟨hj, hok2⟩
  simp only [go_sem, Nat.reduceBEq, Nat.reduceAdd]
  refine ⟨fun h5 => ?_, fun h5 => ?_⟩
  · have hj2 : j < b.seen.length := by omega
    simp only [go_sem, Nat.reduceBEq, Nat.reduceAdd, iadr_map (f := fun m : Int × Int => [pi m.1, pi m.2]) (kd := k2) (sz := 2) hj2, putCells]
    by_cases d1 : 0 ≤ b.seen[j].1 ∧ b.seen[j].1 < (nK b : Int)
    rotate_left
    · rw [decide_eq_false (fun h : okBook b => d1 (h.1.2.2.2.1 _ (List.getElem_mem hj2)).1)]
      refine call_pure2 hC (hasKind_sem k k2 b _ (by omega)) rfl (PVleL_refl _) ?_
      rintro r rfl
      simp only [go_sem, Nat.reduceBEq, decide_eq_false d1]
      exact retQ_one rfl rfl
    refine call_pure2 hC (hasKind_sem k k2 b _ (by omega)) rfl (PVleL_refl _) ?_
    rintro r rfl
    simp only [go_sem, Nat.reduceBEq, decide_eq_true d1]
    by_cases d2 : 1 ≤ b.seen[j].2 ∧ b.seen[j].2 ≤ 31
    rotate_left
    · rw [decide_eq_false (fun h : okBook b => d2 (h.1.2.2.2.1 _ (List.getElem_mem hj2)).2)]
      refine call_pure2 hC (isValues_sem ..) rfl (PVleL_refl _) ?_
      rintro r rfl
      simp only [go_sem, Nat.reduceBEq, decide_eq_false d2]
      exact retQ_one rfl rfl
    refine call_pure2 hC (isValues_sem ..) rfl (PVleL_refl _) ?_
    rintro r rfl
    simp only [go_sem, Nat.reduceBEq, decide_eq_true d2, wrap_succ (k := j) (by omega)]
    exact ⟨⟨j + 1, hj2, take_allG hj2 hok2 ⟨d1, d2⟩⟩, by simp only; omega, by simp [Wk, wkT, wkL, look, AV.lo, AV.lo.loL, ABlk.toZ]⟩
  have hjn : j = b.seen.length := by omega
  subst hjn
  rw [List.take_length] at hok2
  have hf : ((2 : Int) ^ nK b) = ((2 ^ nK b : Nat) : Int) := by norm_cast
  have hs1 := shl6 (m := nK b) (by omega)
  have hs2 := shl6m (m := nK b) (by omega)
  by_cases d1 : 0 ≤ b.repairs ∧ b.repairs ≤ (nK b : Int)
  rotate_left
  · rw [decide_eq_false (fun h : okBook b => d1 h.1.2.2.2.2.1)]
    refine call_pure2 hC (kindsOf_sem k k2 b) rfl (PVleL_refl _) ?_
    rintro r rfl
    simp only [go_sem, Nat.reduceBEq]
    refine call_pure2 hC (within_sem ..) rfl (PVleL_refl _) ?_
    rintro r rfl
    simp only [go_sem, Nat.reduceBEq, decide_eq_false d1]
    exact retQ_one rfl rfl
  refine call_pure2 hC (kindsOf_sem k k2 b) rfl (PVleL_refl _) ?_
  rintro r rfl
  simp only [go_sem, Nat.reduceBEq]
  refine call_pure2 hC (within_sem ..) rfl (PVleL_refl _) ?_
  rintro r rfl
  simp only [go_sem, Nat.reduceBEq, Nat.reduceAdd, decide_eq_true d1, Bool.false_eq_true]
  refine call_pure2 hC (kindsOf_sem k k2 b) rfl (PVleL_refl _) ?_
  rintro r rfl
  simp only [go_sem, Nat.reduceBEq, bin_shl (show ¬ (nK b : Int) < 0 by omega), hs1, hs2]
  refine call_pure2 hC (within_sem ..) rfl (PVleL_refl _) ?_
  rintro r rfl
  simp only [go_sem, Nat.reduceBEq]
  refine retQ_one rfl ?_
  rw [← hf]
  have e : okBook b ↔ (0 ≤ b.fixed ∧ b.fixed ≤ 2 ^ nK b - 1) := ⟨fun h => h.1.2.2.2.2.2, fun h => ⟨⟨by omega, by omega, hok, hok2, d1, h⟩, by omega⟩⟩
  rw [decide_eq_decide.2 e]
theorem Check_sem (k k2 : SK) (b : MBook) : Sem1 62 [.agg (bookC k k2 b)] (pi (if okBook b then 0 else 50)) := by
  refine semC_of_exec' mixed Tryz.func62 (by kernel_rfl) (by kernel_rfl) ac62_ok 1 rfl (by decide) [(.tmp 2)] (by kernel_rfl) ?_
  intro hr C hC hI
  unfold ac62
  simp only [go_sem, Nat.reduceBEq, Nat.reduceAdd]
  refine call_pure2 hC (validBook_sem k k2 b) rfl (PVleL_refl _) ?_
  rintro r rfl
  simp only [go_sem, Nat.reduceBEq]
  by_cases h : okBook b
  · rw [if_pos h]
    simp only [go_sem, eq_true h, decide_true, decide_false, not_true_eq_false, false_implies, true_implies]
    exact retQ_one rfl rfl
  · rw [if_neg h]
    simp only [go_sem, eq_false h, decide_true, decide_false, not_false_eq_true, false_implies, true_implies]
    exact retQ_one rfl rfl
end Go.Proofs.YtlbolnlcncjijaaGreat.Mk
namespace Go.Proofs.YtlbolnlcncjijaaGreat
open Go.RowKit Go.Shelf Go.ChangeShapes Go.WideShapes Go.Deep

def memG (w : World) : GP := ⟨fun b o => (w.cell? ⟨b, o, none⟩).filter (·.oneCell'), fun _ => none, 0⟩
theorem memG_agree (w : World) : Agree (memG w) w :=
  ⟨fun b o v h => .inl (by simpa [memG, Option.filter_eq_some_iff] using h), ⟨0, fun _ _ => rfl⟩⟩
theorem memG_frz {w : World} {b o : Nat} {v : Value} (h : w.cell? ⟨b, o, none⟩ = some v) (h1 : v.oneCell' = true) : (memG w).cel b o v := ⟨by simp [memG, h, h1], h1⟩

def TyF (T : TypeId → List PV → Prop) : List Field → List PV → Prop
  | [], x => x = []
  | g :: gs, x => ∃ a b, x = a ++ b ∧ T g.type a ∧ TyF T gs b
def TyN (T : List PV → Prop) : Nat → List PV → Prop
  | 0, x => x = []
  | n + 1, x => ∃ a b, x = a ++ b ∧ T a ∧ TyN T n b
def Ty (P : Program) : Nat → TypeId → List PV → Prop
  | 0, _, _ => False
  | f + 1, t, x => match P.underlying t with
    | some .bool => ∃ b, x = [.val (.bool b)]
    | some (.int k) => ∃ n, x = [.val (.int k n)] ∧ k.min ≤ n ∧ n ≤ k.max
    | some (.slice e) => ∃ es, x = [.sl .sh (P.cellsOf e) es] ∧ es.length ≤ 140737488355328 ∧ ∀ y ∈ es, y.length = P.cellsOf e ∧ Ty P f e y
    | some (.struct fs) => TyF (Ty P f) fs.toList x
    | some (.array n e) => TyN (Ty P f e) n x
    | _ => False
def flds (P : Program) : Nat → List Field → Nat → Bool
  | o, [], n => o == n
  | o, g :: gs, n => (g.offset == o) && flds P (o + P.cellsOf g.type) gs n
def layB (P : Program) : Nat → TypeId → Bool
  | 0, _ => false
  | f + 1, t => match P.underlying t with
    | some .bool => true
    | some (.int _) => true
    | some (.slice e) => decide (0 < P.bytesOf e) && decide (0 < P.cellsOf e) && layB P f e
    | some (.struct fs) => flds P 0 fs.toList (P.cellsOf t) && fs.toList.all fun g => layB P f g.type
    | some (.array n e) => decide (P.cellsOf t = n * P.cellsOf e) && layB P f e
    | _ => false
def SizedP {H : Type} (P : Program) (t : TypeId) (d : DataW H) : Prop := ∀ n ∈ d.weights P t, n ≤ reachBytes

section
variable {H : Type} {P : Program} {enc : TypeId × Value → H} {w : World} {base : Nat} {spare : Nat → Bool} {held : Bool}
theorem sizedP_agg {t : TypeId} {fs : Array Field} {ds : List (DataW H)} (hu : P.underlying t = some (.struct fs)) (h : SizedP P t (.agg ds)) {j : Nat} {f : Field} {d : DataW H} (hf : fs[j]? = some f) (hd : ds[j]? = some d) : SizedP P f.type d := by
  intro n hn
  refine h n ?_
  simp only [DataW.weights, hu]
  exact DataW.weights_mem_each (by simp [hf]) hd n hn
theorem sizedP_all {e : TypeId} : ∀ {ds : List (DataW H)} {d : DataW H}, d ∈ ds → ∀ n ∈ d.weights P e, n ∈ DataW.weightsAll P e ds
  | d0 :: ds, d, hd, n, hn => by
    simp only [DataW.weightsAll, List.mem_append]
    rcases List.mem_cons.1 hd with rfl | hd
    · exact .inl hn
    · exact .inr (sizedP_all hd n hn)
theorem sizedP_elem {t e : TypeId} {es sp : List (DataW H)} (hu : P.underlying t = some (.slice e)) (h : SizedP P t (.slice es sp)) {d : DataW H} (hd : d ∈ es) : SizedP P e d := by
  intro n hn
  refine h n ?_
  simp only [DataW.weights, hu, List.mem_cons, List.mem_append]
  exact .inr (.inl (sizedP_all hd n hn))
theorem sizedP_arr {t e : TypeId} {m : Nat} {es : List (DataW H)} (hu : P.underlying t = some (.array m e)) (h : SizedP P t (.agg es)) {d : DataW H} (hd : d ∈ es) : SizedP P e d := by
  intro n hn
  refine h n ?_
  simp only [DataW.weights, hu]
  exact sizedP_all hd n hn
theorem sizedP_len {t e : TypeId} {es sp : List (DataW H)} (hu : P.underlying t = some (.slice e)) (h : SizedP P t (.slice es sp)) : (es.length + sp.length) * P.bytesOf e ≤ reachBytes := by
  refine h _ ?_
  simp only [DataW.weights, hu, List.mem_cons, true_or]

theorem relLP_app {g : GP} {a b : List PV} {u v : List Value} (h : RelLP g a u) (k : RelLP g b v) : RelLP g (a ++ b) (u ++ v) := by
  refine ⟨by simp [h.len, k.len], fun x hx => ?_, fun i x y hx hy => ?_⟩
  · rcases List.mem_append.1 hx with hx | hx
    · exact h.one x hx
    · exact k.one x hx
  · by_cases hi : i < a.length
    · rw [List.getElem?_append_left hi] at hx
      rw [List.getElem?_append_left (by rw [← h.len]; exact hi)] at hy
      exact h.at_ i x y hx hy
    · rw [List.getElem?_append_right (by omega)] at hx
      rw [List.getElem?_append_right (by rw [← h.len]; omega), ← h.len] at hy
      exact k.at_ _ x y hx hy
theorem relLP_nil {g : GP} : RelLP g [] [] := ⟨rfl, fun v hv => (by cases hv), fun i x v hx => by simp at hx⟩
theorem relLP_one {g : GP} {x : PV} {v : Value} (h : RelP g x v) (h1 : v.oneCell' = true) : RelLP g [x] [v] :=
  ⟨rfl, fun u hu => by simp at hu; subst hu; exact h1, fun i y u hy hu => by
    cases i with
    | zero => simp at hy hu; subst hy; subst hu; exact h
    | succ i => simp at hy⟩

theorem rd_fields {g : GP} {T : TypeId → List PV → Prop} {cs : List Value} : ∀ {gs : List Field} {o : Nat}, flds P o gs cs.length = true → (∀ f ∈ gs, ∃ x, RelLP g x ((cs.drop f.offset).take (P.cellsOf f.type)) ∧ T f.type x) →
    ∃ x, RelLP g x (cs.drop o) ∧ TyF T gs x
  | [], o, h, _ => by
    have : o = cs.length := by simpa [flds] using h
    subst this
    exact ⟨[], by rw [List.drop_length]; exact relLP_nil, rfl⟩
  | f :: gs, o, h, hf => by
    simp only [flds, Bool.and_eq_true, beq_iff_eq] at h
    obtain ⟨a, ha, hTa⟩ := hf f (List.mem_cons_self ..)
    obtain ⟨b, hb, hTb⟩ := rd_fields h.2 (fun f' hf' => hf f' (List.mem_cons_of_mem _ hf'))
    rw [h.1] at ha
    refine ⟨a ++ b, ?_, a, b, rfl, hTa, hTb⟩
    have := relLP_app ha hb
    rwa [← List.drop_drop, List.take_append_drop] at this
theorem rd_array {g : GP} {T : List PV → Prop} {c : Nat} {cs : List Value} : ∀ (m i : Nat), cs.length = (i + m) * c → (∀ j, i ≤ j → j < i + m → ∃ x, RelLP g x ((cs.drop (j * c)).take c) ∧ T x) → ∃ x, RelLP g x (cs.drop (i * c)) ∧ TyN T m x
  | 0, i, h, _ => ⟨[], by rw [List.drop_eq_nil_of_le (by rw [h, Nat.add_zero]; exact Nat.le_refl _)]; exact relLP_nil, rfl⟩
  | m + 1, i, h, hf => by
    obtain ⟨a, ha, hTa⟩ := hf i (Nat.le_refl _) (by omega)
    obtain ⟨b, hb, hTb⟩ := rd_array m (i + 1) (by rw [h]; congr 1; omega) (fun j h1 h2 => hf j (by omega) (by omega))
    refine ⟨a ++ b, ?_, a, b, rfl, hTa, hTb⟩
    have := relLP_app ha hb
    rwa [Nat.add_mul, Nat.one_mul, ← List.drop_drop, List.take_append_drop] at this

theorem list_ofP {α : Type} {p : Nat → α → Prop} {n : Nat} (h : ∀ i, i < n → ∃ x, p i x) : ∃ xs : List α, xs.length = n ∧ ∀ i x, xs[i]? = some x → p i x := by
  induction n with
  | zero => exact ⟨[], rfl, fun i x hx => by simp at hx⟩
  | succ n ih =>
    obtain ⟨xs, hl, hx⟩ := ih (fun i hi => h i (by omega))
    obtain ⟨x, hp⟩ := h n (by omega)
    refine ⟨xs ++ [x], by simp [hl], fun i y hy => ?_⟩
    by_cases e : i < xs.length
    · rw [List.getElem?_append_left e] at hy; exact hx i y hy
    · rw [List.getElem?_append_right (by omega)] at hy
      cases hq : i - xs.length with
      | zero => rw [hq] at hy; simp at hy; subst hy; rw [show i = n by omega]; exact hp
      | succ q => rw [hq] at hy; simp at hy

theorem addPlain (b o i : Nat) : (⟨b, o, none⟩ : Addr).add i = ⟨b, o + i, none⟩ := by
  unfold Addr.add
  split
  · rename_i h; subst h; rfl
  · rfl
theorem rd_trod : ∀ (f : Nat) {t : TypeId} {cs : List Value} {fuel : Nat} {x : DataW H × List MemPlace}, layB P f t = true → DataW.trod enc P w base spare held fuel t cs = some x → SizedP P t x.1 → ∃ l, RelLP (memG w) l cs ∧ Ty P f t l
  | 0, t, cs, fuel, x, hl, _, _ => by simp [layB] at hl
  | f + 1, t, cs, fuel, x, hl, h, hz => by
    simp only [layB] at hl
    split at hl
    · rename_i hu
      cases fuel with
      | zero => simp [DataW.trod] at h
      | succ m =>
        unfold DataW.trod at h
        rw [hu] at h
        split at h <;> simp_all
        exact ⟨[.val (.bool _)], relLP_one (.val _ rfl) rfl, by simp [Ty, hu]⟩
    · rename_i k hu
      cases fuel with
      | zero => simp [DataW.trod] at h
      | succ m =>
        unfold DataW.trod at h
        rw [hu] at h
        split at h <;> simp_all
        obtain ⟨⟨rfl, hw⟩, _⟩ := h
        exact ⟨[.val (.int _ _)], relLP_one (.val _ (by simpa [scalar, Lit.wf] using hw)) rfl, by simpa [Ty, hu, Lit.wf] using hw⟩
    · rename_i e hu
      simp only [Bool.and_eq_true, decide_eq_true_eq] at hl
      obtain ⟨⟨hb0, hc0⟩, hle⟩ := hl
      rcases open_slice hu h with ⟨rfl, _⟩ | ⟨a, len, cap, m, n, D, Pl, rfl, hb, hlc, hm, hmm, rfl, hi⟩
      · refine ⟨[.sl .sh (P.cellsOf e) []], relLP_one (.sl .sh _ [] none 0 0 (fun _ _ => undef) rfl (by omega) (Nat.le_refl _) (by unfold maxLen; omega) (by trivial) (fun i e he => by simp at he) (fun i hi => by omega) (fun i j e x he => by simp at he)) rfl, ?_⟩
        simp only [Ty, hu]
        exact ⟨[], rfl, by simp, fun y hy => by cases hy⟩
      · have hlm : len ≤ m := by rw [hmm]; split <;> omega
        have hx : ∀ i, i < len → ∃ p : List PV × List Value, w.cells? base (a.add (i * P.cellsOf e)) (P.cellsOf e) = some p.2 ∧ RelLP (memG w) p.1 p.2 ∧ Ty P f e p.1 := fun i hil => by
          obtain ⟨cs', hc, ht⟩ := hi i (by omega)
          obtain ⟨l, h1, h2⟩ := rd_trod f hle ht (sizedP_elem hu hz (List.mem_map.2 ⟨i, by simpa using hil, rfl⟩))
          exact ⟨(l, cs'), hc, h1, h2⟩
        obtain ⟨ps, hpl, hps⟩ := list_ofP hx
        have hlen : len ≤ 140737488355328 := by
          have h1 := sizedP_len hu hz
          simp only [List.length_map, List.length_range] at h1
          have h2 : len ≤ (len + (m - len)) * P.bytesOf e := Nat.le_trans (Nat.le_add_right _ _) (Nat.le_mul_of_pos_right _ hb0)
          simp only [reachBytes] at h1
          omega
        obtain ⟨b, o, sp⟩ := a
        have hsp : 0 < len → sp = none := fun h0 => by
          obtain ⟨cs', hc, _⟩ := hi 0 (by omega)
          obtain ⟨_, h2, h3⟩ := World.cells?_some hc
          have h0' := h3 0 hc0
          rw [List.getElem?_eq_getElem (by omega)] at h0'
          simpa [Addr.add] using World.cell?_spot h0'
        have cell : ∀ i (p : List PV × List Value), ps[i]? = some p → p.2.length = P.cellsOf e ∧ sp = none ∧ ∀ j (v : Value), p.2[j]? = some v → w.cell? ⟨b, o + i * P.cellsOf e + j, none⟩ = some v := fun i p hp => by
          obtain ⟨_, h2, h3⟩ := World.cells?_some (hps i p hp).1
          have hil : i < ps.length := (List.getElem?_eq_some_iff.1 hp).1
          have hs := hsp (by omega)
          subst hs
          refine ⟨h2, rfl, fun j v hv => ?_⟩
          have hj : j < P.cellsOf e := by have := (List.getElem?_eq_some_iff.1 hv).1; omega
          have := h3 j hj
          rw [hv, addPlain, addPlain] at this
          exact this
        refine ⟨[.sl .sh (P.cellsOf e) (ps.map (·.1))], relLP_one (.sl .sh _ _ (some ⟨b, o, sp⟩) len cap (fun i j => (ps.getD i ([], [])).2.getD j undef) (by simpa using hpl) hlen hlc hm (by trivial) (fun i y hy => ?_) (fun i hil => ?_) (fun i j y z hy hz => ?_)) rfl, ?_⟩
        · rw [List.getElem?_map, Option.map_eq_some_iff] at hy
          obtain ⟨p, hp, rfl⟩ := hy
          rw [(hps i p hp).2.1.len, (cell i p hp).1]
        · have hp : ps[i]? = some ps[i] := List.getElem?_eq_getElem (by omega)
          obtain ⟨h1, h2, h3⟩ := cell i _ hp
          subst h2
          refine ⟨b, o, rfl, fun j hj => ?_⟩
          have hv : ps[i].2[j]? = some ps[i].2[j] := List.getElem?_eq_getElem (by omega)
          have he : (ps.getD i ([], [])).2.getD j undef = ps[i].2[j] := by
            simp [List.getD_eq_getElem?_getD, hp, hv]
          rw [he]
          exact memG_frz (h3 j _ hv) ((hps i _ hp).2.1.one _ (List.getElem_mem _))
        · rw [List.getElem?_map, Option.map_eq_some_iff] at hy
          obtain ⟨p, hp, rfl⟩ := hy
          have hj : j < p.2.length := by rw [← (hps i p hp).2.1.len]; exact (List.getElem?_eq_some_iff.1 hz).1
          have hv : p.2[j]? = some p.2[j] := List.getElem?_eq_getElem hj
          have he : (ps.getD i ([], [])).2.getD j undef = p.2[j] := by
            simp [List.getD_eq_getElem?_getD, hp, hv]
          rw [he]
          exact (hps i p hp).2.1.at_ j z _ hz hv
        · simp only [Ty, hu]
          refine ⟨_, rfl, by simp; omega, fun y hy => ?_⟩
          obtain ⟨p, hp, rfl⟩ := List.mem_map.1 hy
          obtain ⟨i, hpi⟩ := List.mem_iff_getElem?.1 hp
          exact ⟨by rw [(hps i p hpi).2.1.len, (cell i p hpi).1], (hps i p hpi).2.2⟩
    · rename_i fs hu
      simp only [Bool.and_eq_true] at hl
      obtain ⟨xs, n, _, rfl, hlen, hxl, hf⟩ := DataW.trod_struct hu h
      have := rd_fields (g := memG w) (T := Ty P f) (cs := cs) (gs := fs.toList) (o := 0) (by rw [hlen]; exact hl.1) (fun g hg => by
        obtain ⟨j, hj⟩ := List.mem_iff_getElem?.1 hg
        have hj' : fs[j]? = some g := by simpa using hj
        have hlt : j < xs.length := by rw [hxl]; exact (Array.getElem?_eq_some_iff.1 hj').1
        have h1 := hf j g hj'
        rw [List.getElem?_eq_getElem hlt] at h1
        exact rd_trod f (List.all_eq_true.1 hl.2 g hg) h1 (sizedP_agg hu hz hj' (by simp [List.getElem?_eq_getElem hlt])))
      obtain ⟨l, h1, h2⟩ := this
      exact ⟨l, by simpa using h1, by simpa only [Ty, hu] using h2⟩
    · rename_i n e hu
      simp only [Bool.and_eq_true, decide_eq_true_eq] at hl
      obtain ⟨xs, m, _, rfl, hlen, hxl, hf⟩ := DataW.trod_array hu h
      have := rd_array (g := memG w) (T := Ty P f e) (c := P.cellsOf e) (cs := cs) n 0 (by rw [hlen, hl.1]; simp) (fun j _ hj => by
        have hlt : j < xs.length := by omega
        have h1 := hf j (by omega)
        rw [List.getElem?_eq_getElem hlt] at h1
        exact rd_trod f hl.2 h1 (sizedP_arr hu hz (List.mem_map.2 ⟨_, List.getElem_mem hlt, rfl⟩)))
      obtain ⟨l, h1, h2⟩ := this
      exact ⟨l, by simpa using h1, by simpa only [Ty, hu] using h2⟩
    · cases hl
def argPV (P : Program) (t : TypeId) (l : List PV) : PV :=
  match P.underlying t with
  | some (.struct _) => .agg l
  | some (.array _ _) => .agg l
  | _ => l.headD .any
theorem rd_arg {r : Reach} {b0 : Nat} {t : TypeId} {v : Value} {d : DataW H} {p : List MemPlace} (f : Nat) (hl : layB P f t = true) (hv : Value.okWide P w r b0 t v) (h : DataW.Trod enc P w base spare held t v d p) (hz : SizedP P t d) : ∃ l, Ty P f t l ∧ RelP (memG w) (argPV P t l) v := by
  obtain ⟨fuel, h⟩ := h
  obtain ⟨l, h1, h2⟩ := rd_trod f hl h hz
  refine ⟨l, h2, ?_⟩
  have agg : (∃ cs, v = .agg cs) → RelP (memG w) (.agg l) v := by
    rintro ⟨cs, rfl⟩
    exact .agg l cs (by simpa [Value.cells] using h1.len) (fun u hu => h1.one u (by simpa [Value.cells] using hu)) (fun i x u hx hu => h1.at_ i x u hx (by simpa [Value.cells] using hu))
  have one : (∀ cs, v ≠ .agg cs) → RelP (memG w) (l.headD .any) v := fun hne => by
    have hc : v.cells = #[v] := by cases v <;> first | rfl | exact absurd rfl (hne _)
    rw [hc] at h1
    have hlen : l.length = 1 := by simpa using h1.len
    match l, hlen with
    | [x], _ => exact h1.at_ 0 x v rfl rfl
  unfold argPV
  cases f with
  | zero => simp [layB] at hl
  | succ f =>
    simp only [layB] at hl
    split at hl
    · rename_i hu
      rw [hu]
      exact one (fun cs e => by subst e; simp [Value.okWide, hu, Cell.okWide, Cell.ok] at hv)
    · rename_i k hu
      rw [hu]
      exact one (fun cs e => by subst e; simp [Value.okWide, hu, Cell.okWide, Cell.ok] at hv)
    · rename_i e' hu
      rw [hu]
      exact one (fun cs e => by subst e; simp [Value.okWide, hu, Cell.okWide, Cell.ok] at hv)
    · rename_i fs hu
      rw [hu]
      simp only [Value.okWide, hu] at hv
      obtain ⟨cs, h3, _⟩ := hv
      exact agg ⟨cs, h3⟩
    · rename_i n e' hu
      rw [hu]
      simp only [Value.okWide, hu] at hv
      obtain ⟨cs, h3, _⟩ := hv
      exact agg ⟨cs, h3⟩
    · cases hl
end
theorem law_calls {P : Program} {f : FuncId} {args : List PV} (h : SemC P f args (fun r => r = pb true)) {W : World} {vs : List Value} (ha : ArgsP (memG W) args vs) :
    Calls P f vs.toArray W fun e W' => e = .returned (.bool true) ∧ Below W.heap.size W W' :=
  (h.2 (memG W) W vs (memG_agree W) ha).mono fun e W' ⟨v, g', r, h1, _, _, _, h2, h3, h4⟩ => by
    subst h3
    cases h2 with
    | val _ _ => exact ⟨h1, h4⟩
theorem argsP_nil {g : GP} : ArgsP g [] [] := ⟨rfl, fun i x v hx => by simp at hx⟩
theorem argsP_cons {g : GP} {x : PV} {v : Value} {l : List PV} {vs : List Value} (h : RelP g x v) (k : ArgsP g l vs) : ArgsP g (x :: l) (v :: vs) :=
  ⟨by simp [k.len], fun i y u hy hu => by
    cases i with
    | zero => simp at hy hu; subst hy; subst hu; exact h
    | succ i => exact k.at_ i y u (by simpa using hy) (by simpa using hu)⟩
end Go.Proofs.YtlbolnlcncjijaaGreat
namespace Go.Proofs.YtlbolnlcncjijaaGreat
open Go.RowKit Go.Shelf Go.ChangeShapes Go.WideShapes Go.Deep
theorem sizedP_each {H : Type} {P : Program} {ts : List TypeId} {ds : List (DataW H)} (h : (DataW.weightsEach P ts ds).all (· ≤ reachBytes) = true) {j : Nat} {t : TypeId} {d : DataW H} (ht : ts[j]? = some t) (hd : ds[j]? = some d) : SizedP P t d := fun n hn => by
  have := List.all_eq_true.1 h n (DataW.weights_mem_each ht hd n hn)
  simpa using this
theorem tyStruct {P : Program} {f : Nat} {t : TypeId} {fs : Array Field} {l : List PV} (hu : P.underlying t = some (.struct fs)) (h : Ty P (f + 1) t l) : TyF (Ty P f) fs.toList l := by simpa only [Ty, hu] using h
theorem tySlice {P : Program} {f : Nat} {t e : TypeId} {l : List PV} (hu : P.underlying t = some (.slice e)) (h : Ty P (f + 1) t l) : ∃ es, l = [.sl .sh (P.cellsOf e) es] ∧ es.length ≤ 140737488355328 ∧ ∀ y ∈ es, y.length = P.cellsOf e ∧ Ty P f e y := by simpa only [Ty, hu] using h
theorem tyArray {P : Program} {f n : Nat} {t e : TypeId} {l : List PV} (hu : P.underlying t = some (.array n e)) (h : Ty P (f + 1) t l) : TyN (Ty P f e) n l := by simpa only [Ty, hu] using h
theorem tyInt {P : Program} {f : Nat} {t : TypeId} {k : IntKind} {l : List PV} (hu : P.underlying t = some (.int k)) (h : Ty P (f + 1) t l) : ∃ n, l = [.val (.int k n)] := by
  have h : ∃ n, l = [.val (.int k n)] ∧ k.min ≤ n ∧ n ≤ k.max := by simpa only [Ty, hu] using h
  obtain ⟨n, h, -⟩ := h
  exact ⟨n, h⟩
theorem tyBool {P : Program} {f : Nat} {t : TypeId} {l : List PV} (hu : P.underlying t = some .bool) (h : Ty P (f + 1) t l) : ∃ n, l = [.val (.bool n)] := by simpa only [Ty, hu] using h
theorem list_map_ex {α : Type} {f : α → List PV} : ∀ {es : List (List PV)}, (∀ y ∈ es, ∃ a, y = f a) → ∃ xs : List α, es = xs.map f
  | [], _ => ⟨[], rfl⟩
  | y :: es, h => by
    obtain ⟨a, rfl⟩ := h y (List.mem_cons_self ..)
    obtain ⟨xs, rfl⟩ := list_map_ex (es := es) fun y hy => h y (List.mem_cons_of_mem _ hy)
    exact ⟨a :: xs, rfl⟩
theorem argStruct {P : Program} {t : TypeId} {fs : Array Field} {l : List PV} (hu : P.underlying t = some (.struct fs)) : argPV P t l = .agg l := by unfold argPV; rw [hu]
theorem argArray {P : Program} {n : Nat} {t e : TypeId} {l : List PV} (hu : P.underlying t = some (.array n e)) : argPV P t l = .agg l := by unfold argPV; rw [hu]
theorem argInt {P : Program} {t : TypeId} {k : IntKind} {x : PV} (hu : P.underlying t = some (.int k)) : argPV P t [x] = x := by unfold argPV; rw [hu]; rfl
theorem argSlice {P : Program} {t e : TypeId} {x : PV} (hu : P.underlying t = some (.slice e)) : argPV P t [x] = x := by unfold argPV; rw [hu]; rfl
theorem argBool {P : Program} {t : TypeId} {x : PV} (hu : P.underlying t = some .bool) : argPV P t [x] = x := by unfold argPV; rw [hu]; rfl
end Go.Proofs.YtlbolnlcncjijaaGreat
namespace Go.Proofs.YtlbolnlcncjijaaGreat.Mk
open Go.RowKit
abbrev uInt : Tryz.prog.underlying 3 = some (.int .i64) := Tryz.underlying3
set_option maxRecDepth 100000 in
theorem ty_ints {f : Nat} {l : List PV} (h : Ty Tryz.prog (f + 2) 25 l) : ∃ xs : List Int, l = [pis xs] := by
  obtain ⟨es, rfl, -, h⟩ := tySlice Tryz.underlying25 h
  obtain ⟨xs, rfl⟩ := list_map_ex (f := fun x : Int => [pi x]) fun y hy => tyInt uInt (h y hy).2
  exact ⟨xs, rfl⟩
set_option maxRecDepth 100000 in
theorem ty_mark {f : Nat} {l : List PV} (h : Ty Tryz.prog (f + 2) 69 l) : ∃ m : Int × Int, l = [pi m.1, pi m.2] := by
  obtain ⟨a0, r0, rfl, h0, a1, r1, rfl, h1, rfl⟩ := tyStruct Tryz.underlying69 h
  obtain ⟨n0, rfl⟩ := tyInt uInt h0
  obtain ⟨n1, rfl⟩ := tyInt uInt h1
  exact ⟨(n0, n1), rfl⟩
set_option maxRecDepth 100000 in
theorem ty_book {l : List PV} (h : Ty Tryz.prog 10 37 l) : ∃ b, l = bookC .sh .sh b := by
  obtain ⟨a0, r0, rfl, h0, a1, r1, rfl, h1, a2, r2, rfl, h2, a3, r3, rfl, h3, rfl⟩ := tyStruct Tryz.underlying37 h
  obtain ⟨es, rfl, -, g1⟩ := tySlice Tryz.underlying22 h0
  obtain ⟨hs, rfl⟩ := list_map_ex (f := fun h : List Int => [pis h]) fun y hy => ty_ints (g1 y hy).2
  obtain ⟨es2, rfl, -, g2⟩ := tySlice Tryz.underlying35 h1
  obtain ⟨ms, rfl⟩ := list_map_ex (f := fun m : Int × Int => [pi m.1, pi m.2]) fun y hy => ty_mark (g2 y hy).2
  obtain ⟨n2, rfl⟩ := tyInt uInt h2
  obtain ⟨n3, rfl⟩ := tyInt uInt h3
  exact ⟨⟨hs, ms, n2, n3⟩, rfl⟩
end Go.Proofs.YtlbolnlcncjijaaGreat.Mk
namespace Go.Proofs.YtlbolnlcncjijaaGreat
open Go.ChangeShapes Go.WideShapes Go.ChangeAt Go.RowKit Go.Deep
theorem ownKnobs : ownKnob Tryz.prog.godebug = none := by kernel_rfl
theorem laidOut : laidOutB Tryz.prog = true := by kernel_rfl
theorem mapsR : mapsRowed Tryz.prog = true := by kernel_rfl
theorem stopsH : Tryz.prog.stopsHeard = true := by kernel_rfl
theorem mayE : Tryz.prog.mayEnter = true := by kernel_rfl
theorem lift0 : Tryz.prog.liftsFinal = Go.Proofs.YtlbolnlcncjijaaGreat.Rows.topWhoseRow.lifted := by kernel_rfl
theorem make0 : Tryz.prog.make = some Go.Proofs.YtlbolnlcncjijaaGreat.Rows.topWhoseRow.make := by kernel_rfl
end Go.Proofs.YtlbolnlcncjijaaGreat
