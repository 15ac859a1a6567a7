/- Theorems over dapple and maker: small books, rows that begin farther on. Contracts of maker: which marks must be wrong. Mathematics of maker: a book without marks. TopApart: what is true of the two books; the examples. Mathematics of dapple: rows that no horse has. -/
import Derived.Test.YtlbolnlcncjijaaGreatTw05
import Derived.Test.YtlbolnlcncjijaaGreatTw07
import Derived.Test.YtlbolnlcncjijaaGreatGa16
namespace Go.Proofs.YtlbolnlcncjijaaGreat.Tp
open Go.RowKit
def ac4 : AC := (AC.seq (AC.ops [(AOp.mk (some 1) (AK.box 2 (AX.t 0)) none 0 false true), (AOp.mk (some 2) (AK.mv (AX.c (PV.val (Value.bool false)))) none 1 false true)]) (AC.seq (AC.ops [(AOp.mk (some 6) (AK.ld (some 2) (AX.t 1)) none 0 false true), (AOp.mk (some 7) (AK.call 17 [(AX.t 6)]) none 1 false true), (AOp.mk (some 8) (AK.bin false BinOp.eql (AX.t 7) (AX.c (PV.val (Value.int IntKind.i64 0)))) none 2 false true), (AOp.mk (some 9) (AK.mv (AX.t 8)) none 3 false true), (AOp.mk (some 10) (AK.fadr 0 (AX.t 1)) (some (9, true)) 4 false true), (AOp.mk (some 11) (AK.ld none (AX.t 10)) (some (9, true)) 5 false true), (AOp.mk (some 12) (AK.call 18 [(AX.t 11), (AX.c (PV.val (Value.int IntKind.i64 1))), (AX.c (PV.val (Value.int IntKind.i64 6)))]) (some (9, true)) 6 false true), (AOp.mk (some 13) (AK.pick (AX.t 9) (AX.t 12) (AX.c (PV.val (Value.bool false)))) none 7 false true), (AOp.mk (some 14) (AK.mv (AX.t 13)) none 8 false true), (AOp.mk (some 15) (AK.fadr 1 (AX.t 1)) (some (14, true)) 9 false true), (AOp.mk (some 16) (AK.ld none (AX.t 15)) (some (14, true)) 10 false true), (AOp.mk (some 17) (AK.len (AX.t 16)) (some (14, true)) 11 false true), (AOp.mk (some 18) (AK.call 18 [(AX.t 17), (AX.c (PV.val (Value.int IntKind.i64 1))), (AX.c (PV.val (Value.int IntKind.i64 5)))]) (some (14, true)) 12 false true), (AOp.mk (some 19) (AK.pick (AX.t 14) (AX.t 18) (AX.c (PV.val (Value.bool false)))) none 13 false true), (AOp.mk (some 3) (AK.mv (AX.t 19)) none 14 false true)]) (AC.seq (AC.seq (AC.ops [(AOp.mk (some 4) (AK.mv (AX.c (PV.val (Value.int IntKind.i64 0)))) none 0 false true)]) (AC.block 0 (AC.loop (AC.seq (AC.seq (AC.ops [(AOp.mk (some 20) (AK.mv (AX.t 3)) none 0 false true), (AOp.mk (some 21) (AK.mv (AX.t 20)) none 1 false true), (AOp.mk (some 22) (AK.mv (AX.t 4)) (some (21, true)) 2 false true), (AOp.mk (some 23) (AK.fadr 1 (AX.t 1)) (some (21, true)) 3 false true), (AOp.mk (some 24) (AK.ld none (AX.t 23)) (some (21, true)) 4 false true), (AOp.mk (some 25) (AK.len (AX.t 24)) (some (21, true)) 5 false true), (AOp.mk (some 26) (AK.bin false BinOp.lss (AX.t 22) (AX.t 25)) (some (21, true)) 6 false true), (AOp.mk (some 27) (AK.pick (AX.t 21) (AX.t 26) (AX.c (PV.val (Value.bool false)))) none 7 false true)]) (AC.cond (AX.t 27) AC.skip (AC.exit 0))) (AC.seq (AC.block 1 (AC.seq (AC.ops [(AOp.mk (some 30) (AK.fadr 1 (AX.t 1)) none 0 true false), (AOp.mk (some 31) (AK.ld none (AX.t 30)) none 1 true false), (AOp.mk (some 32) (AK.mv (AX.t 4)) none 2 true false), (AOp.mk (some 33) (AK.iadrS 1 (AX.t 31) (AX.t 32)) none 3 true false), (AOp.mk (some 34) (AK.ld none (AX.t 33)) none 4 true false), (AOp.mk (some 35) (AK.len (AX.t 34)) none 5 true false), (AOp.mk (some 36) (AK.fadr 0 (AX.t 1)) none 6 true false), (AOp.mk (some 37) (AK.ld none (AX.t 36)) none 7 true false), (AOp.mk (some 38) (AK.bin false BinOp.eql (AX.t 35) (AX.t 37)) none 8 true true), (AOp.mk (some 3) (AK.mv (AX.t 38)) none 9 true true)]) (AC.seq (AC.ops [(AOp.mk (some 5) (AK.mv (AX.c (PV.val (Value.int IntKind.i64 0)))) none 0 false true)]) (AC.block 2 (AC.loop (AC.seq (AC.seq (AC.ops [(AOp.mk (some 39) (AK.mv (AX.t 3)) none 0 false true), (AOp.mk (some 40) (AK.mv (AX.t 39)) none 1 false true), (AOp.mk (some 41) (AK.mv (AX.t 5)) (some (40, true)) 2 false true), (AOp.mk (some 42) (AK.fadr 0 (AX.t 1)) (some (40, true)) 3 false true), (AOp.mk (some 43) (AK.ld none (AX.t 42)) (some (40, true)) 4 false true), (AOp.mk (some 44) (AK.bin false BinOp.lss (AX.t 41) (AX.t 43)) (some (40, true)) 5 false true), (AOp.mk (some 45) (AK.pick (AX.t 40) (AX.t 44) (AX.c (PV.val (Value.bool false)))) none 6 false true)]) (AC.cond (AX.t 45) AC.skip (AC.exit 2))) (AC.seq (AC.block 3 (AC.ops [(AOp.mk (some 48) (AK.fadr 1 (AX.t 1)) none 0 false true), (AOp.mk (some 49) (AK.ld none (AX.t 48)) none 1 false true), (AOp.mk (some 50) (AK.mv (AX.t 4)) none 2 false true), (AOp.mk (some 51) (AK.iadrS 1 (AX.t 49) (AX.t 50)) none 3 false true), (AOp.mk (some 52) (AK.ld none (AX.t 51)) none 4 false true), (AOp.mk (some 53) (AK.mv (AX.t 5)) none 5 false true), (AOp.mk (some 54) (AK.iadrS 1 (AX.t 52) (AX.t 53)) none 6 false true), (AOp.mk (some 55) (AK.ld none (AX.t 54)) none 7 false true), (AOp.mk (some 56) (AK.call 18 [(AX.t 55), (AX.c (PV.val (Value.int IntKind.i64 1))), (AX.c (PV.val (Value.int IntKind.i64 15)))]) none 8 false true), (AOp.mk (some 3) (AK.mv (AX.t 56)) none 9 false true)])) (AC.ops [(AOp.mk (some 46) (AK.mv (AX.t 5)) none 0 false true), (AOp.mk (some 47) (AK.bin false BinOp.add (AX.t 46) (AX.c (PV.val (Value.int IntKind.i64 1)))) none 1 false true), (AOp.mk (some 5) (AK.mv (AX.t 47)) none 2 false true)])))))))) (AC.ops [(AOp.mk (some 28) (AK.mv (AX.t 4)) none 0 false true), (AOp.mk (some 29) (AK.bin false BinOp.add (AX.t 28) (AX.c (PV.val (Value.int IntKind.i64 1)))) none 1 false true), (AOp.mk (some 4) (AK.mv (AX.t 29)) none 2 false true)])))))) (AC.seq (AC.ops [(AOp.mk (some 57) (AK.mv (AX.t 3)) none 0 false true), (AOp.mk (some 2) (AK.mv (AX.t 57)) none 1 false true)]) AC.ret))))
theorem ac4_ok : cCode Tryz.prog (fun _ => false) Tryz.f4.ntmps (Tryz.f4.body.getD .skip) = some ac4 := by kernel_rfl
def ac12 : AC := (AC.seq (AC.ops [(AOp.mk (some 4) (AK.mv (AX.c (PV.sl SK.full 0 []))) none 0 false true)]) (AC.seq (AC.ops [(AOp.mk (some 7) (AK.bslice false 3 1 0 [(PV.val (Value.int IntKind.i64 0))] []) none 0 false true), (AOp.mk (some 5) (AK.mv (AX.t 7)) none 1 false true)]) (AC.seq (AC.seq (AC.ops [(AOp.mk (some 6) (AK.mv (AX.c (PV.val (Value.int IntKind.i64 0)))) none 0 false true)]) (AC.block 0 (AC.loop (AC.seq (AC.seq (AC.ops [(AOp.mk (some 8) (AK.mv (AX.t 6)) none 0 false true), (AOp.mk (some 9) (AK.mv (AX.t 0)) none 1 false true), (AOp.mk (some 10) (AK.len (AX.t 9)) none 2 false true), (AOp.mk (some 11) (AK.bin false BinOp.lss (AX.t 8) (AX.t 10)) none 3 false true)]) (AC.cond (AX.t 11) AC.skip (AC.exit 0))) (AC.seq (AC.block 1 (AC.ops [(AOp.mk (some 14) (AK.mv (AX.t 5)) none 0 false true), (AOp.mk (some 15) (AK.mv (AX.t 0)) none 1 false true), (AOp.mk (some 16) (AK.mv (AX.t 6)) none 2 false true), (AOp.mk (some 17) (AK.mv (AX.t 1)) none 3 false true), (AOp.mk (some 18) (AK.bin false BinOp.add (AX.t 16) (AX.t 17)) none 4 false true), (AOp.mk (some 19) (AK.mv (AX.t 0)) none 5 false true), (AOp.mk (some 20) (AK.len (AX.t 19)) none 6 false true), (AOp.mk (some 21) (AK.call 6 [(AX.t 18), (AX.t 20)]) none 7 false true), (AOp.mk (some 22) (AK.iadrS 1 (AX.t 15) (AX.t 21)) none 8 false true), (AOp.mk (some 23) (AK.ld none (AX.t 22)) none 9 false true), (AOp.mk (some 24) (AK.bslice false 3 1 1 [(PV.val (Value.int IntKind.i64 0))] [(0, (1, (AX.t 23)))]) none 10 false true), (AOp.mk (some 25) (AK.app false 3 1 8 [(PV.val (Value.int IntKind.i64 0))] (AX.t 14) (AX.t 24)) none 11 false true), (AOp.mk (some 5) (AK.mv (AX.t 25)) none 12 false true)])) (AC.ops [(AOp.mk (some 12) (AK.mv (AX.t 6)) none 0 false true), (AOp.mk (some 13) (AK.bin false BinOp.add (AX.t 12) (AX.c (PV.val (Value.int IntKind.i64 1)))) none 1 false true), (AOp.mk (some 6) (AK.mv (AX.t 13)) none 2 false true)])))))) (AC.seq (AC.ops [(AOp.mk (some 26) (AK.mv (AX.t 5)) none 0 false true), (AOp.mk (some 4) (AK.mv (AX.t 26)) none 1 false true)]) AC.ret))))
theorem ac12_ok : cCode Tryz.prog (fun _ => false) Tryz.f12.ntmps (Tryz.f12.body.getD .skip) = some ac12 := by kernel_rfl
def ac11 : AC := (AC.seq (AC.ops [(AOp.mk (some 2) (AK.box 2 (AX.t 0)) none 0 false true), (AOp.mk (some 4) (AK.new (PV.agg [(PV.sl SK.full 0 []), (PV.sl SK.full 0 []), (PV.val (Value.int IntKind.i64 0)), (PV.val (Value.int IntKind.i64 0))])) none 1 false true)]) (AC.seq (AC.ops [(AOp.mk (some 7) (AK.fadr 1 (AX.t 2)) none 0 false true), (AOp.mk (some 8) (AK.ld none (AX.t 7)) none 1 false true), (AOp.mk (some 9) (AK.build [(PV.sl SK.full 0 []), (PV.sl SK.full 0 []), (PV.val (Value.int IntKind.i64 0)), (PV.val (Value.int IntKind.i64 0))] [(0, (1, (AX.t 8)))]) none 2 false true), (AOp.mk (some 5) (AK.new (PV.agg [(PV.sl SK.full 0 []), (PV.sl SK.full 0 []), (PV.val (Value.int IntKind.i64 0)), (PV.val (Value.int IntKind.i64 0))])) none 3 false true), (AOp.mk none (AK.st 4 (AX.t 5) (AX.t 9)) none 4 false true)]) (AC.seq (AC.seq (AC.ops [(AOp.mk (some 6) (AK.mv (AX.c (PV.val (Value.int IntKind.i64 0)))) none 0 false true)]) (AC.block 0 (AC.loop (AC.seq (AC.seq (AC.ops [(AOp.mk (some 10) (AK.mv (AX.t 6)) none 0 false true), (AOp.mk (some 11) (AK.mv (AX.t 1)) none 1 false true), (AOp.mk (some 12) (AK.len (AX.t 11)) none 2 false true), (AOp.mk (some 13) (AK.bin false BinOp.lss (AX.t 10) (AX.t 12)) none 3 false true)]) (AC.cond (AX.t 13) AC.skip (AC.exit 0))) (AC.seq (AC.block 1 (AC.ops [(AOp.mk (some 16) (AK.fadr 1 (AX.t 5)) none 0 true false), (AOp.mk (some 17) (AK.ld none (AX.t 16)) none 1 true false), (AOp.mk (some 18) (AK.mv (AX.t 6)) none 2 true false), (AOp.mk (some 19) (AK.mv (AX.t 1)) none 3 true false), (AOp.mk (some 20) (AK.mv (AX.t 6)) none 4 true false), (AOp.mk (some 21) (AK.iadrS 1 (AX.t 19) (AX.t 20)) none 5 true false), (AOp.mk (some 22) (AK.ld none (AX.t 21)) none 6 true false), (AOp.mk (some 23) (AK.bin false BinOp.shl (AX.c (PV.val (Value.int IntKind.i64 1))) (AX.t 22)) none 7 true false), (AOp.mk (some 24) (AK.build [(PV.val (Value.int IntKind.i64 0)), (PV.val (Value.int IntKind.i64 0))] [(0, (1, (AX.t 18))), (1, (1, (AX.t 23)))]) none 8 true false), (AOp.mk (some 25) (AK.bslice false 69 2 1 [(PV.val (Value.int IntKind.i64 0)), (PV.val (Value.int IntKind.i64 0))] [(0, (2, (AX.t 24)))]) none 9 false false), (AOp.mk (some 26) (AK.app false 69 2 16 [(PV.val (Value.int IntKind.i64 0)), (PV.val (Value.int IntKind.i64 0))] (AX.t 17) (AX.t 25)) none 10 false true), (AOp.mk (some 27) (AK.fadr 1 (AX.t 5)) none 11 true true), (AOp.mk none (AK.st 1 (AX.t 27) (AX.t 26)) none 12 false true)])) (AC.ops [(AOp.mk (some 14) (AK.mv (AX.t 6)) none 0 false true), (AOp.mk (some 15) (AK.bin false BinOp.add (AX.t 14) (AX.c (PV.val (Value.int IntKind.i64 1)))) none 1 false true), (AOp.mk (some 6) (AK.mv (AX.t 15)) none 2 false true)])))))) (AC.seq (AC.ops [(AOp.mk (some 28) (AK.ld (some 4) (AX.t 5)) none 0 false true), (AOp.mk none (AK.st 4 (AX.t 4) (AX.t 28)) none 1 false true)]) AC.ret))))
theorem ac11_ok : cCode Tryz.prog (fun _ => false) Tryz.f11.ntmps (Tryz.f11.body.getD .skip) = some ac11 := by kernel_rfl
def smallB (b : DBook) : Prop := okBook b ∧ b.round ≤ 6 ∧ b.horses.length ≤ 5
instance (b : DBook) : Decidable (smallB b) := by unfold smallB; infer_instance
theorem small_sem (k : SK) (b : DBook) : Sem1 4 [.agg (bookC k b)] (pb (decide (smallB b))) := by
  by_cases ho : okBook b
  rotate_left
  · have hn : decide (smallB b) = false := decide_eq_false fun h => ho h.1
    rw [hn]
    refine semC_of_exec' mixed Tryz.func4 (by kernel_rfl) (by kernel_rfl) ac4_ok 1 rfl (by decide) [(.tmp 2)] (by kernel_rfl) ?_
    intro hr C hC hI
    unfold ac4
    simp only [go_sem, Nat.reduceBEq, Nat.reduceAdd]
    refine call_pure2 hC (Check_sem k b) rfl (PVleL_refl _) ?_
    rintro r rfl
    simp only [go_sem, Nat.reduceBEq, if_neg ho, decide_false, decide_false, Int.reduceEq]
    refine loop_k 0 (fun _ => True) [1] (fun j => [(4, .p (pi 0)), (3, .p (pb false))]) trivial rfl ⟨rfl, by simp, by simp⟩ (by simp [wkT, look, AV.lo]) ?_
    rintro j ⟨hj, -⟩
    simp only [go_sem, Nat.reduceBEq]
    exact retQ_one rfl rfl
  by_cases hr6 : b.round ≤ 6
  rotate_left
  · have hn : decide (smallB b) = false := decide_eq_false fun h => hr6 h.2.1
    rw [hn]
    refine semC_of_exec' mixed Tryz.func4 (by kernel_rfl) (by kernel_rfl) ac4_ok 1 rfl (by decide) [(.tmp 2)] (by kernel_rfl) ?_
    intro hr C hC hI
    unfold ac4
    simp only [go_sem, Nat.reduceBEq, Nat.reduceAdd]
    refine call_pure2 hC (Check_sem k b) rfl (PVleL_refl _) ?_
    rintro r rfl
    simp only [go_sem, Nat.reduceBEq, if_pos ho, decide_true, decide_true]
    refine call_pure2 hC (In_sem b.round 1 6) rfl (PVleL_refl _) ?_
    rintro r rfl
    simp only [go_sem, Nat.reduceBEq, decide_eq_false (show ¬ (1 ≤ b.round ∧ b.round ≤ 6) by omega)]
    refine loop_k 0 (fun _ => True) [1] (fun j => [(4, .p (pi 0)), (3, .p (pb false))]) trivial rfl ⟨rfl, by simp, by simp⟩ (by simp [wkT, look, AV.lo]) ?_
    rintro j ⟨hj, -⟩
    simp only [go_sem, Nat.reduceBEq]
    exact retQ_one rfl rfl
  have h1 := ho.1
  have h6 := ho.2.1
  by_cases hm5 : b.horses.length ≤ 5
  rotate_left
  · have hn : decide (smallB b) = false := decide_eq_false fun h => hm5 h.2.2
    rw [hn]
    refine semC_of_exec' mixed Tryz.func4 (by kernel_rfl) (by kernel_rfl) ac4_ok 1 rfl (by decide) [(.tmp 2)] (by kernel_rfl) ?_
    intro hr C hC hI
    unfold ac4
    simp only [go_sem, Nat.reduceBEq, Nat.reduceAdd]
    refine call_pure2 hC (Check_sem k b) rfl (PVleL_refl _) ?_
    rintro r rfl
    simp only [go_sem, Nat.reduceBEq, if_pos ho, decide_true, decide_true]
    refine call_pure2 hC (In_sem b.round 1 6) rfl (PVleL_refl _) ?_
    rintro r rfl
    simp only [go_sem, Nat.reduceBEq, decide_eq_true (show 1 ≤ b.round ∧ b.round ≤ 6 by omega), List.length_map]
    refine call_pure2 hC (In_sem (b.horses.length : Int) 1 5) rfl (PVleL_refl _) ?_
    rintro r rfl
    simp only [go_sem, Nat.reduceBEq, decide_eq_false (show ¬ ((1 : Int) ≤ b.horses.length ∧ (b.horses.length : Int) ≤ 5) by omega)]
    refine loop_k 0 (fun _ => True) [1] (fun j => [(4, .p (pi 0)), (3, .p (pb false))]) trivial rfl ⟨rfl, by simp, by simp⟩ (by simp [wkT, look, AV.lo]) ?_
    rintro j ⟨hj, -⟩
    simp only [go_sem, Nat.reduceBEq]
    exact retQ_one rfl rfl
  have hn : decide (smallB b) = true := decide_eq_true ⟨ho, hr6, hm5⟩
  obtain ⟨-, -, hn2⟩ := okR ho
  rw [hn]
  refine semC_of_exec' mixed Tryz.func4 (by kernel_rfl) (by kernel_rfl) ac4_ok 1 rfl (by decide) [(.tmp 2)] (by kernel_rfl) ?_
  intro hr C hC hI
  unfold ac4
  simp only [go_sem, Nat.reduceBEq, Nat.reduceAdd]
  refine call_pure2 hC (Check_sem k b) rfl (PVleL_refl _) ?_
  rintro r rfl
  simp only [go_sem, Nat.reduceBEq, if_pos ho, decide_true, decide_true]
  refine call_pure2 hC (In_sem b.round 1 6) rfl (PVleL_refl _) ?_
  rintro r rfl
  simp only [go_sem, Nat.reduceBEq, decide_eq_true (show 1 ≤ b.round ∧ b.round ≤ 6 by omega), List.length_map]
  refine call_pure2 hC (In_sem (b.horses.length : Int) 1 5) rfl (PVleL_refl _) ?_
  rintro r rfl
  simp only [go_sem, Nat.reduceBEq, decide_eq_true (show ((1 : Int) ≤ b.horses.length ∧ (b.horses.length : Int) ≤ 5) by omega)]
  refine loop_k b.horses.length (fun _ => True) [1] (fun j => [(4, .p (pi j)), (3, .p (pb true))]) trivial rfl ⟨rfl, by simp, by simp⟩ (by simp [wkT, look, AV.lo]) ?_
  rintro j ⟨hj, -⟩
  simp only [go_sem, Nat.reduceBEq, List.length_map]
  refine ⟨fun h5 => ?_, fun h5 => ?_⟩
  · have hj2 : j < b.horses.length := by omega
    have hH := ho.2.2 _ (List.getElem_mem hj2)
    have eh := iadr_map (f := fun h => [pis h]) (kd := k) (sz := 1) hj2
    obtain ⟨r, hr'⟩ : ∃ r, b.horses[j] = r := ⟨_, rfl⟩
    rw [hr'] at hH eh
    simp only [go_sem, Nat.reduceBEq, eh, List.length_map, decide_eq_true hH.1]
    refine loop_k (nR b) (fun _ => True) [1, 4] (fun q => [(5, .p (pi q)), (3, .p (pb true))]) trivial rfl ⟨rfl, by simp, by simp⟩ (by simp [wkT, look, AV.lo]) ?_
    rintro q ⟨hq, -⟩
    simp only [go_sem, Nat.reduceBEq]
    refine ⟨fun h6 => ?_, fun h6 => ?_⟩
    · have hq2 : q < nR b := by omega
      have hq3 : q < r.length := by have := hH.1; omega
      have hx := hH.2 _ (List.getElem_mem hq3)
      simp only [go_sem, Nat.reduceBEq, eh, iadr_pis hq3]
      refine call_pure2 hC (In_sem ..) rfl (PVleL_refl _) ?_
      rintro r rfl
      simp only [go_sem, Nat.reduceBEq, decide_eq_true hx, wrap_succ (k := q) (by omega)]
      exact ⟨⟨q + 1, hq2, trivial⟩, by simp only; omega, by simp [Wk, wkT, wkL, look, AV.lo, AV.lo.loL, ABlk.toZ]⟩
    · simp only [go_sem, wrap_succ (k := j) (by omega)]
      exact ⟨⟨j + 1, hj2, trivial⟩, by simp only; omega, by simp [Wk, wkT, wkL, look, AV.lo, AV.lo.loL, ABlk.toZ]⟩
  · exact retQ_one rfl rfl
def rotL (l : List Int) (t : Nat) : List Int := (List.range l.length).map fun p => l.getD ((p + t) % l.length) 0
theorem rotL_len (l : List Int) (t : Nat) : (rotL l t).length = l.length := by simp [rotL]
theorem rot_take {l : List Int} {t i : Nat} (hi : i < l.length) : (rotL l t).take (i + 1) = (rotL l t).take i ++ [l.getD ((i + t) % l.length) 0] := by
  have h : i < (rotL l t).length := by rw [rotL_len]; exact hi
  rw [List.take_add_one, List.getElem?_eq_getElem h]
  simp [rotL]
theorem rnd_nat {a m : Nat} (h : 1 ≤ m) : rndI (a : Int) m = ((a % m : Nat) : Int) := by
  unfold rndI
  rw [if_neg (by omega)]
  omega
theorem turned_sem (l : List Int) (t : Nat) (ht : t ≤ 1000) (hl : l.length ≤ 1000) : Sem1 12 [pis l, pi t] (pis (rotL l t)) := by
  refine semC_of_exec' mixed Tryz.func12 (by kernel_rfl) (by kernel_rfl) ac12_ok 2 rfl (by decide) [(.tmp 4)] (by kernel_rfl) ?_
  intro hr C hC hI
  unfold ac12
  simp only [go_sem, Nat.reduceBEq]
  refine loop_g (α := Nat × Option Nat) (fun a => a.1 ≤ l.length ∧ (a.2 = none → ((rotL l t).take a.1).map (fun x => [pi x]) = [])) (fun a => l.length - a.1) [0, 1] (fun a => [(5, .p (slG 3 a.2 (((rotL l t).take a.1).map fun x => [pi x]))), (6, .p (pi a.1))]) (fun a => []) (fun a => a.2.toList) (0, none) ⟨by omega, fun _ => rfl⟩ (by simp [Wk, wkT, wkL, look, AV.lo, upS_eq, keepS_nil, keepS_cons, slG]) ?_
  rintro ⟨i, o⟩ ⟨hi, h0⟩
  replace hi : i ≤ l.length := hi
  replace h0 : o = none → ((rotL l t).take i).map (fun x => [pi x]) = [] := h0
  simp only [go_sem, Nat.reduceBEq, List.length_map]
  refine ⟨fun d6 => ?_, fun d6 => ?_⟩
  · have hi2 : i < l.length := by omega
    have hm : (i + t) % l.length < l.length := Nat.mod_lt _ (by omega)
    have e1 : IntKind.i64.wrap ((i : Int) + (t : Int)) = ((i + t : Nat) : Int) := by
      rw [wrap_id (by omega) (by omega)]
      omega
    have hnx := rot_take (t := t) hi2
    have eg : l.getD ((i + t) % l.length) 0 = l[(i + t) % l.length] := by rw [List.getD_eq_getElem?_getD, List.getElem?_eq_getElem hm]; rfl
    have hrow : ((rotL l t).take (i + 1)).map (fun x => [pi x]) = ((rotL l t).take i).map (fun x => [pi x]) ++ [[pi l[(i + t) % l.length]]] := by
      rw [hnx, eg]
      simp
    simp only [go_sem, e1]
    refine call_pure2 hC (Round_sem ((i + t : Nat) : Int) (l.length : Int)) rfl (PVleL_refl _) ?_
    rintro r rfl
    simp only [go_sem, Nat.reduceBEq, rnd_nat (a := i + t) (m := l.length) (by omega), iadr_pis hm]
    refine app_slG h0 (by rw [List.length_map, List.length_take, rotL_len]; omega) (by simp) fun tk htk => ?_
    simp only [go_sem, Nat.reduceBEq, wrap_succ (k := i) (by omega)]
    refine ⟨⟨(i + 1, some tk), hi2, (fun h => by cases h)⟩, by simp only; omega, ?_⟩
    simp only [hrow]
    simp [Wk, wkT, wkL, look, AV.lo]
  · refine retQ_slG h0 rfl ?_
    have : i = (rotL l t).length := by rw [rotL_len]; omega
    rw [this, List.take_length]
theorem slZ_some {e : TypeId} {sz t : Nat} {rows : List (List PV)} : slZ e sz (some t) rows = .sl (.own t e sz) sz rows := rfl
def stB (b : DBook) (l : List Int) : Mk.MBook := ⟨b.horses, Mk.exL l l.length, 0, 0⟩
theorem stable_sem (k : SK) (b : DBook) (v : List Int) (hv5 : Mk.fiveL v) (hvl : v.length ≤ 8) : Sem1 11 [.agg (bookC k b), pis v] (.agg (Mk.bookC k .sh (stB b v))) := by
  refine semC_of_exec' mixed Tryz.func11 (by kernel_rfl) (by kernel_rfl) ac11_ok 2 rfl (by decide) [(.cell 4 37)] (by kernel_rfl) ?_
  intro hr C hC hI
  unfold ac11
  simp only [go_sem, Nat.reduceBEq, Nat.reduceAdd, Nat.reduceLeDiff, putCells]
  refine loop_g (α := Nat × Option Nat) (fun a => a.1 ≤ v.length ∧ (a.2 = none → Mk.seenC (Mk.exL v a.1) = [])) (fun a => v.length - a.1) [1, 4, 5] (fun a => [(6, .p (pi a.1))]) (fun a => [.cells [.p (pi b.round), .p (.sl k 1 (rowsC b.horses))], .cells [.p (.sl .full 0 []), .p (.sl .full 0 []), .p (pi 0), .p (pi 0)], .cells [.p (.sl k 1 (rowsC b.horses)), .p (slZ 69 2 a.2 (Mk.seenC (Mk.exL v a.1))), .p (pi 0), .p (pi 0)]]) (fun a => a.2.toList) (0, none) ⟨by omega, fun _ => rfl⟩ (by simp [Wk, wkT, wkL, look, AV.lo, AV.lo.loL, ABlk.toZ, upS_eq, keepS_nil, keepS_cons, slZ]) ?_
  rintro ⟨i, o⟩ ⟨hi, h0⟩
  replace hi : i ≤ v.length := hi
  replace h0 : o = none → Mk.seenC (Mk.exL v i) = [] := h0
  simp only [go_sem, Nat.reduceBEq, Nat.reduceAdd, List.length_map, putCells]
  refine ⟨fun d6 => ?_, fun d6 => ?_⟩
  · have hi2 : i < v.length := by omega
    have hw5 := Mk.ex_five hv5 i
    have hx := hv5 v[i] (List.getElem_mem hi2)
    have hex : v[i] = ((Mk.exV v i : Nat) : Int) := by
      unfold Mk.exV
      rw [List.getD_eq_getElem?_getD, List.getElem?_eq_getElem hi2]
      show v[i] = ((v[i].toNat : Nat) : Int)
      omega
    have hnx := Mk.exL_next v i
    obtain ⟨w, ew⟩ : ∃ w, Mk.exV v i = w := ⟨_, rfl⟩
    rw [ew] at hw5 hnx hex
    have hcast : ((2 ^ w : Nat) : Int) = (2 : Int) ^ w := by norm_cast
    have hrow : Mk.seenC (Mk.exL v (i + 1)) = Mk.seenC (Mk.exL v i) ++ [[pi i, pi ((2 ^ w : Nat) : Int)]] := by
      rw [hnx, hcast]
      simp [Mk.seenC]
    simp only [go_sem, Nat.reduceBEq, Nat.reduceAdd, Nat.reduceLeDiff, iadr_pis hi2, hex, bin_shl (show ¬ (w : Int) < 0 by omega), Mk.shl6 (m := w) (by omega), putCells]
    refine app_slZ h0 (by rw [List.length_map, Mk.exL_len]; omega) (by simp) fun tk htk => ?_
    simp only [go_sem, Nat.reduceBEq, Nat.reduceAdd, Nat.reduceLeDiff, wrap_succ (k := i) (by omega), putCells, slZ_some, true_or, true_and]
    refine ⟨⟨(i + 1, some tk), hi2, (fun h => by cases h)⟩, by simp only; omega, ?_⟩
    simp only [hrow, slZ_some]
    refine ⟨by simp [wkT, look, AV.lo], by simp [wkL, AV.lo, AV.lo.loL, ABlk.toZ], by simp, by simp, rfl, rfl, by simp⟩
  · have hiv : i = v.length := by omega
    subst hiv
    refine retQ_cell_le (n := some 4) (by kernel_rfl) rfl ?_ rfl
    exact PVle.agg (show PVleL [_, _, _, _] [_, _, _, _] from ⟨PVle.refl _, slZ_le h0, PVle.refl _, PVle.refl _, trivial⟩)
end Go.Proofs.YtlbolnlcncjijaaGreat.Tp
namespace Go.Proofs.YtlbolnlcncjijaaGreat.Mk
open Go.RowKit Ls
def ac104 : AC := (AC.seq (AC.ops [(AOp.mk (some 4) (AK.mv (AX.c (PV.val (Value.int IntKind.i64 0)))) none 0 false true)]) (AC.seq (AC.seq (AC.ops [(AOp.mk (some 6) (AK.mv (AX.t 0)) none 0 false true), (AOp.mk (some 7) (AK.len (AX.t 6)) none 1 false true), (AOp.mk (some 8) (AK.mv (AX.c (PV.val (Value.int IntKind.i64 0)))) none 2 false true)]) (AC.block 0 (AC.loop (AC.seq (AC.ops [(AOp.mk (some 9) (AK.bin false BinOp.lss (AX.t 8) (AX.t 7)) none 0 false true)]) (AC.seq (AC.cond (AX.t 9) AC.skip (AC.exit 0)) (AC.seq (AC.block 1 (AC.seq (AC.ops [(AOp.mk (some 10) (AK.mv (AX.t 8)) none 0 false true), (AOp.mk (some 5) (AK.mv (AX.t 10)) none 1 false true)]) (AC.seq (AC.ops [(AOp.mk (some 11) (AK.mv (AX.t 1)) none 0 false true), (AOp.mk (some 12) (AK.mv (AX.t 0)) none 1 false true), (AOp.mk (some 13) (AK.mv (AX.t 5)) none 2 false true), (AOp.mk (some 14) (AK.iadrS 1 (AX.t 12) (AX.t 13)) none 3 false true), (AOp.mk (some 15) (AK.ld none (AX.t 14)) none 4 false true), (AOp.mk (some 16) (AK.bin false BinOp.eql (AX.t 11) (AX.t 15)) none 5 false true)]) (AC.cond (AX.t 16) (AC.seq (AC.ops [(AOp.mk (some 17) (AK.mv (AX.t 5)) none 0 false true), (AOp.mk (some 4) (AK.mv (AX.t 17)) none 1 false true)]) AC.ret) AC.skip)))) (AC.ops [(AOp.mk (some 18) (AK.bin false BinOp.add (AX.t 8) (AX.c (PV.val (Value.int IntKind.i64 1)))) none 0 false true), (AOp.mk (some 8) (AK.mv (AX.t 18)) none 1 false true)]))))))) (AC.seq (AC.ops [(AOp.mk (some 4) (AK.mv (AX.c (PV.val (Value.int IntKind.i64 (-1))))) none 0 false true)]) AC.ret)))
theorem ac104_ok : cCode Tryz.prog (fun _ => false) Tryz.f104.ntmps (Tryz.f104.body.getD .skip) = some ac104 := by kernel_rfl
def ac92 : AC := (AC.seq (AC.ops [(AOp.mk (some 4) (AK.mv (AX.c (PV.val (Value.bool false)))) none 0 false true)]) (AC.seq (AC.ops [(AOp.mk (some 5) (AK.mv (AX.t 0)) none 0 false true), (AOp.mk (some 6) (AK.mv (AX.t 1)) none 1 false true), (AOp.mk (some 7) (AK.call 104 [(AX.t 5), (AX.t 6)]) none 2 false true), (AOp.mk (some 8) (AK.bin false BinOp.geq (AX.t 7) (AX.c (PV.val (Value.int IntKind.i64 0)))) none 3 false true), (AOp.mk (some 4) (AK.mv (AX.t 8)) none 4 false true)]) AC.ret))
theorem ac92_ok : cCode Tryz.prog (fun _ => false) Tryz.f92.ntmps (Tryz.f92.body.getD .skip) = some ac92 := by kernel_rfl
theorem Index_sem (l : List Int) (x : Int) : Sem1 104 [pis l, pi x] (pi (idxI l fun y => decide (x = y))) := by
  refine semC_of_exec' mixed Tryz.func104 (by kernel_rfl) (by kernel_rfl) ac104_ok 2 rfl (by decide) [(.tmp 4)] (by kernel_rfl) ?_
  intro hr C hC hI
  unfold ac104
  simp only [go_sem, Nat.reduceBEq, List.length_map]
  have hl := real_len (i := 0) hr rfl
  rw [List.length_map] at hl
  refine loop_k l.length (fun j => ∀ y ∈ l.take j, decide (x = y) = false) [0, 1, 7] (fun j => [(8, .p (pi j))]) (by simp) rfl ⟨rfl, by simp, by simp⟩ (by simp [wkT, look, AV.lo]) ?_
  rintro j ⟨hj, hok⟩
  simp only [go_sem, Nat.reduceBEq]
  refine ⟨fun h5 => ?_, fun h5 => ?_⟩
  · have hj2 : j < l.length := by omega
    simp only [go_sem, Nat.reduceBEq, iadr_pis hj2]
    refine ⟨fun h6 => ?_, fun h6 => ?_⟩
    · exact retQ_one rfl (by rw [idxI_some hj2 (p := fun y => decide (x = y)) (decide_eq_true h6) hok])
    · simp only [go_sem, wrap_succ (k := j) (by omega)]
      refine ⟨⟨j + 1, hj2, take_next hj2 hok (decide_eq_false h6)⟩, by simp only; omega, by simp [Wk, wkT, wkL, look, AV.lo]⟩
  · have hjn : j = l.length := by omega
    subst hjn
    rw [List.take_length] at hok
    exact retQ_one rfl (by rw [idxI_none hok])
theorem Contains_sem (l : List Int) (x : Int) : Sem1 92 [pis l, pi x] (pb (decide (x ∈ l))) := by
  refine semC_of_exec' mixed Tryz.func92 (by kernel_rfl) (by kernel_rfl) ac92_ok 2 rfl (by decide) [(.tmp 4)] (by kernel_rfl) ?_
  intro hr C hC hI
  unfold ac92
  simp only [go_sem, Nat.reduceBEq]
  refine call_pure2 hC (Index_sem l x) rfl (PVleL_refl _) ?_
  rintro r rfl
  simp only [go_sem, Nat.reduceBEq]
  refine retQ_one rfl (congrArg pb ?_)
  rw [idxI_dec, Bool.eq_iff_iff]
  simp
def nilL : PV := .sl .full 0 []
def fullL (l : List Int) : PV := .sl .full 1 (l.map fun x => [pi x])
def spanN (a e j : Nat) : List Nat := ((List.range (e - a)).map fun q => a + q).drop j
theorem spanN_next {a e j : Nat} (h : j < e - a) : spanN a e j = (a + j) :: spanN a e (j + 1) := by
  unfold spanN
  rw [List.drop_eq_getElem_cons (by simpa using h)]
  simp
theorem retQ_cells2 {P : Program} {t t' : Nat} {ty ty' : TypeId} {R : PV → Prop} {s : AS} {x y : PV} (hs : shapeN P ty = some none) (hs' : shapeN P ty' = some none) (h : stillV s (.ld none (.t t)) = some (.p x)) (h' : stillV s (.ld none (.t t')) = some (.p y)) (hR : R (.tup [x, y])) : retQ P [.cell t ty, .cell t' ty'] R s :=
  ⟨[.p x, .p y], [x, y], s.loc, .tup [x, y], by simp [resA, hs, hs', h, h'], rfl, PVle.refl _, hR⟩
def leftR (o : Option (List Int)) : PV := match o with | some z => .tup [fullL z, pb true] | none => .tup [nilL, pb false]
end Go.Proofs.YtlbolnlcncjijaaGreat.Mk
namespace Go.Proofs.YtlbolnlcncjijaaGreat.Mk
open Go.RowKit Ls
def allN (b : MBook) (q j : Nat) : Nat := (List.range j).foldl (fun s m => s ||| mkN b m q) 0
def bareN (b : MBook) (q : Nat) : Nat := if 0 < b.repairs ∧ (fixN b).testBit q = false then 31 else allN b q b.makers.length
end Go.Proofs.YtlbolnlcncjijaaGreat.Mk
namespace Go.Proofs.YtlbolnlcncjijaaGreat.Tp
open Go.RowKit
def ac19 : AC := (AC.seq (AC.ops [(AOp.mk (some 0) (AK.new (PV.agg [(PV.val (Value.int IntKind.i64 0)), (PV.sl SK.full 0 [])])) none 0 false true)]) (AC.seq (AC.ops [(AOp.mk (some 1) (AK.bslice false 3 1 3 [(PV.val (Value.int IntKind.i64 0))] [(0, (1, (AX.c (PV.val (Value.int IntKind.i64 1))))), (1, (1, (AX.c (PV.val (Value.int IntKind.i64 2))))), (2, (1, (AX.c (PV.val (Value.int IntKind.i64 4)))))]) none 0 false true), (AOp.mk (some 2) (AK.bslice false 3 1 3 [(PV.val (Value.int IntKind.i64 0))] [(0, (1, (AX.c (PV.val (Value.int IntKind.i64 2))))), (1, (1, (AX.c (PV.val (Value.int IntKind.i64 4))))), (2, (1, (AX.c (PV.val (Value.int IntKind.i64 1)))))]) none 1 false true), (AOp.mk (some 3) (AK.bslice false 3 1 3 [(PV.val (Value.int IntKind.i64 0))] [(0, (1, (AX.c (PV.val (Value.int IntKind.i64 1))))), (1, (1, (AX.c (PV.val (Value.int IntKind.i64 2))))), (2, (1, (AX.c (PV.val (Value.int IntKind.i64 6)))))]) none 2 false true), (AOp.mk (some 4) (AK.bslice false 25 1 3 [(PV.sl SK.full 0 [])] [(0, (1, (AX.t 1))), (1, (1, (AX.t 2))), (2, (1, (AX.t 3)))]) none 3 false true), (AOp.mk (some 5) (AK.build [(PV.val (Value.int IntKind.i64 0)), (PV.sl SK.full 0 [])] [(0, (1, (AX.c (PV.val (Value.int IntKind.i64 3))))), (1, (1, (AX.t 4)))]) none 4 false true), (AOp.mk none (AK.st 2 (AX.t 0) (AX.t 5)) none 5 false true)]) AC.ret))
theorem ac19_ok : cCode Tryz.prog (fun _ => false) Tryz.f19.ntmps (Tryz.f19.body.getD .skip) = some ac19 := by kernel_rfl
def ac5 : AC := (AC.seq (AC.ops [(AOp.mk (some 0) (AK.mv (AX.c (PV.val (Value.bool false)))) none 0 false true)]) (AC.seq (AC.ops [(AOp.mk (some 12) (AK.call 19 []) none 0 false true), (AOp.mk (some 13) (AK.bslice false 3 1 3 [(PV.val (Value.int IntKind.i64 0))] [(0, (1, (AX.c (PV.val (Value.int IntKind.i64 0))))), (1, (1, (AX.c (PV.val (Value.int IntKind.i64 1))))), (2, (1, (AX.c (PV.val (Value.int IntKind.i64 2)))))]) none 1 false true), (AOp.mk (some 14) (AK.call 9 [(AX.t 12), (AX.t 13)]) none 2 false true), (AOp.mk (some 11) (AK.mv (AX.t 14)) none 3 false true), (AOp.mk (some 15) (AK.ext (AX.t 11) 0) none 4 false true), (AOp.mk (some 16) (AK.ext (AX.t 11) 1) none 5 false true), (AOp.mk (some 1) (AK.mv (AX.t 15)) none 6 false true), (AOp.mk (some 2) (AK.mv (AX.t 16)) none 7 false true)]) (AC.seq (AC.ops [(AOp.mk (some 18) (AK.call 19 []) none 0 false true), (AOp.mk (some 19) (AK.bslice false 3 1 3 [(PV.val (Value.int IntKind.i64 0))] [(0, (1, (AX.c (PV.val (Value.int IntKind.i64 0))))), (1, (1, (AX.c (PV.val (Value.int IntKind.i64 1))))), (2, (1, (AX.c (PV.val (Value.int IntKind.i64 2)))))]) none 1 false true), (AOp.mk (some 20) (AK.call 11 [(AX.t 18), (AX.t 19)]) none 2 false true), (AOp.mk (some 21) (AK.call 10 [(AX.t 20)]) none 3 false true), (AOp.mk (some 17) (AK.mv (AX.t 21)) none 4 false true), (AOp.mk (some 22) (AK.ext (AX.t 17) 0) none 5 false true), (AOp.mk (some 23) (AK.ext (AX.t 17) 1) none 6 false true), (AOp.mk (some 3) (AK.mv (AX.t 22)) none 7 false true), (AOp.mk (some 4) (AK.mv (AX.t 23)) none 8 false true)]) (AC.seq (AC.ops [(AOp.mk (some 25) (AK.call 19 []) none 0 false true), (AOp.mk (some 26) (AK.call 20 [(AX.t 25), (AX.c (PV.val (Value.int IntKind.i64 0))), (AX.c (PV.val (Value.int IntKind.i64 1)))]) none 1 false true), (AOp.mk (some 24) (AK.mv (AX.t 26)) none 2 false true), (AOp.mk (some 27) (AK.ext (AX.t 24) 0) none 3 false true), (AOp.mk (some 28) (AK.ext (AX.t 24) 1) none 4 false true), (AOp.mk (some 5) (AK.mv (AX.t 27)) none 5 false true), (AOp.mk (some 6) (AK.mv (AX.t 28)) none 6 false true)]) (AC.seq (AC.ops [(AOp.mk (some 30) (AK.call 19 []) none 0 false true), (AOp.mk (some 31) (AK.call 11 [(AX.t 30), (AX.c (PV.sl SK.full 0 []))]) none 1 false true), (AOp.mk (some 32) (AK.call 21 [(AX.t 31), (AX.c (PV.val (Value.int IntKind.i64 0))), (AX.c (PV.val (Value.int IntKind.i64 1)))]) none 2 false true), (AOp.mk (some 29) (AK.mv (AX.t 32)) none 3 false true), (AOp.mk (some 33) (AK.ext (AX.t 29) 0) none 4 false true), (AOp.mk (some 34) (AK.ext (AX.t 29) 1) none 5 false true), (AOp.mk (some 7) (AK.mv (AX.t 33)) none 6 false true), (AOp.mk (some 8) (AK.mv (AX.t 34)) none 7 false true)]) (AC.seq (AC.ops [(AOp.mk (some 36) (AK.call 19 []) none 0 false true), (AOp.mk (some 37) (AK.call 22 [(AX.t 36)]) none 1 false true), (AOp.mk (some 35) (AK.mv (AX.t 37)) none 2 false true), (AOp.mk (some 38) (AK.ext (AX.t 35) 0) none 3 false true), (AOp.mk (some 39) (AK.ext (AX.t 35) 1) none 4 false true), (AOp.mk (some 9) (AK.mv (AX.t 38)) none 5 false true), (AOp.mk (some 10) (AK.mv (AX.t 39)) none 6 false true)]) (AC.seq (AC.ops [(AOp.mk (some 40) (AK.mv (AX.t 2)) none 0 false true), (AOp.mk (some 41) (AK.bin false BinOp.eql (AX.t 40) (AX.c (PV.val (Value.int IntKind.i64 0)))) none 1 false true), (AOp.mk (some 42) (AK.mv (AX.t 41)) none 2 false true), (AOp.mk (some 43) (AK.mv (AX.t 4)) (some (42, true)) 3 false true), (AOp.mk (some 44) (AK.bin false BinOp.eql (AX.t 43) (AX.c (PV.val (Value.int IntKind.i64 0)))) (some (42, true)) 4 false true), (AOp.mk (some 45) (AK.pick (AX.t 42) (AX.t 44) (AX.c (PV.val (Value.bool false)))) none 5 false true), (AOp.mk (some 46) (AK.mv (AX.t 45)) none 6 false true), (AOp.mk (some 47) (AK.mv (AX.t 6)) (some (46, true)) 7 false true), (AOp.mk (some 48) (AK.bin false BinOp.eql (AX.t 47) (AX.c (PV.val (Value.int IntKind.i64 0)))) (some (46, true)) 8 false true), (AOp.mk (some 49) (AK.pick (AX.t 46) (AX.t 48) (AX.c (PV.val (Value.bool false)))) none 9 false true), (AOp.mk (some 50) (AK.mv (AX.t 49)) none 10 false true), (AOp.mk (some 51) (AK.mv (AX.t 8)) (some (50, true)) 11 false true), (AOp.mk (some 52) (AK.bin false BinOp.eql (AX.t 51) (AX.c (PV.val (Value.int IntKind.i64 0)))) (some (50, true)) 12 false true), (AOp.mk (some 53) (AK.pick (AX.t 50) (AX.t 52) (AX.c (PV.val (Value.bool false)))) none 13 false true), (AOp.mk (some 54) (AK.mv (AX.t 53)) none 14 false true), (AOp.mk (some 55) (AK.mv (AX.t 10)) (some (54, true)) 15 false true), (AOp.mk (some 56) (AK.bin false BinOp.eql (AX.t 55) (AX.c (PV.val (Value.int IntKind.i64 0)))) (some (54, true)) 16 false true), (AOp.mk (some 57) (AK.pick (AX.t 54) (AX.t 56) (AX.c (PV.val (Value.bool false)))) none 17 false true), (AOp.mk (some 58) (AK.mv (AX.t 57)) none 18 false true), (AOp.mk (some 59) (AK.mv (AX.t 1)) (some (58, true)) 19 false true), (AOp.mk (some 60) (AK.bslice false 3 1 3 [(PV.val (Value.int IntKind.i64 0))] [(0, (1, (AX.c (PV.val (Value.int IntKind.i64 0))))), (1, (1, (AX.c (PV.val (Value.int IntKind.i64 1))))), (2, (1, (AX.c (PV.val (Value.int IntKind.i64 2)))))]) (some (58, true)) 20 false true), (AOp.mk (some 61) (AK.call 15 [(AX.t 59), (AX.t 60)]) (some (58, true)) 21 false true), (AOp.mk (some 62) (AK.pick (AX.t 58) (AX.t 61) (AX.c (PV.val (Value.bool false)))) none 22 false true), (AOp.mk (some 63) (AK.mv (AX.t 62)) none 23 false true), (AOp.mk (some 64) (AK.mv (AX.t 3)) (some (63, true)) 24 false true), (AOp.mk (some 65) (AK.bslice false 3 1 2 [(PV.val (Value.int IntKind.i64 0))] [(0, (1, (AX.c (PV.val (Value.int IntKind.i64 0))))), (1, (1, (AX.c (PV.val (Value.int IntKind.i64 2)))))]) (some (63, true)) 25 false true), (AOp.mk (some 66) (AK.call 15 [(AX.t 64), (AX.t 65)]) (some (63, true)) 26 false true), (AOp.mk (some 67) (AK.pick (AX.t 63) (AX.t 66) (AX.c (PV.val (Value.bool false)))) none 27 false true), (AOp.mk (some 68) (AK.mv (AX.t 67)) none 28 false true), (AOp.mk (some 69) (AK.mv (AX.t 5)) (some (68, true)) 29 false true), (AOp.mk (some 70) (AK.bslice false 3 1 1 [(PV.val (Value.int IntKind.i64 0))] [(0, (1, (AX.c (PV.val (Value.int IntKind.i64 1)))))]) (some (68, true)) 30 false true), (AOp.mk (some 71) (AK.call 15 [(AX.t 69), (AX.t 70)]) (some (68, true)) 31 false true), (AOp.mk (some 72) (AK.pick (AX.t 68) (AX.t 71) (AX.c (PV.val (Value.bool false)))) none 32 false true), (AOp.mk (some 73) (AK.mv (AX.t 72)) none 33 false true), (AOp.mk (some 74) (AK.mv (AX.t 7)) (some (73, true)) 34 false true), (AOp.mk (some 75) (AK.pick (AX.t 73) (AX.t 74) (AX.c (PV.val (Value.bool false)))) none 35 false true), (AOp.mk (some 76) (AK.mv (AX.t 75)) none 36 false true), (AOp.mk (some 77) (AK.mv (AX.t 9)) (some (76, true)) 37 false true), (AOp.mk (some 78) (AK.bslice false 3 1 2 [(PV.val (Value.int IntKind.i64 0))] [(0, (1, (AX.c (PV.val (Value.int IntKind.i64 0))))), (1, (1, (AX.c (PV.val (Value.int IntKind.i64 1)))))]) (some (76, true)) 38 false true), (AOp.mk (some 79) (AK.call 15 [(AX.t 77), (AX.t 78)]) (some (76, true)) 39 false true), (AOp.mk (some 80) (AK.pick (AX.t 76) (AX.t 79) (AX.c (PV.val (Value.bool false)))) none 40 false true), (AOp.mk (some 0) (AK.mv (AX.t 80)) none 41 false true)]) AC.ret)))))))
theorem ac5_ok : cCode Tryz.prog (fun _ => false) Tryz.f5.ntmps (Tryz.f5.body.getD .skip) = some ac5 := by kernel_rfl
def pairB (b : DBook) (h u t : Nat) : Mk.MBook := ⟨[rotL (b.horses.getD h []) t, b.horses.getD u []], [], 0, 0⟩
theorem row_at {b : DBook} (ho : okBook b) {h : Nat} (hh : h < b.horses.length) : (b.horses.getD h []).length = nR b ∧ ∀ x ∈ b.horses.getD h [], 1 ≤ x ∧ x ≤ 15 := by
  have e : b.horses.getD h [] = b.horses[h] := by rw [List.getD_eq_getElem?_getD, List.getElem?_eq_getElem hh]; rfl
  rw [e]
  have H := ho.2.2 _ (List.getElem_mem hh)
  have := (okR ho).2.2
  exact ⟨by have := H.1; omega, H.2⟩
def herdB : DBook := ⟨3, [[1, 2, 4], [2, 4, 1], [1, 2, 6]]⟩
theorem PVle.rowsK {k : SK} {sz : Nat} {l r : List (List PV)} (h : PVleR l r) : PVle (.sl k sz l) (.sl k sz r) := fun g v hv => by
  obtain ⟨h1, h2⟩ := h.spec
  cases hv with
  | sl _ _ _ ad n c f hl hn hc hm hk hz hat hh =>
    refine .sl k sz r ad n c f (by omega) hn hc hm hk (fun i e he => ?_) hat (fun i j e x he hx => ?_)
    · have hi : i < l.length := by rw [h1]; exact (List.getElem?_eq_some_iff.1 he).1
      rw [← (h2 i _ e (List.getElem?_eq_getElem hi) he).spec.1]
      exact hz i _ (List.getElem?_eq_getElem hi)
    · have hi : i < l.length := by rw [h1]; exact (List.getElem?_eq_some_iff.1 he).1
      obtain ⟨h3, h4⟩ := (h2 i _ e (List.getElem?_eq_getElem hi) he).spec
      have hj : j < l[i].length := by rw [h3]; exact (List.getElem?_eq_some_iff.1 hx).1
      exact h4 j _ x (List.getElem?_eq_getElem hj) hx g _ (hh i j _ _ (List.getElem?_eq_getElem hi) (List.getElem?_eq_getElem hj))
theorem herd_sem : Sem1 19 [] (.agg (bookC .full herdB)) := by
  refine semC_of_exec' mixed Tryz.func19 (by kernel_rfl) (by kernel_rfl) ac19_ok 0 rfl (by decide) [(.cell 0 24)] (by kernel_rfl) ?_
  intro hr C hC hI
  unfold ac19
  simp only [go_sem, Nat.reduceBEq, Nat.reduceAdd, Nat.reduceLeDiff]
  refine retQ_cell_le (n := some 2) (by kernel_rfl) rfl ?_ rfl
  exact PVle.agg (show PVleL [_, _] [_, _] from ⟨PVle.refl _, PVle.rowsK (show PVleR [_, _, _] [_, _, _] from ⟨⟨PVle.sh _ _ _, trivial⟩, ⟨PVle.sh _ _ _, trivial⟩, ⟨PVle.sh _ _ _, trivial⟩, trivial⟩), trivial⟩)
set_option maxRecDepth 100000 in
theorem ev_whose : Sem1 9 [.agg (bookC .full herdB), pis [0, 1, 2]] (.tup [pis [0, 1, 2], pi 0]) :=
  (Whose_sem .full herdB [0, 1, 2]).mono fun _ h => h.trans (by kernel_rfl)
theorem ev_turns : Sem1 20 [.agg (bookC .full herdB), pi 0, pi 1] (.tup [pis [1], pi 0]) :=
  (Turns_sem .full herdB 0 1).mono fun _ h => h.trans (by kernel_rfl)
theorem ev_drop : Sem1 22 [.agg (bookC .full herdB)] (.tup [pis [0, 1], pi 0]) :=
  (Drop_sem .full herdB).mono fun _ h => h.trans (by kernel_rfl)
set_option maxRecDepth 100000 in
theorem ev_who : Sem1 10 [.agg (Mk.bookC .full .sh (stB herdB [0, 1, 2]))] (.tup [pis [0, 2], pi 0]) :=
  (Mk.Who_sem .full .sh (stB herdB [0, 1, 2])).mono fun _ h => h.trans (by kernel_rfl)
theorem ev_told : Sem1 21 [.agg (Mk.bookC .full .sh (stB herdB [])), pi 0, pi 1] (.tup [pb true, pi 0]) :=
  (Mk.Told_sem .full .sh (stB herdB []) 0 1).mono fun _ h => h.trans (by kernel_rfl)
theorem Equal_lit (k : SK) (l m : List Int) : PVleL [pis l, .sl k 1 (m.map fun x => [pi x])] [pis l, pis m] := ⟨PVle.refl _, PVle.sh _ _ _, trivial⟩
set_option maxRecDepth 100000 in
theorem told_sem : Sem1 5 [] (pb true) := by
  refine semC_of_exec' mixed Tryz.func5 (by kernel_rfl) (by kernel_rfl) ac5_ok 0 rfl (by decide) [(.tmp 0)] (by kernel_rfl) ?_
  intro hr C hC hI
  unfold ac5
  simp only [go_sem]
  refine call_pure2 hC (herd_sem) rfl (PVleL_refl _) ?_
  rintro r rfl
  simp only [go_sem, Nat.reduceBEq, Nat.reduceAdd, Nat.reduceLeDiff]
  refine call_pure2 hC (ev_whose) rfl ⟨PVle.refl _, PVle.sh _ _ _, trivial⟩ ?_
  rintro r rfl
  simp only [go_sem, Nat.reduceBEq]
  refine call_pure2 hC (herd_sem) rfl (PVleL_refl _) ?_
  rintro r rfl
  simp only [go_sem, Nat.reduceBEq, Nat.reduceAdd, Nat.reduceLeDiff]
  refine call_pure2 hC (stable_sem .full herdB [0, 1, 2] (by unfold Mk.fiveL; simp) (by simp)) rfl ⟨PVle.refl _, PVle.sh _ _ _, trivial⟩ ?_
  rintro r rfl
  simp only [go_sem, Nat.reduceBEq]
  refine call_pure2 hC (ev_who) rfl (PVleL_refl _) ?_
  rintro r rfl
  simp only [go_sem, Nat.reduceBEq]
  refine call_pure2 hC (herd_sem) rfl (PVleL_refl _) ?_
  rintro r rfl
  simp only [go_sem, Nat.reduceBEq]
  refine call_pure2 hC (ev_turns) rfl (PVleL_refl _) ?_
  rintro r rfl
  simp only [go_sem, Nat.reduceBEq]
  refine call_pure2 hC (herd_sem) rfl (PVleL_refl _) ?_
  rintro r rfl
  simp only [go_sem, Nat.reduceBEq]
  refine call_pure2 hC (stable_sem .full herdB [] (by unfold Mk.fiveL; simp) (by simp)) rfl ⟨PVle.refl _, PVle.nil _ _ _, trivial⟩ ?_
  rintro r rfl
  simp only [go_sem, Nat.reduceBEq]
  refine call_pure2 hC (ev_told) rfl (PVleL_refl _) ?_
  rintro r rfl
  simp only [go_sem, Nat.reduceBEq]
  refine call_pure2 hC (herd_sem) rfl (PVleL_refl _) ?_
  rintro r rfl
  simp only [go_sem, Nat.reduceBEq]
  refine call_pure2 hC (ev_drop) rfl (PVleL_refl _) ?_
  rintro r rfl
  simp only [go_sem, Nat.reduceBEq, Nat.reduceAdd, Nat.reduceLeDiff, decide_true]
  refine call_pure2 hC (Equal_sem [0, 1, 2] [0, 1, 2]) rfl (Equal_lit .full _ [0, 1, 2]) ?_
  rintro r rfl
  simp only [go_sem, Nat.reduceBEq, Nat.reduceAdd, Nat.reduceLeDiff, decide_true]
  refine call_pure2 hC (Equal_sem [0, 2] [0, 2]) rfl (Equal_lit .full _ [0, 2]) ?_
  rintro r rfl
  simp only [go_sem, Nat.reduceBEq, decide_true]
  refine call_pure2 hC (Equal_sem [1] [1]) rfl (Equal_lit .full _ [1]) ?_
  rintro r rfl
  simp only [go_sem, Nat.reduceBEq, Nat.reduceAdd, Nat.reduceLeDiff, decide_true]
  refine call_pure2 hC (Equal_sem [0, 1] [0, 1]) rfl (Equal_lit .full _ [0, 1]) ?_
  rintro r rfl
  simp only [go_sem, Nat.reduceBEq, decide_true]
  exact retQ_one rfl rfl
end Go.Proofs.YtlbolnlcncjijaaGreat.Tp
namespace Go.Proofs.YtlbolnlcncjijaaGreat
open Go.RowKit
def sufs : Nat → List (List Int)
  | 0 => [[]]
  | r + 1 => (List.range 4).flatMap fun (s : Nat) => (sufs r).map fun t => (s : Int) :: t
def leftF (w : Nat → Nat → Nat) : Nat → List Int → Nat → Nat
  | _, [], m => m
  | p, s :: t, m => leftF w (p + 1) t (m &&& w p s.toNat)
theorem filter_flat {α β : Type} (p : β → Bool) (f : α → List β) : ∀ l : List α, (l.flatMap f).filter p = l.flatMap fun x => (f x).filter p
  | [] => rfl
  | x :: l => by rw [List.flatMap_cons, List.flatMap_cons, List.filter_append, filter_flat p f l]
theorem map_flat {α β γ : Type} (g : β → γ) (f : α → List β) : ∀ l : List α, (l.flatMap f).map g = l.flatMap fun x => (f x).map g
  | [] => rfl
  | x :: l => by rw [List.flatMap_cons, List.flatMap_cons, List.map_append, map_flat g f l]
theorem freeF_eq (w : Nat → Nat → Nat) : ∀ (r : Nat) (l : List Int) (m : Nat), freeF w r l m = ((sufs r).filter fun t => decide (leftF w l.length t m = 0)).map fun t => l ++ t
  | 0, l, m => by
    unfold freeF sufs
    by_cases h : m = 0
    · simp [leftF, h]
    · simp [leftF, h]
  | r + 1, l, m => by
    unfold freeF sufs
    rw [filter_flat, map_flat]
    congr 1
    funext s
    rw [freeF_eq w r, List.filter_map, List.map_map, List.length_append, List.length_singleton]
    have e : (fun t => decide (leftF w l.length t m = 0)) ∘ (fun t => (s : Int) :: t) = fun t => decide (leftF w (l.length + 1) t (m &&& w l.length s) = 0) := by
      funext t
      show decide (leftF w (l.length + 1) t (m &&& w l.length ((s : Int).toNat)) = 0) = _
      rw [Int.toNat_natCast]
    rw [e]
    congr 1
    funext t
    simp
theorem mem_sufs : ∀ {r : Nat} {t : List Int}, t ∈ sufs r ↔ t.length = r ∧ ∀ x ∈ t, 0 ≤ x ∧ x ≤ 3
  | 0, t => by
    unfold sufs
    rw [List.mem_singleton]
    constructor
    · rintro rfl; simp
    · rintro ⟨h, -⟩; exact List.eq_nil_of_length_eq_zero h
  | r + 1, t => by
    unfold sufs
    rw [List.mem_flatMap]
    constructor
    · rintro ⟨s, hs, ht⟩
      obtain ⟨u, hu, rfl⟩ := List.mem_map.1 ht
      obtain ⟨h1, h2⟩ := mem_sufs.1 hu
      have hs := List.mem_range.1 hs
      refine ⟨by simp [h1], fun x hx => ?_⟩
      rcases List.mem_cons.1 hx with rfl | hx
      · omega
      · exact h2 x hx
    · rintro ⟨h1, h2⟩
      cases t with
      | nil => simp at h1
      | cons x u =>
        have hx := h2 x (by simp)
        refine ⟨x.toNat, List.mem_range.2 (by omega), List.mem_map.2 ⟨u, mem_sufs.2 ⟨by simpa using h1, fun y hy => h2 y (by simp [hy])⟩, ?_⟩⟩
        rw [show ((x.toNat : Nat) : Int) = x by omega]
theorem sufs_pw : ∀ r : Nat, (sufs r).Pairwise fun a b => lexB a b = true
  | 0 => by unfold sufs; exact List.pairwise_singleton _ _
  | r + 1 => by
    unfold sufs
    rw [List.pairwise_flatMap]
    constructor
    · intro s _
      rw [List.pairwise_map]
      exact (sufs_pw r).imp fun {a b} h => by simp [lexB, h]
    · refine (List.pairwise_lt_range (n := 4)).imp fun {a b} hab x hx y hy => ?_
      obtain ⟨u, -, rfl⟩ := List.mem_map.1 hx
      obtain ⟨v, -, rfl⟩ := List.mem_map.1 hy
      simp only [lexB]
      rw [if_neg (by omega)]
      simp; omega
theorem left_bit (w : Nat → Nat → Nat) (q : Nat) : ∀ (t : List Int) (p m : Nat), (leftF w p t m).testBit q = true ↔ m.testBit q = true ∧ ∀ i, i < t.length → (w (p + i) (t.getD i 0).toNat).testBit q = true
  | [], p, m => by simp [leftF]
  | s :: t, p, m => by
    unfold leftF
    rw [left_bit w q t, Nat.testBit_and, Bool.and_eq_true]
    constructor
    · rintro ⟨⟨h1, h2⟩, h3⟩
      refine ⟨h1, fun i hi => ?_⟩
      cases i with
      | zero => simpa using h2
      | succ i =>
        have := h3 i (by simpa using hi)
        rw [show p + 1 + i = p + (i + 1) by omega] at this
        simpa using this
    · rintro ⟨h1, h2⟩
      refine ⟨⟨h1, by simpa using h2 0 (by simp)⟩, fun i hi => ?_⟩
      have := h2 (i + 1) (by simpa using hi)
      rw [show p + (i + 1) = p + 1 + i by omega] at this
      simpa using this
theorem own_bit {b : DBook} (p s q : Nat) : ∀ (l : List (Nat × Nat)) (m : Nat), (l.foldl (addO b p s) m).testBit q = true ↔ m.testBit q = true ∨ ∃ v ∈ l, ownK v = q ∧ hasS ((rowL b v.1 v.2).getD p 0) s = true
  | [], m => by simp
  | v :: l, m => by
    rw [List.foldl_cons, own_bit p s q l]
    have e : (addO b p s m v).testBit q = true ↔ m.testBit q = true ∨ (ownK v = q ∧ hasS ((rowL b v.1 v.2).getD p 0) s = true) := by
      unfold addO
      split
      · rename_i h
        rw [Nat.testBit_or, Bool.or_eq_true, Nat.testBit_two_pow, decide_eq_true_eq]
        exact or_congr Iff.rfl ⟨fun e => ⟨e, h⟩, fun e => e.1⟩
      · rename_i h
        exact ⟨.inl, fun e => e.elim id fun e => absurd e.2 h⟩
    rw [e]
    simp only [List.mem_cons, exists_eq_or_imp]
    exact or_assoc
theorem ownW_bit {b : DBook} (p s q : Nat) : (ownW b p s).testBit q = true ↔ ∃ v ∈ viewsL b, ownK v = q ∧ hasS ((rowL b v.1 v.2).getD p 0) s = true := by
  unfold ownW ownF
  rw [List.take_length, own_bit]
  simp
theorem mem_views2 {b : DBook} {v : Nat × Nat} (h : v ∈ viewsL b) : v.1 < b.horses.length ∧ v.2 < nR b := by
  obtain ⟨i, hi, rfl⟩ := List.mem_iff_getElem.1 h
  obtain ⟨hh, t, e, h1, h2⟩ := views_get hi
  rw [e]
  exact ⟨h1, h2⟩
theorem ownK_inj {b : DBook} (ho : okBook b) {v u : Nat × Nat} (hv : v ∈ viewsL b) (hu : u ∈ viewsL b) (h : ownK v = ownK u) : v = u := by
  have h8 := (okR ho).2.1
  have := mem_views2 hv
  have := mem_views2 hu
  unfold ownK at h
  exact Prod.ext (by omega) (by omega)
def hasR (b : DBook) (h t : Nat) (r : List Int) : Prop := ∀ p, p < nR b → hasS (rowI b h t p) (r.getD p 0).toNat = true
theorem left_zero {b : DBook} (ho : okBook b) {r : List Int} (hl : r.length = nR b) : leftF (ownW b) 0 r (2 ^ 64 - 1) = 0 ↔ ∀ h t, h < b.horses.length → t < nR b → ¬ hasR b h t r := by
  obtain ⟨h1, h8, hn⟩ := okR ho
  constructor
  · intro h0 h t hh ht hr
    have hv := mem_views hh ht
    have hb : (leftF (ownW b) 0 r (2 ^ 64 - 1)).testBit (ownK (h, t)) = true := by
      rw [left_bit]
      refine ⟨?_, fun i hi => ?_⟩
      · rw [Nat.testBit_two_pow_sub_one]; exact decide_eq_true (ownK_lt ho hv)
      · rw [ownW_bit]
        refine ⟨(h, t), hv, rfl, ?_⟩
        rw [Nat.zero_add, rowL_get ho (by omega)]
        exact hr i (by omega)
    rw [h0, Nat.zero_testBit] at hb
    cases hb
  · intro H
    apply Nat.eq_of_testBit_eq
    intro q
    rw [Nat.zero_testBit, Bool.eq_false_iff]
    intro hb
    obtain ⟨hq, hall⟩ := (left_bit _ _ _ _ _).1 hb
    obtain ⟨v, hv, e, -⟩ := (ownW_bit _ _ _).1 (hall 0 (by omega))
    obtain ⟨hh, ht⟩ := mem_views2 hv
    refine H v.1 v.2 hh ht fun p hp => ?_
    obtain ⟨u, hu, e2, hs⟩ := (ownW_bit _ _ _).1 (hall p (by omega))
    have : u = v := ownK_inj ho hu hv (e2.trans e.symm)
    subst this
    rw [Nat.zero_add, rowL_get ho hp] at hs
    exact hs
theorem known_get {r : List Int} {q : Nat} (hq : q < r.length) (h8 : r.length ≤ 8) : (knownN r).getD q 0 = 2 ^ (r.getD q 0).toNat := by
  unfold knownN arrN
  rw [List.getD_eq_getElem?_getD, List.getElem?_map, List.getElem?_range (by omega)]
  show (if q < r.length then (2 : Int) ^ (r.getD q 0).toNat else 0) = _
  rw [if_pos hq]
theorem whose_iff {b : DBook} (ho : okBook b) {r : List Int} (hl : r.length = nR b) {h : Nat} : whoseP b (knownN r) h = true ↔ ∃ t, t < nR b ∧ hasR b h t r := by
  obtain ⟨h1, h8, hn⟩ := okR ho
  unfold whoseP
  rw [Bool.not_eq_true', List.isEmpty_eq_false_iff]
  have key : ∀ t, t < nR b → (fitB b meetB h (knownN r) t = true ↔ hasR b h t r) := by
    intro t _
    unfold fitB hasR
    rw [List.all_eq_true]
    constructor
    · intro H p hp
      have := H p (List.mem_range.2 hp)
      rw [known_get (by omega) (by omega)] at this
      exact this
    · intro H p hp
      have hp := List.mem_range.1 hp
      rw [known_get (by omega) (by omega)]
      exact H p hp
  unfold turnsP
  constructor
  · intro hne
    obtain ⟨t, ht⟩ := List.exists_mem_of_ne_nil _ hne
    rw [List.mem_filter, List.mem_range] at ht
    exact ⟨t, ht.1, (key t ht.1).1 ht.2⟩
  · rintro ⟨t, ht, hr⟩
    exact List.ne_nil_of_mem (List.mem_filter.2 ⟨List.mem_range.2 ht, (key t ht).2 hr⟩)
theorem mem_whose {b : DBook} {g : List Int} {h : Nat} : h ∈ whoseI b g ↔ h < b.horses.length ∧ whoseP b g h = true := by
  unfold whoseI
  rw [List.mem_filter, List.mem_range]
theorem whose_nil {b : DBook} (ho : okBook b) {r : List Int} (hl : r.length = nR b) : whoseI b (knownN r) = [] ↔ leftF (ownW b) 0 r (2 ^ 64 - 1) = 0 := by
  rw [left_zero ho hl, List.eq_nil_iff_forall_not_mem]
  constructor
  · intro H h t hh ht hr
    exact H h (mem_whose.2 ⟨hh, (whose_iff ho hl).2 ⟨t, ht, hr⟩⟩)
  · intro H h hm
    obtain ⟨hh, hw⟩ := mem_whose.1 hm
    obtain ⟨t, ht, hr⟩ := (whose_iff ho hl).1 hw
    exact H h t hh ht hr
theorem free_eq {b : DBook} (ho : okBook b) : freeL b = (sufs (nR b)).filter fun t => decide (whoseI b (knownN t) = []) := by
  unfold freeL
  rw [freeF_eq]
  simp only [List.length_nil, List.nil_append, List.map_id']
  refine List.filter_congr fun t ht => ?_
  rw [decide_eq_decide]
  exact (whose_nil ho (mem_sufs.1 ht).1).symm
theorem free_first {b : DBook} (ho : okBook b) {z : List Int} {zs : List (List Int)} (h : freeL b = z :: zs) : z ∈ sufs (nR b) ∧ whoseI b (knownN z) = [] ∧ ∀ t ∈ sufs (nR b), lexB t z = true → whoseI b (knownN t) ≠ [] := by
  rw [free_eq ho, List.filter_eq_cons_iff] at h
  obtain ⟨l1, l2, e, h1, h2, -⟩ := h
  have hp := sufs_pw (nR b)
  rw [e] at hp ⊢
  refine ⟨by simp, by simpa using h2, fun t ht hlt => ?_⟩
  rcases List.mem_append.1 ht with ht | ht
  · have := h1 t ht; simpa using this
  · exfalso
    rcases List.mem_cons.1 ht with rfl | ht
    · rw [lexB_irr] at hlt; cases hlt
    · rw [List.pairwise_append] at hp
      have := (List.pairwise_cons.1 hp.2.1).1 t ht
      have := lexB_trans this hlt
      rw [lexB_irr] at this; cases this
end Go.Proofs.YtlbolnlcncjijaaGreat
