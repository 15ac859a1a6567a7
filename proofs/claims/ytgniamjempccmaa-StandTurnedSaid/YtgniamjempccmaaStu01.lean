/- StandWrong. StandRoom. -/
import Derived.Test.YtgniamjempccmaaGa23
import Derived.Test.YtgniamjempccmaaGa20
namespace Go.Proofs.Ytgniamjempccmaa
open Go.RowKit
def ac48 : AC := (AC.seq (AC.ops [(AOp.mk (some 1) (AK.box 10 (AX.t 0)) none 0 false true), (AOp.mk (some 2) (AK.new (PV.agg [(PV.val (Value.int IntKind.i64 0)), (PV.val (Value.int IntKind.i64 0)), (PV.val (Value.int IntKind.i64 0)), (PV.val (Value.int IntKind.i64 0)), (PV.sl SK.full 0 []), (PV.val (Value.int IntKind.i64 0)), (PV.val (Value.int IntKind.i64 0)), (PV.val (Value.int IntKind.i64 0)), (PV.val (Value.int IntKind.i64 0)), (PV.sl SK.full 0 [])])) none 1 false true)]) (AC.seq (AC.ops [(AOp.mk (some 4) (AK.ld (some 10) (AX.t 1)) none 0 false true), (AOp.mk (some 3) (AK.new (PV.agg [(PV.val (Value.int IntKind.i64 0)), (PV.val (Value.int IntKind.i64 0)), (PV.val (Value.int IntKind.i64 0)), (PV.val (Value.int IntKind.i64 0)), (PV.sl SK.full 0 []), (PV.val (Value.int IntKind.i64 0)), (PV.val (Value.int IntKind.i64 0)), (PV.val (Value.int IntKind.i64 0)), (PV.val (Value.int IntKind.i64 0)), (PV.sl SK.full 0 [])])) none 1 false true), (AOp.mk none (AK.st 10 (AX.t 3) (AX.t 4)) none 2 false true)]) (AC.seq (AC.ops [(AOp.mk (some 5) (AK.fadr 9 (AX.t 3)) none 0 false true), (AOp.mk none (AK.st 1 (AX.t 5) (AX.c (PV.sl SK.full 0 []))) none 1 false true)]) (AC.seq (AC.ops [(AOp.mk (some 6) (AK.ld (some 10) (AX.t 3)) none 0 false true), (AOp.mk none (AK.st 10 (AX.t 2) (AX.t 6)) none 1 false true)]) AC.ret))))
theorem ac48_ok : cCode Try.prog (fun _ => false) Try.f48.ntmps (Try.f48.body.getD .skip) = some ac48 := by kernel_rfl
def ac52 : AC := (AC.seq (AC.ops [(AOp.mk (some 2) (AK.box 10 (AX.t 0)) none 0 false true), (AOp.mk (some 4) (AK.new (PV.agg [(PV.val (Value.int IntKind.i64 0)), (PV.val (Value.int IntKind.i64 0)), (PV.val (Value.int IntKind.i64 0)), (PV.val (Value.int IntKind.i64 0)), (PV.sl SK.full 0 []), (PV.val (Value.int IntKind.i64 0)), (PV.val (Value.int IntKind.i64 0)), (PV.val (Value.int IntKind.i64 0)), (PV.val (Value.int IntKind.i64 0)), (PV.sl SK.full 0 [])])) none 1 false true)]) (AC.seq (AC.ops [(AOp.mk (some 7) (AK.ld (some 10) (AX.t 2)) none 0 false true), (AOp.mk (some 5) (AK.new (PV.agg [(PV.val (Value.int IntKind.i64 0)), (PV.val (Value.int IntKind.i64 0)), (PV.val (Value.int IntKind.i64 0)), (PV.val (Value.int IntKind.i64 0)), (PV.sl SK.full 0 []), (PV.val (Value.int IntKind.i64 0)), (PV.val (Value.int IntKind.i64 0)), (PV.val (Value.int IntKind.i64 0)), (PV.val (Value.int IntKind.i64 0)), (PV.sl SK.full 0 [])])) none 1 false true), (AOp.mk none (AK.st 10 (AX.t 5) (AX.t 7)) none 2 false true)]) (AC.seq (AC.ops [(AOp.mk (some 8) (AK.fadr 9 (AX.t 5)) none 0 false true), (AOp.mk none (AK.st 1 (AX.t 8) (AX.c (PV.sl SK.full 0 []))) none 1 false true)]) (AC.seq (AC.seq (AC.ops [(AOp.mk (some 6) (AK.mv (AX.c (PV.val (Value.int IntKind.i64 0)))) none 0 false true)]) (AC.block 0 (AC.loop (AC.seq (AC.seq (AC.ops [(AOp.mk (some 9) (AK.mv (AX.t 6)) none 0 false true), (AOp.mk (some 10) (AK.fadr 9 (AX.t 2)) none 1 false true), (AOp.mk (some 11) (AK.ld none (AX.t 10)) none 2 false true), (AOp.mk (some 12) (AK.len (AX.t 11)) none 3 false true), (AOp.mk (some 13) (AK.bin false BinOp.lss (AX.t 9) (AX.t 12)) none 4 false true)]) (AC.cond (AX.t 13) AC.skip (AC.exit 0))) (AC.seq (AC.block 1 (AC.seq (AC.ops [(AOp.mk (some 16) (AK.mv (AX.t 1)) none 0 false true), (AOp.mk (some 17) (AK.mv (AX.t 6)) none 1 false true), (AOp.mk (some 18) (AK.call 95 [(AX.t 16), (AX.t 17)]) none 2 false true), (AOp.mk (some 19) (AK.bin false BinOp.lss (AX.t 18) (AX.c (PV.val (Value.int IntKind.i64 0)))) none 3 false true)]) (AC.cond (AX.t 19) (AC.ops [(AOp.mk (some 20) (AK.fadr 9 (AX.t 5)) none 0 true false), (AOp.mk (some 21) (AK.ld none (AX.t 20)) none 1 true false), (AOp.mk (some 22) (AK.fadr 9 (AX.t 2)) none 2 true false), (AOp.mk (some 23) (AK.ld none (AX.t 22)) none 3 true false), (AOp.mk (some 24) (AK.mv (AX.t 6)) none 4 true false), (AOp.mk (some 25) (AK.iadrS 3 (AX.t 23) (AX.t 24)) none 5 true false), (AOp.mk (some 26) (AK.ld (some 3) (AX.t 25)) none 6 true false), (AOp.mk (some 27) (AK.bslice false 65 3 1 [(PV.val (Value.int IntKind.i64 0)), (PV.val (Value.int IntKind.i64 0)), (PV.val (Value.bool false))] [(0, (3, (AX.t 26)))]) none 7 false false), (AOp.mk (some 28) (AK.app false 65 3 24 [(PV.val (Value.int IntKind.i64 0)), (PV.val (Value.int IntKind.i64 0)), (PV.val (Value.bool false))] (AX.t 21) (AX.t 27)) none 8 false false), (AOp.mk (some 29) (AK.fadr 9 (AX.t 5)) none 9 true false), (AOp.mk none (AK.st 1 (AX.t 29) (AX.t 28)) none 10 false true)]) AC.skip))) (AC.ops [(AOp.mk (some 14) (AK.mv (AX.t 6)) none 0 false true), (AOp.mk (some 15) (AK.bin false BinOp.add (AX.t 14) (AX.c (PV.val (Value.int IntKind.i64 1)))) none 1 false true), (AOp.mk (some 6) (AK.mv (AX.t 15)) none 2 false true)])))))) (AC.seq (AC.ops [(AOp.mk (some 30) (AK.ld (some 10) (AX.t 5)) none 0 false true), (AOp.mk none (AK.st 10 (AX.t 4) (AX.t 30)) none 1 false true)]) AC.ret)))))
theorem ac52_ok : cCode Try.prog (fun _ => false) Try.f52.ntmps (Try.f52.body.getD .skip) = some ac52 := by kernel_rfl
def ac14 : AC := (AC.seq (AC.ops [(AOp.mk (some 2) (AK.box 10 (AX.t 0)) none 0 false true), (AOp.mk (some 4) (AK.mv (AX.c (PV.val (Value.bool false)))) none 1 false true)]) (AC.seq (AC.ops [(AOp.mk (some 15) (AK.ld (some 10) (AX.t 2)) none 0 false true), (AOp.mk (some 16) (AK.call 35 [(AX.t 15)]) none 1 false true), (AOp.mk (some 14) (AK.mv (AX.t 16)) none 2 false true), (AOp.mk (some 17) (AK.ext (AX.t 14) 0) none 3 false true), (AOp.mk (some 18) (AK.ext (AX.t 14) 1) none 4 false true), (AOp.mk (some 5) (AK.mv (AX.t 17)) none 5 false true), (AOp.mk (some 6) (AK.mv (AX.t 18)) none 6 false true)]) (AC.seq (AC.seq (AC.ops [(AOp.mk (some 19) (AK.ld (some 10) (AX.t 2)) none 0 false true), (AOp.mk (some 20) (AK.call 38 [(AX.t 19)]) none 1 false true), (AOp.mk (some 21) (AK.un UnOp.not (AX.t 20)) none 2 false true)]) (AC.cond (AX.t 21) (AC.seq (AC.ops [(AOp.mk (some 22) (AK.mv (AX.t 6)) none 0 false true), (AOp.mk (some 23) (AK.bin false BinOp.eql (AX.t 22) (AX.c (PV.val (Value.int IntKind.i64 20)))) none 1 false true), (AOp.mk (some 24) (AK.mv (AX.t 23)) none 2 false true), (AOp.mk (some 25) (AK.mv (AX.t 5)) (some (24, true)) 3 false true), (AOp.mk (some 26) (AK.len (AX.t 25)) (some (24, true)) 4 false true), (AOp.mk (some 27) (AK.bin false BinOp.eql (AX.t 26) (AX.c (PV.val (Value.int IntKind.i64 0)))) (some (24, true)) 5 false true), (AOp.mk (some 28) (AK.pick (AX.t 24) (AX.t 27) (AX.c (PV.val (Value.bool false)))) none 6 false true), (AOp.mk (some 29) (AK.mv (AX.t 28)) none 7 false true), (AOp.mk (some 30) (AK.call 24 []) (some (29, true)) 8 false true), (AOp.mk (some 31) (AK.pick (AX.t 29) (AX.t 30) (AX.c (PV.val (Value.bool false)))) none 9 false true), (AOp.mk (some 4) (AK.mv (AX.t 31)) none 10 false true)]) AC.ret) AC.skip)) (AC.seq (AC.ops [(AOp.mk (some 33) (AK.ld (some 10) (AX.t 2)) none 0 false true), (AOp.mk (some 34) (AK.call 16 [(AX.t 33)]) none 1 false true), (AOp.mk (some 32) (AK.mv (AX.t 34)) none 2 false true), (AOp.mk (some 35) (AK.ext (AX.t 32) 0) none 3 false true), (AOp.mk (some 36) (AK.ext (AX.t 32) 1) none 4 false true), (AOp.mk (some 7) (AK.mv (AX.t 35)) none 5 false true), (AOp.mk (some 8) (AK.mv (AX.t 36)) none 6 false true)]) (AC.seq (AC.seq (AC.ops [(AOp.mk (some 37) (AK.mv (AX.t 6)) none 0 false true), (AOp.mk (some 38) (AK.bin false BinOp.neq (AX.t 37) (AX.c (PV.val (Value.int IntKind.i64 0)))) none 1 false true), (AOp.mk (some 39) (AK.mv (AX.t 38)) none 2 false true), (AOp.mk (some 40) (AK.mv (AX.t 8)) (some (39, false)) 3 false true), (AOp.mk (some 41) (AK.bin false BinOp.neq (AX.t 40) (AX.c (PV.val (Value.int IntKind.i64 0)))) (some (39, false)) 4 false true), (AOp.mk (some 42) (AK.pick (AX.t 39) (AX.c (PV.val (Value.bool true))) (AX.t 41)) none 5 false true), (AOp.mk (some 43) (AK.mv (AX.t 42)) none 6 false true), (AOp.mk (some 44) (AK.mv (AX.t 5)) (some (43, false)) 7 false true), (AOp.mk (some 45) (AK.fadr 9 (AX.t 2)) (some (43, false)) 8 false true), (AOp.mk (some 46) (AK.ld none (AX.t 45)) (some (43, false)) 9 false true), (AOp.mk (some 47) (AK.len (AX.t 46)) (some (43, false)) 10 false true), (AOp.mk (some 48) (AK.call 51 [(AX.t 44), (AX.t 47)]) (some (43, false)) 11 false true), (AOp.mk (some 49) (AK.un UnOp.not (AX.t 48)) (some (43, false)) 12 false true), (AOp.mk (some 50) (AK.pick (AX.t 43) (AX.c (PV.val (Value.bool true))) (AX.t 49)) none 13 false true), (AOp.mk (some 51) (AK.mv (AX.t 50)) none 14 false true), (AOp.mk (some 52) (AK.mv (AX.t 5)) (some (51, false)) 15 false true), (AOp.mk (some 53) (AK.len (AX.t 52)) (some (51, false)) 16 false true), (AOp.mk (some 54) (AK.bin false BinOp.eql (AX.t 53) (AX.c (PV.val (Value.int IntKind.i64 0)))) (some (51, false)) 17 false true), (AOp.mk (some 55) (AK.mv (AX.t 7)) (some (51, false)) 18 false true), (AOp.mk (some 56) (AK.bin true BinOp.neq (AX.t 54) (AX.t 55)) (some (51, false)) 19 false true), (AOp.mk (some 57) (AK.pick (AX.t 51) (AX.c (PV.val (Value.bool true))) (AX.t 56)) none 20 false true)]) (AC.cond (AX.t 57) (AC.seq (AC.ops [(AOp.mk (some 4) (AK.mv (AX.c (PV.val (Value.bool false)))) none 0 false true)]) AC.ret) AC.skip)) (AC.seq (AC.seq (AC.ops [(AOp.mk (some 59) (AK.ld (some 10) (AX.t 2)) none 0 false true), (AOp.mk (some 60) (AK.mv (AX.t 5)) none 1 false true), (AOp.mk (some 61) (AK.call 52 [(AX.t 59), (AX.t 60)]) none 2 false true), (AOp.mk (some 62) (AK.call 16 [(AX.t 61)]) none 3 false true), (AOp.mk (some 58) (AK.mv (AX.t 62)) none 4 false true), (AOp.mk (some 63) (AK.ext (AX.t 58) 0) none 5 false true), (AOp.mk (some 64) (AK.ext (AX.t 58) 1) none 6 false true), (AOp.mk (some 9) (AK.mv (AX.t 63)) none 7 false true), (AOp.mk (some 10) (AK.mv (AX.t 64)) none 8 false true)]) (AC.seq (AC.ops [(AOp.mk (some 65) (AK.mv (AX.t 10)) none 0 false true), (AOp.mk (some 66) (AK.bin false BinOp.neq (AX.t 65) (AX.c (PV.val (Value.int IntKind.i64 0)))) none 1 false true), (AOp.mk (some 67) (AK.mv (AX.t 66)) none 2 false true), (AOp.mk (some 68) (AK.mv (AX.t 9)) (some (67, false)) 3 false true), (AOp.mk (some 69) (AK.un UnOp.not (AX.t 68)) (some (67, false)) 4 false true), (AOp.mk (some 70) (AK.pick (AX.t 67) (AX.c (PV.val (Value.bool true))) (AX.t 69)) none 5 false true)]) (AC.cond (AX.t 70) (AC.seq (AC.ops [(AOp.mk (some 4) (AK.mv (AX.c (PV.val (Value.bool false)))) none 0 false true)]) AC.ret) AC.skip))) (AC.seq (AC.ops [(AOp.mk (some 71) (AK.mv (AX.t 1)) none 0 true false), (AOp.mk (some 72) (AK.fadr 9 (AX.t 2)) none 1 true false), (AOp.mk (some 73) (AK.ld none (AX.t 72)) none 2 true false), (AOp.mk (some 74) (AK.len (AX.t 73)) none 3 true false), (AOp.mk (some 75) (AK.bin false BinOp.shl (AX.c (PV.val (Value.int IntKind.i64 1))) (AX.t 74)) none 4 true false), (AOp.mk (some 77) (AK.fadr 9 (AX.t 2)) none 6 true false), (AOp.mk (some 78) (AK.ld none (AX.t 77)) none 7 true false), (AOp.mk (some 79) (AK.len (AX.t 78)) none 8 true false), (AOp.mk (some 76) (AK.call 41 [(AX.t 71), (AX.t 75)]) none 5 false false), (AOp.mk (some 80) (AK.call 53 [(AX.t 76), (AX.t 79)]) none 9 false false), (AOp.mk (some 11) (AK.mv (AX.t 80)) none 10 true true)]) (AC.seq (AC.seq (AC.ops [(AOp.mk (some 81) (AK.mv (AX.t 11)) none 0 false true), (AOp.mk (some 82) (AK.mv (AX.t 5)) none 1 false true), (AOp.mk (some 83) (AK.call 54 [(AX.t 81), (AX.t 82)]) none 2 false true), (AOp.mk (some 84) (AK.un UnOp.not (AX.t 83)) none 3 false true)]) (AC.cond (AX.t 84) (AC.seq (AC.ops [(AOp.mk (some 85) (AK.call 24 []) none 0 false true), (AOp.mk (some 4) (AK.mv (AX.t 85)) none 1 false true)]) AC.ret) AC.skip)) (AC.seq (AC.ops [(AOp.mk (some 87) (AK.ld (some 10) (AX.t 2)) none 0 false true), (AOp.mk (some 88) (AK.mv (AX.t 11)) none 1 false true), (AOp.mk (some 89) (AK.call 52 [(AX.t 87), (AX.t 88)]) none 2 false true), (AOp.mk (some 90) (AK.call 16 [(AX.t 89)]) none 3 false true), (AOp.mk (some 86) (AK.mv (AX.t 90)) none 4 false true), (AOp.mk (some 91) (AK.ext (AX.t 86) 0) none 5 false true), (AOp.mk (some 92) (AK.ext (AX.t 86) 1) none 6 false true), (AOp.mk (some 12) (AK.mv (AX.t 91)) none 7 false true), (AOp.mk (some 13) (AK.mv (AX.t 92)) none 8 false true)]) (AC.seq (AC.ops [(AOp.mk (some 93) (AK.mv (AX.t 13)) none 0 false true), (AOp.mk (some 94) (AK.bin false BinOp.eql (AX.t 93) (AX.c (PV.val (Value.int IntKind.i64 0)))) none 1 false true), (AOp.mk (some 95) (AK.mv (AX.t 94)) none 2 false true), (AOp.mk (some 96) (AK.mv (AX.t 12)) (some (95, true)) 3 false true), (AOp.mk (some 97) (AK.un UnOp.not (AX.t 96)) (some (95, true)) 4 false true), (AOp.mk (some 98) (AK.pick (AX.t 95) (AX.t 97) (AX.c (PV.val (Value.bool false)))) none 5 false true), (AOp.mk (some 99) (AK.mv (AX.t 98)) none 6 false true), (AOp.mk (some 100) (AK.call 24 []) (some (99, true)) 7 false true), (AOp.mk (some 101) (AK.pick (AX.t 99) (AX.t 100) (AX.c (PV.val (Value.bool false)))) none 8 false true), (AOp.mk (some 4) (AK.mv (AX.t 101)) none 9 false true)]) AC.ret))))))))))
theorem ac14_ok : cCode Try.prog (fun _ => false) Try.f14.ntmps (Try.f14.body.getD .skip) = some ac14 := by kernel_rfl
theorem plain_sem (k k2 : SK) (b : SBook) : Sem1 48 [.agg (bookC k k2 b)] (.agg (bookC k .sh (plainB b))) := by
  refine semC_of_exec' mixed Try.func48 (by kernel_rfl) (by kernel_rfl) ac48_ok 1 rfl (by decide) [(.cell 2 25)] (by kernel_rfl) ?_
  intro hr C hC hI
  unfold ac48
  simp only [go_sem, Nat.reduceBEq, Nat.reduceAdd, putCells]
  refine retQ_cell_le (n := some 10) (by kernel_rfl) rfl ?_ rfl
  exact PVle.agg ⟨PVle.refl _, PVle.refl _, PVle.refl _, PVle.refl _, PVle.refl _, PVle.refl _, PVle.refl _, PVle.refl _, PVle.refl _, PVle.nil _ _ _, trivial⟩
/-- The trials that stay, of the first ones. -/
def stayT (ts : List STrial) (l : List Int) (j : Nat) : List STrial := ((List.range j).filter fun (i : Nat) => decide ((i : Int) ∉ l)).filterMap fun i => ts[i]?
theorem stayT_succ {ts : List STrial} {l : List Int} {j : Nat} (h : j < ts.length) : stayT ts l (j + 1) = if (j : Int) ∈ l then stayT ts l j else stayT ts l j ++ [ts[j]] := by
  unfold stayT
  rw [List.range_succ, List.filter_append, List.filterMap_append]
  split
  · rename_i hm; simp [hm]
  · rename_i hm; simp [hm, List.getElem?_eq_getElem h]
theorem stayT_len (ts : List STrial) (l : List Int) (j : Nat) : (stayT ts l j).length ≤ j := by
  unfold stayT
  refine Nat.le_trans (List.length_filterMap_le ..) (Nat.le_trans (List.length_filter_le ..) (by simp))
def slT (o : Option Nat) (l : List STrial) : PV :=
  match o with
  | none => .sl .full 0 []
  | some t => .sl (.own t 65 3) 3 (l.map trialC)
theorem without_sem (k k2 : SK) (b : SBook) (l : List Int) (hb : b.trials.length ≤ 1000) : Sem1 52 [.agg (bookC k k2 b), pis l] (.agg (bookC k .sh (withoutB b l))) := by
  rw [show withoutB b l = { b with trials := stayT b.trials l b.trials.length } from rfl]
  refine semC_of_exec' mixed Try.func52 (by kernel_rfl) (by kernel_rfl) ac52_ok 2 rfl (by decide) [(.cell 4 25)] (by kernel_rfl) ?_
  intro hr C hC hI
  unfold ac52
  simp only [go_sem, Nat.reduceBEq, Nat.reduceAdd, putCells]
  refine ⟨{x : Nat × Option Nat // x.1 ≤ b.trials.length ∧ (x.2 = none → stayT b.trials l x.1 = [])}, fun x => ⟨[(6, .p (pi x.1.1)), (5, .loc 2 0), (4, .loc 1 0), (2, .loc 0 0), (1, .p (pis l))], [.cells ((bookC k k2 b).map .p), .cells [.p (pi 0), .p (pi 0), .p (pi 0), .p (pi 0), .p (.sl .full 0 []), .p (pi 0), .p (pi 0), .p (pi 0), .p (pi 0), .p (.sl .full 0 [])], .cells [.p (pi b.kind), .p (pi b.front), .p (pi b.back), .p (pi b.radius), .p (.sl k 4 (b.parts.map partC)), .p (pi b.along), .p (pi b.high), .p (pi b.lean), .p (pi b.limit), .p (slT x.1.2 (stayT b.trials l x.1.1))]], x.1.2.toList, some [], 0⟩, fun x => b.trials.length - x.1.1, ⟨(0, none), by simp, fun _ => rfl⟩, by simp [Wk, wkT, wkL, look, AV.lo, AV.lo.loL, slT], ?_⟩
  rintro ⟨⟨j, o⟩, hj, ho⟩
  simp only at hj ho
  simp only [go_sem, Nat.reduceBEq, Nat.reduceAdd, List.length_map]
  refine ⟨fun h5 => ?_, fun h5 => ?_⟩
  · have hj2 : j < b.trials.length := by omega
    have hs := stayT_succ (l := l) hj2
    have hl := stayT_len b.trials l j
    have e := iadr_map (f := trialC) (kd := k2) (sz := 3) hj2
    refine call_pure2 hC (Find_sem l j) rfl (PVleL_refl _) ?_
    rintro r ⟨i, rfl, hi⟩
    simp only [go_sem, Nat.reduceBEq]
    refine ⟨fun h6 => ?_, fun h6 => ?_⟩
    · rw [if_neg (hi.1 h6)] at hs
      obtain ⟨P, hP⟩ : ∃ P, b.trials[j] = P := ⟨_, rfl⟩
      rw [hP] at hs e
      cases o with
      | none =>
        rw [ho rfl] at hs
        simp only [slT]
        simp only [go_sem, Nat.reduceBEq, Nat.reduceAdd, Nat.reduceLeDiff, Nat.reduceEqDiff, e, trialC, wrap_succ (k := j) (by omega), putCells]
        intro tk _
        refine ⟨⟨(j + 1, some tk), by simp only; omega, fun h => by cases h⟩, by simp only; omega, ?_⟩
        simp only [hs]
        simp [Wk, wkT, wkL, look, AV.lo, AV.lo.loL, trialC]
      | some tk =>
        simp only [slT]
        simp only [go_sem, Nat.reduceBEq, Nat.reduceAdd, Nat.reduceLeDiff, Nat.reduceEqDiff, e, trialC, wrap_succ (k := j) (by omega), putCells]
        refine ⟨by rw [List.length_map]; omega, by simp, fun t2 _ => ?_⟩
        refine ⟨⟨(j + 1, some t2), by simp only; omega, fun h => by cases h⟩, by simp only; omega, ?_⟩
        simp only [hs]
        simp [Wk, wkT, wkL, look, AV.lo, AV.lo.loL, trialC]
    · rw [if_pos (Classical.not_not.1 fun hn => h6 (hi.2 hn))] at hs
      simp only [go_sem, wrap_succ (k := j) (by omega)]
      refine ⟨⟨(j + 1, o), by simp only; omega, fun h => by simp only; rw [hs]; exact ho h⟩, by simp only; omega, ?_⟩
      simp only [hs]
      cases o <;> simp [Wk, wkT, wkL, look, AV.lo, AV.lo.loL, slT]
  · have hjn : j = b.trials.length := by omega
    subst hjn
    cases o with
    | none =>
      simp only [slT]
      rw [ho rfl]
      refine retQ_cell_le (n := some 10) (by kernel_rfl) rfl ?_ rfl
      exact PVle.agg ⟨PVle.refl _, PVle.refl _, PVle.refl _, PVle.refl _, PVle.refl _, PVle.refl _, PVle.refl _, PVle.refl _, PVle.refl _, PVle.nil _ _ _, trivial⟩
    | some tk =>
      simp only [slT]
      refine retQ_cell_le (n := some 10) (by kernel_rfl) rfl ?_ rfl
      exact PVle.agg ⟨PVle.refl _, PVle.refl _, PVle.refl _, PVle.refl _, PVle.refl _, PVle.refl _, PVle.refl _, PVle.refl _, PVle.refl _, PVle.sh _ _ _, trivial⟩
theorem without_ok {b : SBook} (ho : okBook b) (l : List Int) : okBook (withoutB b l) := by
  obtain ⟨h1, h2, h3, h4, h5, h6⟩ := ho
  have hsub : ∀ t ∈ (withoutB b l).trials, t ∈ b.trials := fun t ht => by
    unfold withoutB at ht
    simp only [List.mem_filterMap] at ht
    obtain ⟨i, -, hi⟩ := ht
    exact List.mem_of_getElem? hi
  refine ⟨h1, h2, h3, ?_, h5, fun t ht => h6 t (hsub t ht)⟩
  have := stayT_len b.trials l b.trials.length
  show (stayT b.trials l b.trials.length).length ≤ 5
  omega
theorem allF_ne {los his : List Int} (hle : ∀ i, i < los.length → los.getD i 0 ≤ his.getD i 0) : ∀ (r j : Nat) (ws : List Int), j < los.length → los.length ≤ j + r → allF los his r j ws ≠ []
  | 0, j, ws, h1, h2 => by omega
  | r + 1, j, ws, h1, h2 => by
    rw [allF_succ]
    have hm : los.getD j 0 ∈ spanL (los.getD j 0) (his.getD j 0) := mem_spanL.2 ⟨Int.le_refl _, hle j h1⟩
    intro hn
    rw [List.flatMap_eq_nil_iff] at hn
    have := hn _ hm
    split at this
    · rename_i hj
      exact allF_ne hle r (j + 1) _ hj (by omega) this
    · cases this
theorem allW_ne {b : SBook} (ho : okBook b) : allW b ≠ [] := by
  have h3 := ho.2.2.1
  refine allF_ne (fun i hi => ?_) 4 0 _ (by simp; omega) (by simp; omega)
  simp only [List.length_map] at hi
  have := ho.2.2.2.2.1 _ (List.getElem_mem hi)
  unfold okPart at this
  simp only [List.getD_eq_getElem?_getD, List.getElem?_map, List.getElem?_eq_getElem hi, Option.map_some, Option.getD_some]
  omega
theorem fewS_best (b : SBook) : ∀ (l : List (List Int)) (x : List Int), l.foldl (fewS b) (some x) = some (bestL (l.map (wrongI b)) x)
  | [], x => rfl
  | w :: l, x => by
    simp only [List.foldl_cons, List.map_cons]
    exact fewS_best b l _
theorem few_facts {b : SBook} (ho : okBook b) : (∃ ws ∈ allW b, fewI b = wrongI b ws) ∧ ∀ ws ∈ allW b, shortB (wrongI b ws) (fewI b) = false := by
  have hA : truthL (plainB b) = allW b := all_nil (plainB b) rfl
  unfold fewI fewO
  rw [hA]
  have hne := allW_ne ho
  generalize allW b = A at hne
  match A, hne with
  | w :: l, _ =>
    rw [List.foldl_cons, show fewS b none w = some (wrongI b w) from rfl, fewS_best]
    simp only [Option.getD_some]
    obtain ⟨h1, h2, h3⟩ := bestL_facts (l.map (wrongI b)) (wrongI b w)
    constructor
    · rcases h1 with h1 | h1
      · exact ⟨w, List.mem_cons_self .., h1⟩
      · rw [List.mem_map] at h1
        obtain ⟨v, hv, e⟩ := h1
        exact ⟨v, List.mem_cons_of_mem _ hv, e.symm⟩
    · intro ws hws
      rcases List.mem_cons.1 hws with rfl | hws
      · exact h2
      · exact h3 _ (List.mem_map.2 ⟨ws, hws, rfl⟩)
theorem few_nil {b : SBook} (ho : okBook b) : fewI b = [] ↔ truthL b ≠ [] := by
  obtain ⟨⟨ws, hws, e⟩, hmin⟩ := few_facts ho
  constructor
  · intro h
    rw [h] at e
    refine List.ne_nil_of_mem (a := ws) (mem_truthL.2 ⟨hws, fun t ht => ?_⟩)
    obtain ⟨i, hi⟩ := List.mem_iff_getElem?.1 ht
    cases hr : rightI b ws t
    · have : (i : Int) ∈ wrongI b ws := mem_wrongI.2 ⟨i, t, rfl, hi, hr⟩
      rw [← e] at this
      cases this
    · rfl
  · intro h
    obtain ⟨v, hv⟩ := List.exists_mem_of_ne_nil _ h
    obtain ⟨h1, h2⟩ := mem_truthL.1 hv
    have hn : wrongI b v = [] := by
      refine List.eq_nil_iff_forall_not_mem.2 fun n hn => ?_
      obtain ⟨i, t, -, h3, h4⟩ := mem_wrongI.1 hn
      rw [h2 t (List.mem_of_getElem? h3)] at h4
      cases h4
    have := hmin v h1
    rw [hn] at this
    cases hf : fewI b with
    | nil => rfl
    | cons x l => rw [hf] at this; simp [shortB] at this
theorem few_grows {b : SBook} (ho : okBook b) : growsI (fewI b) b.trials.length := by
  obtain ⟨⟨ws, hws, e⟩, -⟩ := few_facts ho
  rw [e]
  refine ⟨wrongI_inc b ws, fun n hn => ?_⟩
  obtain ⟨i, t, rfl, h3, -⟩ := mem_wrongI.1 hn
  have := (List.getElem?_eq_some_iff.1 h3).1
  omega
theorem few_true {b : SBook} (ho : okBook b) : truthL (withoutB b (fewI b)) ≠ [] := by
  obtain ⟨⟨ws, hws, e⟩, -⟩ := few_facts ho
  exact without_true.2 ⟨ws, hws, fun n hn => by rw [e]; exact hn⟩
theorem few_least {b : SBook} (ho : okBook b) {l : List Int} (hl : incL l) (hs : shortB l (fewI b) = true) : truthL (withoutB b l) = [] := by
  obtain ⟨-, hmin⟩ := few_facts ho
  rcases Classical.em (truthL (withoutB b l) = []) with h | h
  · exact h
  · obtain ⟨ws, hws, hsub⟩ := without_true.1 h
    have h1 := hmin ws hws
    have h2 := inc_short (wrongI_inc b ws) hl hsub
    cases h3 : shortB (fewI b) (wrongI b ws)
    · rw [shortB_total h3 h1, h2] at hs; cases hs
    · rw [shortB_trans hs h3] at h2; cases h2
theorem listI_inc (set : Int) (m : Nat) : incL (listI set m) := by
  unfold listI incL
  rw [List.pairwise_map]
  refine List.Pairwise.imp ?_ ((List.pairwise_lt_range (n := m)).filter _)
  intro a c h; omega
theorem shl_len {m : Nat} (h : m ≤ 5) : ∃ M : Int, IntKind.i64.wrap (1 * 2 ^ (min (m : Int).toNat 64)) = M ∧ 1 ≤ M := by
  have : m = 0 ∨ m = 1 ∨ m = 2 ∨ m = 3 ∨ m = 4 ∨ m = 5 := by omega
  rcases this with rfl | rfl | rfl | rfl | rfl | rfl
  · exact ⟨1, by decide, by decide⟩
  · exact ⟨2, by decide, by decide⟩
  · exact ⟨4, by decide, by decide⟩
  · exact ⟨8, by decide, by decide⟩
  · exact ⟨16, by decide, by decide⟩
  · exact ⟨32, by decide, by decide⟩
theorem StandWrong_law (b : SBook) (n : Int) : Sem1 14 [.agg (bookC .sh .sh b), pi n] (pb true) := by
  by_cases ho : okBook b
  case neg =>
    have hW := (Wrong_sem .sh .sh b).mono fun r h => h.trans (if_neg ho)
    have hS := (sound_sem .sh .sh b).mono fun r h => h.trans (congrArg pb (decide_eq_false ho))
    refine semC_of_exec' mixed Try.func14 (by kernel_rfl) (by kernel_rfl) ac14_ok 2 rfl (by decide) [(.tmp 4)] (by kernel_rfl) ?_
    intro hr C hC hI
    unfold ac14
    simp only [go_sem, Nat.reduceBEq, Nat.reduceAdd]
    refine call_pure2 hC (hW) rfl (PVleL_refl _) ?_
    rintro r rfl
    simp only [go_sem, Nat.reduceBEq, Nat.reduceAdd]
    refine call_pure2 hC (hS) rfl (PVleL_refl _) ?_
    rintro r rfl
    simp only [go_sem, Nat.reduceBEq, decide_true, Int.natCast_zero]
    refine call_pure2 hC (stood_sem) rfl (PVleL_refl _) ?_
    rintro r rfl
    simp only [go_sem, Nat.reduceBEq]
    exact retQ_one rfl rfl
  have hS := (sound_sem .sh .sh b).mono fun r h => h.trans (congrArg pb (decide_eq_true ho))
  have ht := ho.2.2.2.1
  obtain ⟨M, hM, hM1⟩ := shl_len (m := b.trials.length) ht
  have hgr := few_grows ho
  have hnil := few_nil ho
  have hlen : decide (((fewI b).length : Int) = 0) = decide (truthL b ≠ []) := decide_eq_decide.2 (by rw [← hnil]; simp)
  refine semC_of_exec' mixed Try.func14 (by kernel_rfl) (by kernel_rfl) ac14_ok 2 rfl (by decide) [(.tmp 4)] (by kernel_rfl) ?_
  intro hr C hC hI
  unfold ac14
  simp only [go_sem, Nat.reduceBEq, Nat.reduceAdd]
  refine call_pure2 hC (Wrong_ok ho) rfl (PVleL_refl _) ?_
  rintro r rfl
  simp only [go_sem, Nat.reduceBEq, Nat.reduceAdd]
  refine call_pure2 hC (hS) rfl (PVleL_refl _) ?_
  rintro r rfl
  simp only [go_sem, Nat.reduceBEq, Nat.reduceAdd]
  refine call_pure2 hC (Right_ok ho) rfl (PVleL_refl _) ?_
  rintro r rfl
  simp only [go_sem, Nat.reduceBEq, decide_false, not_true_eq_false, List.length_map]
  refine call_pure2 hC (Grows_sem (fewI b) b.trials.length) rfl (PVleL_refl _) ?_
  rintro r ⟨t, rfl, hg⟩
  rw [hg.2 hgr]
  simp only [go_sem, Nat.reduceBEq, Nat.reduceAdd, decide_false, not_true_eq_false, List.length_map, hlen]
  refine call_pure2 hC (without_sem .sh .sh b (fewI b) (by omega)) rfl (PVleL_refl _) ?_
  rintro r rfl
  simp only [go_sem, Nat.reduceBEq]
  refine call_pure2 hC (Right_ok (without_ok ho (fewI b))) rfl (PVleL_refl _) ?_
  rintro r rfl
  simp only [go_sem, Nat.reduceBEq, decide_eq_true (few_true ho), decide_false, not_true_eq_false, Bool.false_eq_true, bin_shl (show ¬ ((b.trials.length : Nat) : Int) < 0 by omega), List.length_map, hM]
  refine call_pure2 hC (Round_sem n M) rfl (PVleL_refl _) ?_
  rintro r rfl
  simp only [go_sem, Nat.reduceBEq]
  refine call_pure2 hC (List_sem (rndI n M) b.trials.length (by omega)) rfl (PVleL_refl _) ?_
  rintro r rfl
  simp only [go_sem, Nat.reduceBEq]
  refine call_pure2 hC (Shorter_sem ..) rfl (PVleL_refl _) ?_
  rintro r rfl
  simp only [go_sem, Nat.reduceBEq]
  cases hs : shortB (listI (rndI n M) b.trials.length) (fewI b)
  · simp only [go_sem, Nat.reduceBEq]
    refine call_pure2 hC (stood_sem) rfl (PVleL_refl _) ?_
    rintro r rfl
    simp only [go_sem, Nat.reduceBEq]
    exact retQ_one rfl rfl
  · simp only [go_sem, Nat.reduceBEq, Nat.reduceAdd]
    refine call_pure2 hC (without_sem .sh .sh b (listI (rndI n M) b.trials.length) (by omega)) rfl (PVleL_refl _) ?_
    rintro r rfl
    simp only [go_sem, Nat.reduceBEq]
    refine call_pure2 hC (Right_ok (without_ok ho (listI (rndI n M) b.trials.length))) rfl (PVleL_refl _) ?_
    rintro r rfl
    simp only [go_sem, Nat.reduceBEq, decide_eq_false (show ¬ truthL (withoutB b (listI (rndI n M) b.trials.length)) ≠ [] from fun h => h (few_least ho (listI_inc _ _) hs)), decide_true]
    refine call_pure2 hC (stood_sem) rfl (PVleL_refl _) ?_
    rintro r rfl
    simp only [go_sem, Nat.reduceBEq]
    exact retQ_one rfl rfl
set_option maxRecDepth 100000 in
theorem StandWrong_row {l0 l1 : List PV} (T0 : Ty Try.prog 10 25 l0) (T1 : Ty Try.prog 10 3 l1) : SemC Try.prog 14 [argPV Try.prog 25 l0, argPV Try.prog 3 l1] (fun r => r = pb true) := by
  obtain ⟨b, rfl⟩ := ty_book T0
  obtain ⟨n, rfl⟩ := tyInt uInt T1
  rw [argStruct Try.underlying25, argInt uInt]
  exact StandWrong_law b n
end Go.Proofs.Ytgniamjempccmaa
namespace Go.Proofs.Ytgniamjempccmaa
open Go.RowKit
def ac13 : AC := (AC.seq (AC.ops [(AOp.mk (some 2) (AK.box 10 (AX.t 0)) none 0 false true), (AOp.mk (some 4) (AK.mv (AX.c (PV.val (Value.bool false)))) none 1 false true)]) (AC.seq (AC.seq (AC.ops [(AOp.mk (some 13) (AK.ld (some 10) (AX.t 2)) none 0 false true), (AOp.mk (some 14) (AK.call 38 [(AX.t 13)]) none 1 false true), (AOp.mk (some 15) (AK.un UnOp.not (AX.t 14)) none 2 false true)]) (AC.cond (AX.t 15) (AC.seq (AC.ops [(AOp.mk (some 16) (AK.call 24 []) none 0 false true), (AOp.mk (some 4) (AK.mv (AX.t 16)) none 1 false true)]) AC.ret) AC.skip)) (AC.seq (AC.ops [(AOp.mk (some 17) (AK.mv (AX.t 1)) none 0 false true), (AOp.mk (some 18) (AK.fadr 8 (AX.t 2)) none 1 false true), (AOp.mk (some 19) (AK.ld none (AX.t 18)) none 2 false true), (AOp.mk (some 20) (AK.call 41 [(AX.t 17), (AX.t 19)]) none 3 false true), (AOp.mk (some 21) (AK.bin false BinOp.add (AX.c (PV.val (Value.int IntKind.i64 1))) (AX.t 20)) none 4 false true), (AOp.mk (some 5) (AK.mv (AX.t 21)) none 5 false true)]) (AC.seq (AC.ops [(AOp.mk (some 23) (AK.ld (some 10) (AX.t 2)) none 0 false true), (AOp.mk (some 24) (AK.mv (AX.t 5)) none 1 false true), (AOp.mk (some 25) (AK.call 29 [(AX.t 23), (AX.t 24)]) none 2 false true), (AOp.mk (some 22) (AK.mv (AX.t 25)) none 3 false true), (AOp.mk (some 26) (AK.ext (AX.t 22) 0) none 4 false true), (AOp.mk (some 27) (AK.ext (AX.t 22) 1) none 5 false true), (AOp.mk (some 6) (AK.new (PV.agg [(PV.val (Value.int IntKind.i64 0)), (PV.val (Value.int IntKind.i64 0))])) none 6 false true), (AOp.mk none (AK.st 2 (AX.t 6) (AX.t 26)) none 7 false true), (AOp.mk (some 7) (AK.mv (AX.t 27)) none 8 false true)]) (AC.seq (AC.ops [(AOp.mk (some 29) (AK.ld (some 10) (AX.t 2)) none 0 false true), (AOp.mk (some 30) (AK.mv (AX.t 5)) none 1 false true), (AOp.mk (some 31) (AK.call 20 [(AX.t 29), (AX.t 30), (AX.c (PV.val (Value.int IntKind.i64 0)))]) none 2 false true), (AOp.mk (some 28) (AK.mv (AX.t 31)) none 3 false true), (AOp.mk (some 32) (AK.ext (AX.t 28) 0) none 4 false true), (AOp.mk (some 33) (AK.ext (AX.t 28) 1) none 5 false true), (AOp.mk (some 8) (AK.mv (AX.t 32)) none 6 false true), (AOp.mk (some 9) (AK.mv (AX.t 33)) none 7 false true)]) (AC.seq (AC.seq (AC.ops [(AOp.mk (some 34) (AK.mv (AX.t 9)) none 0 false true), (AOp.mk (some 35) (AK.bin false BinOp.neq (AX.t 34) (AX.c (PV.val (Value.int IntKind.i64 0)))) none 1 false true)]) (AC.cond (AX.t 35) (AC.seq (AC.ops [(AOp.mk (some 36) (AK.mv (AX.t 9)) none 0 false true), (AOp.mk (some 37) (AK.bin false BinOp.eql (AX.t 36) (AX.c (PV.val (Value.int IntKind.i64 22)))) none 1 false true), (AOp.mk (some 38) (AK.mv (AX.t 37)) none 2 false true), (AOp.mk (some 39) (AK.mv (AX.t 7)) (some (38, true)) 3 false true), (AOp.mk (some 40) (AK.mv (AX.t 9)) (some (38, true)) 4 false true), (AOp.mk (some 41) (AK.bin false BinOp.eql (AX.t 39) (AX.t 40)) (some (38, true)) 5 false true), (AOp.mk (some 42) (AK.pick (AX.t 38) (AX.t 41) (AX.c (PV.val (Value.bool false)))) none 6 false true), (AOp.mk (some 43) (AK.mv (AX.t 42)) none 7 false true), (AOp.mk (some 44) (AK.call 24 []) (some (43, true)) 8 false true), (AOp.mk (some 45) (AK.pick (AX.t 43) (AX.t 44) (AX.c (PV.val (Value.bool false)))) none 9 false true), (AOp.mk (some 4) (AK.mv (AX.t 45)) none 10 false true)]) AC.ret) AC.skip)) (AC.seq (AC.seq (AC.ops [(AOp.mk (some 46) (AK.mv (AX.t 7)) none 0 false true), (AOp.mk (some 47) (AK.bin false BinOp.neq (AX.t 46) (AX.c (PV.val (Value.int IntKind.i64 0)))) none 1 false true), (AOp.mk (some 48) (AK.mv (AX.t 47)) none 2 false true), (AOp.mk (some 49) (AK.mv (AX.t 8)) (some (48, false)) 3 false true), (AOp.mk (some 50) (AK.bin false BinOp.gtr (AX.t 49) (AX.c (PV.val (Value.int IntKind.i64 0)))) (some (48, false)) 4 false true), (AOp.mk (some 51) (AK.pick (AX.t 48) (AX.c (PV.val (Value.bool true))) (AX.t 50)) none 5 false true)]) (AC.cond (AX.t 51) (AC.seq (AC.ops [(AOp.mk (some 52) (AK.mv (AX.t 7)) none 0 true false), (AOp.mk (some 53) (AK.bin false BinOp.eql (AX.t 52) (AX.c (PV.val (Value.int IntKind.i64 4)))) none 1 true false), (AOp.mk (some 54) (AK.mv (AX.t 53)) none 2 true false), (AOp.mk (some 55) (AK.ld (some 2) (AX.t 6)) (some (54, true)) 3 true false), (AOp.mk (some 56) (AK.call 49 [(AX.c (PV.val (Value.int IntKind.i64 0)))]) (some (54, true)) 4 false false), (AOp.mk (some 57) (AK.eqs [CK.i, CK.i] false (AX.t 55) (AX.t 56)) (some (54, true)) 5 true false), (AOp.mk (some 58) (AK.pick (AX.t 54) (AX.t 57) (AX.c (PV.val (Value.bool false)))) none 6 true false), (AOp.mk (some 59) (AK.mv (AX.t 58)) none 7 true false), (AOp.mk (some 60) (AK.mv (AX.t 8)) (some (59, true)) 8 true false), (AOp.mk (some 61) (AK.bin false BinOp.gtr (AX.t 60) (AX.c (PV.val (Value.int IntKind.i64 0)))) (some (59, true)) 9 true false), (AOp.mk (some 62) (AK.pick (AX.t 59) (AX.t 61) (AX.c (PV.val (Value.bool false)))) none 10 true false), (AOp.mk (some 63) (AK.mv (AX.t 62)) none 11 true false), (AOp.mk (some 64) (AK.call 24 []) (some (63, true)) 12 false false), (AOp.mk (some 65) (AK.pick (AX.t 63) (AX.t 64) (AX.c (PV.val (Value.bool false)))) none 13 true false), (AOp.mk (some 4) (AK.mv (AX.t 65)) none 14 true true)]) AC.ret) AC.skip)) (AC.seq (AC.seq (AC.ops [(AOp.mk (some 66) (AK.fadr 7 (AX.t 2)) none 0 true false), (AOp.mk (some 67) (AK.ld none (AX.t 66)) none 1 true false), (AOp.mk (some 68) (AK.un UnOp.neg (AX.t 67)) none 2 true false), (AOp.mk (some 69) (AK.fadr 7 (AX.t 2)) none 3 true false), (AOp.mk (some 70) (AK.ld none (AX.t 69)) none 4 true false), (AOp.mk (some 72) (AK.ld (some 2) (AX.t 6)) none 6 true false), (AOp.mk (some 71) (AK.call 46 [(AX.t 68), (AX.t 70)]) none 5 false false), (AOp.mk (some 73) (AK.call 50 [(AX.t 71), (AX.t 72)]) none 7 false false), (AOp.mk (some 74) (AK.un UnOp.not (AX.t 73)) none 8 true false), (AOp.mk (some 75) (AK.mv (AX.t 74)) none 9 true false), (AOp.mk (some 76) (AK.ld (some 2) (AX.t 6)) (some (75, false)) 10 true false), (AOp.mk (some 77) (AK.call 44 [(AX.t 76), (AX.c (PV.val (Value.int IntKind.i64 0)))]) (some (75, false)) 11 false false), (AOp.mk (some 78) (AK.un UnOp.not (AX.t 77)) (some (75, false)) 12 true false), (AOp.mk (some 79) (AK.pick (AX.t 75) (AX.c (PV.val (Value.bool true))) (AX.t 78)) none 13 true false)]) (AC.cond (AX.t 79) (AC.seq (AC.ops [(AOp.mk (some 4) (AK.mv (AX.c (PV.val (Value.bool false)))) none 0 false true)]) AC.ret) AC.skip)) (AC.seq (AC.seq (AC.ops [(AOp.mk (some 80) (AK.fadr 7 (AX.t 2)) none 0 false true), (AOp.mk (some 81) (AK.ld none (AX.t 80)) none 1 false true), (AOp.mk (some 82) (AK.un UnOp.neg (AX.t 81)) none 2 false true), (AOp.mk (some 10) (AK.mv (AX.t 82)) none 3 false true)]) (AC.block 0 (AC.loop (AC.seq (AC.seq (AC.ops [(AOp.mk (some 83) (AK.mv (AX.t 10)) none 0 false true), (AOp.mk (some 84) (AK.fadr 7 (AX.t 2)) none 1 false true), (AOp.mk (some 85) (AK.ld none (AX.t 84)) none 2 false true), (AOp.mk (some 86) (AK.bin false BinOp.leq (AX.t 83) (AX.t 85)) none 3 false true)]) (AC.cond (AX.t 86) AC.skip (AC.exit 0))) (AC.seq (AC.block 1 (AC.seq (AC.ops [(AOp.mk (some 90) (AK.ld (some 10) (AX.t 2)) none 0 false true), (AOp.mk (some 91) (AK.mv (AX.t 5)) none 1 false true), (AOp.mk (some 92) (AK.mv (AX.t 10)) none 2 false true), (AOp.mk (some 93) (AK.call 20 [(AX.t 90), (AX.t 91), (AX.t 92)]) none 3 false true), (AOp.mk (some 89) (AK.mv (AX.t 93)) none 4 false true), (AOp.mk (some 94) (AK.ext (AX.t 89) 0) none 5 false true), (AOp.mk (some 95) (AK.ext (AX.t 89) 1) none 6 false true), (AOp.mk (some 11) (AK.mv (AX.t 94)) none 7 false true), (AOp.mk (some 12) (AK.mv (AX.t 95)) none 8 false true)]) (AC.seq (AC.ops [(AOp.mk (some 96) (AK.mv (AX.t 12)) none 0 false true), (AOp.mk (some 97) (AK.bin false BinOp.neq (AX.t 96) (AX.c (PV.val (Value.int IntKind.i64 0)))) none 1 false true), (AOp.mk (some 98) (AK.mv (AX.t 97)) none 2 false true), (AOp.mk (some 99) (AK.ld (some 2) (AX.t 6)) (some (98, false)) 3 false true), (AOp.mk (some 100) (AK.mv (AX.t 10)) (some (98, false)) 4 false true), (AOp.mk (some 101) (AK.call 44 [(AX.t 99), (AX.t 100)]) (some (98, false)) 5 false true), (AOp.mk (some 102) (AK.mv (AX.t 101)) (some (98, false)) 6 false true), (AOp.mk (some 103) (AK.mv (AX.t 11)) (some (102, true)) 7 false true), (AOp.mk (some 104) (AK.bin false BinOp.gtr (AX.t 103) (AX.c (PV.val (Value.int IntKind.i64 0)))) (some (102, true)) 8 false true), (AOp.mk (some 105) (AK.pick (AX.t 102) (AX.t 104) (AX.c (PV.val (Value.bool false)))) (some (98, false)) 9 false true), (AOp.mk (some 106) (AK.pick (AX.t 98) (AX.c (PV.val (Value.bool true))) (AX.t 105)) none 10 false true), (AOp.mk (some 107) (AK.mv (AX.t 106)) none 11 false true), (AOp.mk (some 108) (AK.mv (AX.t 10)) (some (107, false)) 12 false true), (AOp.mk (some 109) (AK.fadr 0 (AX.t 6)) (some (107, false)) 13 false true), (AOp.mk (some 110) (AK.ld none (AX.t 109)) (some (107, false)) 14 false true), (AOp.mk (some 111) (AK.bin false BinOp.sub (AX.t 110) (AX.c (PV.val (Value.int IntKind.i64 1)))) (some (107, false)) 15 false true), (AOp.mk (some 112) (AK.bin false BinOp.eql (AX.t 108) (AX.t 111)) (some (107, false)) 16 false true), (AOp.mk (some 113) (AK.mv (AX.t 112)) (some (107, false)) 17 false true), (AOp.mk (some 114) (AK.mv (AX.t 10)) (some (113, false)) 18 false true), (AOp.mk (some 115) (AK.fadr 1 (AX.t 6)) (some (113, false)) 19 false true), (AOp.mk (some 116) (AK.ld none (AX.t 115)) (some (113, false)) 20 false true), (AOp.mk (some 117) (AK.bin false BinOp.add (AX.t 116) (AX.c (PV.val (Value.int IntKind.i64 1)))) (some (113, false)) 21 false true), (AOp.mk (some 118) (AK.bin false BinOp.eql (AX.t 114) (AX.t 117)) (some (113, false)) 22 false true), (AOp.mk (some 119) (AK.pick (AX.t 113) (AX.c (PV.val (Value.bool true))) (AX.t 118)) (some (107, false)) 23 false true), (AOp.mk (some 120) (AK.mv (AX.t 119)) (some (107, false)) 24 false true), (AOp.mk (some 121) (AK.mv (AX.t 11)) (some (120, true)) 25 false true), (AOp.mk (some 122) (AK.bin false BinOp.eql (AX.t 121) (AX.c (PV.val (Value.int IntKind.i64 0)))) (some (120, true)) 26 false true), (AOp.mk (some 123) (AK.pick (AX.t 120) (AX.t 122) (AX.c (PV.val (Value.bool false)))) (some (107, false)) 27 false true), (AOp.mk (some 124) (AK.pick (AX.t 107) (AX.c (PV.val (Value.bool true))) (AX.t 123)) none 28 false true)]) (AC.cond (AX.t 124) (AC.seq (AC.ops [(AOp.mk (some 4) (AK.mv (AX.c (PV.val (Value.bool false)))) none 0 false true)]) AC.ret) AC.skip)))) (AC.ops [(AOp.mk (some 87) (AK.mv (AX.t 10)) none 0 false true), (AOp.mk (some 88) (AK.bin false BinOp.add (AX.t 87) (AX.c (PV.val (Value.int IntKind.i64 1)))) none 1 false true), (AOp.mk (some 10) (AK.mv (AX.t 88)) none 2 false true)])))))) (AC.seq (AC.ops [(AOp.mk (some 125) (AK.call 24 []) none 0 false true), (AOp.mk (some 4) (AK.mv (AX.t 125)) none 1 false true)]) AC.ret))))))))))
theorem ac13_ok : cCode Try.prog (fun _ => false) Try.f13.ntmps (Try.f13.body.getD .skip) = some ac13 := by kernel_rfl
theorem answer_zero {b : SBook} {ls : List SLoad} {w n : Int} (h : holdsI b ls w n) : answerI b ls w n = 0 := by
  unfold answerI; rw [if_pos (count_zero.2 h)]
theorem answer_pos {b : SBook} {ls : List SLoad} {w n : Int} (h : ¬ holdsI b ls w n) : 0 < answerI b ls w n := by
  unfold answerI
  rw [if_neg (fun hc => h (count_zero.1 hc))]
  split <;> omega
theorem answer_holds {b : SBook} {ls : List SLoad} {w n : Int} : answerI b ls w n = 0 ↔ holdsI b ls w n := by
  constructor
  · intro h
    rcases Classical.em (holdsI b ls w n) with h1 | h1
    · exact h1
    · have := answer_pos h1; omega
  · exact answer_zero
theorem answer_rng (b : SBook) (ls : List SLoad) (w n : Int) : 0 ≤ answerI b ls w n ∧ answerI b ls w n ≤ 2 := by
  unfold answerI
  split
  · omega
  · split <;> omega
theorem StandRoom_law (b : SBook) (n : Int) : Sem1 13 [.agg (bookC .sh .sh b), pi n] (pb true) := by
  refine semC_of_exec' mixed Try.func13 (by kernel_rfl) (by kernel_rfl) ac13_ok 2 rfl (by decide) [(.tmp 4)] (by kernel_rfl) ?_
  intro hr C hC hI
  unfold ac13
  simp only [go_sem, Nat.reduceBEq, Nat.reduceAdd]
  refine call_pure2 hC (sound_sem ..) rfl (PVleL_refl _) ?_
  rintro r rfl
  simp only [go_sem, Nat.reduceBEq]
  refine ⟨fun _ => ?_, fun ho => ?_⟩
  · refine call_pure2 hC (stood_sem) rfl (PVleL_refl _) ?_
    rintro r rfl
    simp only [go_sem, Nat.reduceBEq]
    exact retQ_one rfl rfl
  have hg := ok_rng ho
  have hw := rndI_range (n := n) (m := b.limit) (by omega)
  obtain ⟨w, hwd⟩ : ∃ w, 1 + rndI n b.limit = w := ⟨_, rfl⟩
  have hwr : 1 ≤ w ∧ w ≤ b.limit := by omega
  refine call_pure2 hC (Round_sem n b.limit) rfl (PVleL_refl _) ?_
  rintro r rfl
  simp only [go_sem, Nat.reduceBEq, Nat.reduceAdd, hwd, wrap_id (n := w) (by omega) (by omega)]
  by_cases hT : truthL b = []
  · refine call_pure2 hC (Room_F ho hT hwr) rfl (PVleL_refl _) ?_
    rintro r rfl
    simp only [go_sem, Nat.reduceBEq, Nat.reduceAdd, putCells]
    refine call_pure2 hC (Tips_F ho hT (n := 0) hwr (by omega)) rfl (PVleL_refl _) ?_
    rintro r rfl
    simp only [go_sem, Nat.reduceBEq, decide_true, not_false_eq_true, Int.reduceEq]
    refine call_pure2 hC (stood_sem) rfl (PVleL_refl _) ?_
    rintro r rfl
    simp only [go_sem, Nat.reduceBEq]
    exact retQ_one rfl rfl
  by_cases hc : holdsI b (loadsI b) w 0
  case neg =>
    have hp := answer_pos hc
    refine call_pure2 hC (Room_N ho hT hwr hc) rfl (PVleL_refl _) ?_
    rintro r rfl
    simp only [go_sem, Nat.reduceBEq, Nat.reduceAdd, putCells]
    refine call_pure2 hC (Tips_T ho hT (n := 0) hwr (by omega)) rfl (PVleL_refl _) ?_
    rintro r rfl
    simp only [go_sem, Nat.reduceBEq, Nat.reduceAdd, decide_true, decide_false, not_true_eq_false, Bool.false_eq_true, not_false_eq_true, Int.reduceEq]
    refine call_pure2 hC (One_sem 0) rfl (PVleL_refl _) ?_
    rintro r rfl
    simp only [go_sem, Nat.reduceBEq, decide_true, Bool.true_and, Bool.false_eq_true, decide_eq_true hp]
    refine call_pure2 hC (stood_sem) rfl (PVleL_refl _) ?_
    rintro r rfl
    simp only [go_sem, Nat.reduceBEq]
    exact retQ_one rfl rfl
  obtain ⟨k1, a1, a2, a3, a4⟩ := far_facts b (loadsI b) w (-1) (.inr rfl) b.lean.toNat 0
  obtain ⟨k2, c1, c2, c3, c4⟩ := far_facts b (loadsI b) w 1 (.inl rfl) b.lean.toNat 0
  obtain ⟨lo, hlo⟩ : ∃ lo, farI b (loadsI b) w (-1) b.lean.toNat 0 = lo := ⟨_, rfl⟩
  obtain ⟨hi, hhi⟩ : ∃ hi, farI b (loadsI b) w 1 b.lean.toNat 0 = hi := ⟨_, rfl⟩
  have hin : ∀ m : Int, lo ≤ m → m ≤ hi → holdsI b (loadsI b) w m := fun m h1 h2 => by
    rcases Int.lt_trichotomy m 0 with h3 | h3 | h3
    · have := a3 (-m).toNat (by omega) (by omega)
      rwa [show (0 : Int) + -1 * ((-m).toNat : Int) = m by omega] at this
    · subst h3; exact hc
    · have := c3 m.toNat (by omega) (by omega)
      rwa [show (0 : Int) + 1 * (m.toNat : Int) = m by omega] at this
  have hout : ∀ m : Int, -b.lean ≤ m → m ≤ b.lean → m = lo - 1 ∨ m = hi + 1 → ¬ holdsI b (loadsI b) w m := fun m h1 h2 h3 => by
    rcases h3 with h3 | h3
    · have := a4 (by omega)
      rwa [show (0 : Int) + -1 * ((k1 : Int) + 1) = m by omega] at this
    · have := c4 (by omega)
      rwa [show (0 : Int) + 1 * ((k2 : Int) + 1) = m by omega] at this
  have hlr : -b.lean ≤ lo ∧ lo ≤ 0 := by omega
  have hhr : 0 ≤ hi ∧ hi ≤ b.lean := by omega
  clear a1 a2 a3 a4 c1 c2 c3 c4
  have hR := Room_S (k := .sh) (k2 := .sh) ho hT hwr hc
  rw [hlo, hhi] at hR
  have hz : IntKind.i64.wrap (0 - b.lean) = -b.lean := by rw [wrap_id (by omega) (by omega)]; omega
  refine call_pure2 hC (hR) rfl (PVleL_refl _) ?_
  rintro r rfl
  simp only [go_sem, Nat.reduceBEq, Nat.reduceAdd, putCells]
  refine call_pure2 hC (Tips_T ho hT (n := 0) hwr (by omega)) rfl (PVleL_refl _) ?_
  rintro r rfl
  simp only [go_sem, Nat.reduceBEq, Nat.reduceAdd, decide_false, not_true_eq_false, Bool.false_eq_true, Int.reduceLT, answer_zero hc, hz]
  refine call_pure2 hC (From_sem ..) rfl (PVleL_refl _) ?_
  rintro r rfl
  simp only [go_sem, Nat.reduceBEq]
  refine call_pure2 hC (Wraps_sem ..) rfl (PVleL_refl _) ?_
  rintro r rfl
  simp only [go_sem, Nat.reduceBEq, Nat.reduceAdd, decide_eq_true (show -b.lean ≤ lo ∧ hi ≤ b.lean by omega), Bool.false_eq_true]
  refine call_pure2 hC (Has_sem ..) rfl (PVleL_refl _) ?_
  rintro r rfl
  simp only [go_sem, Nat.reduceBEq, decide_eq_true (show lo ≤ 0 ∧ 0 ≤ hi by omega), hz]
  refine loop_nat (2 * b.lean + 1).toNat (fun _ => True) (fun (j : Nat) => ⟨[(10, .p (pi (j - b.lean))), (6, .loc 1 0), (5, .p (pi w)), (2, .loc 0 0)], [.cells ((bookC .sh .sh b).map .p), .cells [.p (pi lo), .p (pi hi)]], [], some [], 0⟩) trivial (by simp [Wk, wkT, wkL, look, AV.lo, AV.lo.loL]) ?_
  rintro j ⟨hj, -⟩
  obtain ⟨m, hm⟩ : ∃ m, (j : Int) - b.lean = m := ⟨_, rfl⟩
  have hnx : IntKind.i64.wrap (m + 1) = ((j + 1 : Nat) : Int) - b.lean := by rw [wrap_id (by omega) (by omega)]; omega
  simp only [hm]
  simp only [go_sem, Nat.reduceBEq, Nat.reduceAdd]
  refine ⟨fun h5 => ?_, fun h5 => ?_⟩
  · have h1 := hin m
    have h2 := hout m (by omega) (by omega)
    rw [← answer_holds] at h1 h2
    have h3 := answer_rng b (loadsI b) w m
    refine call_pure2 hC (Tips_T ho hT (n := m) hwr (by omega)) rfl (PVleL_refl _) ?_
    rintro r rfl
    simp only [go_sem, Nat.reduceBEq, Nat.reduceAdd, decide_false, not_true_eq_false]
    obtain ⟨a, ha⟩ : ∃ a, answerI b (loadsI b) w m = a := ⟨_, rfl⟩
    rw [ha] at h1 h2 h3
    refine call_pure2 hC (Has_sem lo hi m) rfl (PVleL_refl _) ?_
    rintro r rfl
    simp only [go_sem, Nat.reduceBEq, ha, wrap_id (n := lo - 1) (by omega) (by omega), wrap_id (n := hi + 1) (by omega) (by omega), hnx]
    repeat' (first | (exfalso; omega) | (guard_target =~ _ ∧ _; refine ⟨fun _ => ?_, fun _ => ?_⟩))
    all_goals exact ⟨⟨j + 1, by omega, trivial⟩, by simp only; omega, by simp [Wk, wkT, wkL, look, AV.lo, AV.lo.loL]⟩
  · refine call_pure2 hC (stood_sem) rfl (PVleL_refl _) ?_
    rintro r rfl
    simp only [go_sem, Nat.reduceBEq]
    exact retQ_one rfl rfl
set_option maxRecDepth 100000 in
theorem StandRoom_row {l0 l1 : List PV} (T0 : Ty Try.prog 10 25 l0) (T1 : Ty Try.prog 10 3 l1) : SemC Try.prog 13 [argPV Try.prog 25 l0, argPV Try.prog 3 l1] (fun r => r = pb true) := by
  obtain ⟨b, rfl⟩ := ty_book T0
  obtain ⟨n, rfl⟩ := tyInt uInt T1
  rw [argStruct Try.underlying25, argInt uInt]
  exact StandRoom_law b n
end Go.Proofs.Ytgniamjempccmaa
