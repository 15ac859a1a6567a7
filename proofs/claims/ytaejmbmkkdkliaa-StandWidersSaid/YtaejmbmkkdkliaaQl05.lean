/- StandWrong. The specification of stand: what it returns. Loops that name only what turns. The specification of stand: Room. -/
import Derived.Test.YtaejmbmkkdkliaaGa23
import Derived.Test.YtaejmbmkkdkliaaQl04
import Derived.Test.YtaejmbmkkdkliaaGa13
namespace Go.Proofs.Ytaejmbmkkdkliaa
open Go.RowKit
def ac48 : AC := (AC.seq (AC.ops [(AOp.mk (some 1) (AK.box 10 (AX.t 0)) none 0 false true), (AOp.mk (some 2) (AK.new (PV.agg [(PV.val (Value.int IntKind.i64 0)), (PV.val (Value.int IntKind.i64 0)), (PV.val (Value.int IntKind.i64 0)), (PV.val (Value.int IntKind.i64 0)), (PV.sl SK.full 0 []), (PV.val (Value.int IntKind.i64 0)), (PV.val (Value.int IntKind.i64 0)), (PV.val (Value.int IntKind.i64 0)), (PV.val (Value.int IntKind.i64 0)), (PV.sl SK.full 0 [])])) none 1 false true)]) (AC.seq (AC.ops [(AOp.mk (some 4) (AK.ld (some 10) (AX.t 1)) none 0 false true), (AOp.mk (some 3) (AK.new (PV.agg [(PV.val (Value.int IntKind.i64 0)), (PV.val (Value.int IntKind.i64 0)), (PV.val (Value.int IntKind.i64 0)), (PV.val (Value.int IntKind.i64 0)), (PV.sl SK.full 0 []), (PV.val (Value.int IntKind.i64 0)), (PV.val (Value.int IntKind.i64 0)), (PV.val (Value.int IntKind.i64 0)), (PV.val (Value.int IntKind.i64 0)), (PV.sl SK.full 0 [])])) none 1 false true), (AOp.mk none (AK.st 10 (AX.t 3) (AX.t 4)) none 2 false true)]) (AC.seq (AC.ops [(AOp.mk (some 5) (AK.fadr 9 (AX.t 3)) none 0 false true), (AOp.mk none (AK.st 1 (AX.t 5) (AX.c (PV.sl SK.full 0 []))) none 1 false true)]) (AC.seq (AC.ops [(AOp.mk (some 6) (AK.ld (some 10) (AX.t 3)) none 0 false true), (AOp.mk none (AK.st 10 (AX.t 2) (AX.t 6)) none 1 false true)]) AC.ret))))
theorem ac48_ok : cCode Try.prog (fun _ => false) Try.f48.ntmps (Try.f48.body.getD .skip) = some ac48 := by kernel_rfl
def ac52 : AC := (AC.seq (AC.ops [(AOp.mk (some 2) (AK.box 10 (AX.t 0)) none 0 false true), (AOp.mk (some 4) (AK.new (PV.agg [(PV.val (Value.int IntKind.i64 0)), (PV.val (Value.int IntKind.i64 0)), (PV.val (Value.int IntKind.i64 0)), (PV.val (Value.int IntKind.i64 0)), (PV.sl SK.full 0 []), (PV.val (Value.int IntKind.i64 0)), (PV.val (Value.int IntKind.i64 0)), (PV.val (Value.int IntKind.i64 0)), (PV.val (Value.int IntKind.i64 0)), (PV.sl SK.full 0 [])])) none 1 false true)]) (AC.seq (AC.ops [(AOp.mk (some 7) (AK.ld (some 10) (AX.t 2)) none 0 false true), (AOp.mk (some 5) (AK.new (PV.agg [(PV.val (Value.int IntKind.i64 0)), (PV.val (Value.int IntKind.i64 0)), (PV.val (Value.int IntKind.i64 0)), (PV.val (Value.int IntKind.i64 0)), (PV.sl SK.full 0 []), (PV.val (Value.int IntKind.i64 0)), (PV.val (Value.int IntKind.i64 0)), (PV.val (Value.int IntKind.i64 0)), (PV.val (Value.int IntKind.i64 0)), (PV.sl SK.full 0 [])])) none 1 false true), (AOp.mk none (AK.st 10 (AX.t 5) (AX.t 7)) none 2 false true)]) (AC.seq (AC.ops [(AOp.mk (some 8) (AK.fadr 9 (AX.t 5)) none 0 false true), (AOp.mk none (AK.st 1 (AX.t 8) (AX.c (PV.sl SK.full 0 []))) none 1 false true)]) (AC.seq (AC.seq (AC.ops [(AOp.mk (some 6) (AK.mv (AX.c (PV.val (Value.int IntKind.i64 0)))) none 0 false true)]) (AC.block 0 (AC.loop (AC.seq (AC.seq (AC.ops [(AOp.mk (some 9) (AK.mv (AX.t 6)) none 0 false true), (AOp.mk (some 10) (AK.fadr 9 (AX.t 2)) none 1 false true), (AOp.mk (some 11) (AK.ld none (AX.t 10)) none 2 false true), (AOp.mk (some 12) (AK.len (AX.t 11)) none 3 false true), (AOp.mk (some 13) (AK.bin false BinOp.lss (AX.t 9) (AX.t 12)) none 4 false true)]) (AC.cond (AX.t 13) AC.skip (AC.exit 0))) (AC.seq (AC.block 1 (AC.seq (AC.ops [(AOp.mk (some 16) (AK.mv (AX.t 1)) none 0 false true), (AOp.mk (some 17) (AK.mv (AX.t 6)) none 1 false true), (AOp.mk (some 18) (AK.call 95 [(AX.t 16), (AX.t 17)]) none 2 false true), (AOp.mk (some 19) (AK.bin false BinOp.lss (AX.t 18) (AX.c (PV.val (Value.int IntKind.i64 0)))) none 3 false true)]) (AC.cond (AX.t 19) (AC.ops [(AOp.mk (some 20) (AK.fadr 9 (AX.t 5)) none 0 true false), (AOp.mk (some 21) (AK.ld none (AX.t 20)) none 1 true false), (AOp.mk (some 22) (AK.fadr 9 (AX.t 2)) none 2 true false), (AOp.mk (some 23) (AK.ld none (AX.t 22)) none 3 true false), (AOp.mk (some 24) (AK.mv (AX.t 6)) none 4 true false), (AOp.mk (some 25) (AK.iadrS 3 (AX.t 23) (AX.t 24)) none 5 true false), (AOp.mk (some 26) (AK.ld (some 3) (AX.t 25)) none 6 true false), (AOp.mk (some 27) (AK.bslice false 65 3 1 [(PV.val (Value.int IntKind.i64 0)), (PV.val (Value.int IntKind.i64 0)), (PV.val (Value.bool false))] [(0, (3, (AX.t 26)))]) none 7 false false), (AOp.mk (some 28) (AK.app false 65 3 24 [(PV.val (Value.int IntKind.i64 0)), (PV.val (Value.int IntKind.i64 0)), (PV.val (Value.bool false))] (AX.t 21) (AX.t 27)) none 8 false false), (AOp.mk (some 29) (AK.fadr 9 (AX.t 5)) none 9 true false), (AOp.mk none (AK.st 1 (AX.t 29) (AX.t 28)) none 10 false true)]) AC.skip))) (AC.ops [(AOp.mk (some 14) (AK.mv (AX.t 6)) none 0 false true), (AOp.mk (some 15) (AK.bin false BinOp.add (AX.t 14) (AX.c (PV.val (Value.int IntKind.i64 1)))) none 1 false true), (AOp.mk (some 6) (AK.mv (AX.t 15)) none 2 false true)])))))) (AC.seq (AC.ops [(AOp.mk (some 30) (AK.ld (some 10) (AX.t 5)) none 0 false true), (AOp.mk none (AK.st 10 (AX.t 4) (AX.t 30)) none 1 false true)]) AC.ret)))))
theorem ac52_ok : cCode Try.prog (fun _ => false) Try.f52.ntmps (Try.f52.body.getD .skip) = some ac52 := by kernel_rfl
def ac14 : AC := (AC.seq (AC.ops [(AOp.mk (some 2) (AK.box 10 (AX.t 0)) none 0 false true), (AOp.mk (some 4) (AK.mv (AX.c (PV.val (Value.bool false)))) none 1 false true)]) (AC.seq (AC.ops [(AOp.mk (some 15) (AK.ld (some 10) (AX.t 2)) none 0 false true), (AOp.mk (some 16) (AK.call 35 [(AX.t 15)]) none 1 false true), (AOp.mk (some 14) (AK.mv (AX.t 16)) none 2 false true), (AOp.mk (some 17) (AK.ext (AX.t 14) 0) none 3 false true), (AOp.mk (some 18) (AK.ext (AX.t 14) 1) none 4 false true), (AOp.mk (some 5) (AK.mv (AX.t 17)) none 5 false true), (AOp.mk (some 6) (AK.mv (AX.t 18)) none 6 false true)]) (AC.seq (AC.seq (AC.ops [(AOp.mk (some 19) (AK.ld (some 10) (AX.t 2)) none 0 false true), (AOp.mk (some 20) (AK.call 38 [(AX.t 19)]) none 1 false true), (AOp.mk (some 21) (AK.un UnOp.not (AX.t 20)) none 2 false true)]) (AC.cond (AX.t 21) (AC.seq (AC.ops [(AOp.mk (some 22) (AK.mv (AX.t 6)) none 0 false true), (AOp.mk (some 23) (AK.bin false BinOp.eql (AX.t 22) (AX.c (PV.val (Value.int IntKind.i64 20)))) none 1 false true), (AOp.mk (some 24) (AK.mv (AX.t 23)) none 2 false true), (AOp.mk (some 25) (AK.mv (AX.t 5)) (some (24, true)) 3 false true), (AOp.mk (some 26) (AK.len (AX.t 25)) (some (24, true)) 4 false true), (AOp.mk (some 27) (AK.bin false BinOp.eql (AX.t 26) (AX.c (PV.val (Value.int IntKind.i64 0)))) (some (24, true)) 5 false true), (AOp.mk (some 28) (AK.pick (AX.t 24) (AX.t 27) (AX.c (PV.val (Value.bool false)))) none 6 false true), (AOp.mk (some 29) (AK.mv (AX.t 28)) none 7 false true), (AOp.mk (some 30) (AK.call 24 []) (some (29, true)) 8 false true), (AOp.mk (some 31) (AK.pick (AX.t 29) (AX.t 30) (AX.c (PV.val (Value.bool false)))) none 9 false true), (AOp.mk (some 4) (AK.mv (AX.t 31)) none 10 false true)]) AC.ret) AC.skip)) (AC.seq (AC.ops [(AOp.mk (some 33) (AK.ld (some 10) (AX.t 2)) none 0 false true), (AOp.mk (some 34) (AK.call 16 [(AX.t 33)]) none 1 false true), (AOp.mk (some 32) (AK.mv (AX.t 34)) none 2 false true), (AOp.mk (some 35) (AK.ext (AX.t 32) 0) none 3 false true), (AOp.mk (some 36) (AK.ext (AX.t 32) 1) none 4 false true), (AOp.mk (some 7) (AK.mv (AX.t 35)) none 5 false true), (AOp.mk (some 8) (AK.mv (AX.t 36)) none 6 false true)]) (AC.seq (AC.seq (AC.ops [(AOp.mk (some 37) (AK.mv (AX.t 6)) none 0 false true), (AOp.mk (some 38) (AK.bin false BinOp.neq (AX.t 37) (AX.c (PV.val (Value.int IntKind.i64 0)))) none 1 false true), (AOp.mk (some 39) (AK.mv (AX.t 38)) none 2 false true), (AOp.mk (some 40) (AK.mv (AX.t 8)) (some (39, false)) 3 false true), (AOp.mk (some 41) (AK.bin false BinOp.neq (AX.t 40) (AX.c (PV.val (Value.int IntKind.i64 0)))) (some (39, false)) 4 false true), (AOp.mk (some 42) (AK.pick (AX.t 39) (AX.c (PV.val (Value.bool true))) (AX.t 41)) none 5 false true), (AOp.mk (some 43) (AK.mv (AX.t 42)) none 6 false true), (AOp.mk (some 44) (AK.mv (AX.t 5)) (some (43, false)) 7 false true), (AOp.mk (some 45) (AK.fadr 9 (AX.t 2)) (some (43, false)) 8 false true), (AOp.mk (some 46) (AK.ld none (AX.t 45)) (some (43, false)) 9 false true), (AOp.mk (some 47) (AK.len (AX.t 46)) (some (43, false)) 10 false true), (AOp.mk (some 48) (AK.call 51 [(AX.t 44), (AX.t 47)]) (some (43, false)) 11 false true), (AOp.mk (some 49) (AK.un UnOp.not (AX.t 48)) (some (43, false)) 12 false true), (AOp.mk (some 50) (AK.pick (AX.t 43) (AX.c (PV.val (Value.bool true))) (AX.t 49)) none 13 false true), (AOp.mk (some 51) (AK.mv (AX.t 50)) none 14 false true), (AOp.mk (some 52) (AK.mv (AX.t 5)) (some (51, false)) 15 false true), (AOp.mk (some 53) (AK.len (AX.t 52)) (some (51, false)) 16 false true), (AOp.mk (some 54) (AK.bin false BinOp.eql (AX.t 53) (AX.c (PV.val (Value.int IntKind.i64 0)))) (some (51, false)) 17 false true), (AOp.mk (some 55) (AK.mv (AX.t 7)) (some (51, false)) 18 false true), (AOp.mk (some 56) (AK.bin true BinOp.neq (AX.t 54) (AX.t 55)) (some (51, false)) 19 false true), (AOp.mk (some 57) (AK.pick (AX.t 51) (AX.c (PV.val (Value.bool true))) (AX.t 56)) none 20 false true)]) (AC.cond (AX.t 57) (AC.seq (AC.ops [(AOp.mk (some 4) (AK.mv (AX.c (PV.val (Value.bool false)))) none 0 false true)]) AC.ret) AC.skip)) (AC.seq (AC.seq (AC.ops [(AOp.mk (some 59) (AK.ld (some 10) (AX.t 2)) none 0 false true), (AOp.mk (some 60) (AK.mv (AX.t 5)) none 1 false true), (AOp.mk (some 61) (AK.call 52 [(AX.t 59), (AX.t 60)]) none 2 false true), (AOp.mk (some 62) (AK.call 16 [(AX.t 61)]) none 3 false true), (AOp.mk (some 58) (AK.mv (AX.t 62)) none 4 false true), (AOp.mk (some 63) (AK.ext (AX.t 58) 0) none 5 false true), (AOp.mk (some 64) (AK.ext (AX.t 58) 1) none 6 false true), (AOp.mk (some 9) (AK.mv (AX.t 63)) none 7 false true), (AOp.mk (some 10) (AK.mv (AX.t 64)) none 8 false true)]) (AC.seq (AC.ops [(AOp.mk (some 65) (AK.mv (AX.t 10)) none 0 false true), (AOp.mk (some 66) (AK.bin false BinOp.neq (AX.t 65) (AX.c (PV.val (Value.int IntKind.i64 0)))) none 1 false true), (AOp.mk (some 67) (AK.mv (AX.t 66)) none 2 false true), (AOp.mk (some 68) (AK.mv (AX.t 9)) (some (67, false)) 3 false true), (AOp.mk (some 69) (AK.un UnOp.not (AX.t 68)) (some (67, false)) 4 false true), (AOp.mk (some 70) (AK.pick (AX.t 67) (AX.c (PV.val (Value.bool true))) (AX.t 69)) none 5 false true)]) (AC.cond (AX.t 70) (AC.seq (AC.ops [(AOp.mk (some 4) (AK.mv (AX.c (PV.val (Value.bool false)))) none 0 false true)]) AC.ret) AC.skip))) (AC.seq (AC.ops [(AOp.mk (some 71) (AK.mv (AX.t 1)) none 0 true false), (AOp.mk (some 72) (AK.fadr 9 (AX.t 2)) none 1 true false), (AOp.mk (some 73) (AK.ld none (AX.t 72)) none 2 true false), (AOp.mk (some 74) (AK.len (AX.t 73)) none 3 true false), (AOp.mk (some 75) (AK.bin false BinOp.shl (AX.c (PV.val (Value.int IntKind.i64 1))) (AX.t 74)) none 4 true false), (AOp.mk (some 77) (AK.fadr 9 (AX.t 2)) none 6 true false), (AOp.mk (some 78) (AK.ld none (AX.t 77)) none 7 true false), (AOp.mk (some 79) (AK.len (AX.t 78)) none 8 true false), (AOp.mk (some 76) (AK.call 41 [(AX.t 71), (AX.t 75)]) none 5 false false), (AOp.mk (some 80) (AK.call 53 [(AX.t 76), (AX.t 79)]) none 9 false false), (AOp.mk (some 11) (AK.mv (AX.t 80)) none 10 true true)]) (AC.seq (AC.seq (AC.ops [(AOp.mk (some 81) (AK.mv (AX.t 11)) none 0 false true), (AOp.mk (some 82) (AK.mv (AX.t 5)) none 1 false true), (AOp.mk (some 83) (AK.call 54 [(AX.t 81), (AX.t 82)]) none 2 false true), (AOp.mk (some 84) (AK.un UnOp.not (AX.t 83)) none 3 false true)]) (AC.cond (AX.t 84) (AC.seq (AC.ops [(AOp.mk (some 85) (AK.call 24 []) none 0 false true), (AOp.mk (some 4) (AK.mv (AX.t 85)) none 1 false true)]) AC.ret) AC.skip)) (AC.seq (AC.ops [(AOp.mk (some 87) (AK.ld (some 10) (AX.t 2)) none 0 false true), (AOp.mk (some 88) (AK.mv (AX.t 11)) none 1 false true), (AOp.mk (some 89) (AK.call 52 [(AX.t 87), (AX.t 88)]) none 2 false true), (AOp.mk (some 90) (AK.call 16 [(AX.t 89)]) none 3 false true), (AOp.mk (some 86) (AK.mv (AX.t 90)) none 4 false true), (AOp.mk (some 91) (AK.ext (AX.t 86) 0) none 5 false true), (AOp.mk (some 92) (AK.ext (AX.t 86) 1) none 6 false true), (AOp.mk (some 12) (AK.mv (AX.t 91)) none 7 false true), (AOp.mk (some 13) (AK.mv (AX.t 92)) none 8 false true)]) (AC.seq (AC.ops [(AOp.mk (some 93) (AK.mv (AX.t 13)) none 0 false true), (AOp.mk (some 94) (AK.bin false BinOp.eql (AX.t 93) (AX.c (PV.val (Value.int IntKind.i64 0)))) none 1 false true), (AOp.mk (some 95) (AK.mv (AX.t 94)) none 2 false true), (AOp.mk (some 96) (AK.mv (AX.t 12)) (some (95, true)) 3 false true), (AOp.mk (some 97) (AK.un UnOp.not (AX.t 96)) (some (95, true)) 4 false true), (AOp.mk (some 98) (AK.pick (AX.t 95) (AX.t 97) (AX.c (PV.val (Value.bool false)))) none 5 false true), (AOp.mk (some 99) (AK.mv (AX.t 98)) none 6 false true), (AOp.mk (some 100) (AK.call 24 []) (some (99, true)) 7 false true), (AOp.mk (some 101) (AK.pick (AX.t 99) (AX.t 100) (AX.c (PV.val (Value.bool false)))) none 8 false true), (AOp.mk (some 4) (AK.mv (AX.t 101)) none 9 false true)]) AC.ret))))))))))
theorem ac14_ok : cCode Try.prog (fun _ => false) Try.f14.ntmps (Try.f14.body.getD .skip) = some ac14 := by kernel_rfl
theorem plain_sem (k k2 : SK) (b : SBook) : Sem1 48 [.agg (bookC k k2 b)] (.agg (bookC k .sh (plainB b))) := by
  refine semC_of_exec' mixed Try.func48 (by kernel_rfl) (by kernel_rfl) ac48_ok 1 rfl (by decide) [(.cell 2 25)] (by kernel_rfl) ?_
  intro hr C hC hI
  unfold ac48
  simp only [go_sem, Nat.reduceBEq, Nat.reduceAdd, putCells]
  refine retQ_cell_le (n := some 10) (by kernel_rfl) rfl ?_ rfl
  exact PVle.agg ⟨PVle.refl _, PVle.refl _, PVle.refl _, PVle.refl _, PVle.refl _, PVle.refl _, PVle.refl _, PVle.refl _, PVle.refl _, PVle.nil _ _ _, trivial⟩
/-- The trials that stay, of the first ones. -/
def stayT (ts : List STrial) (l : List Int) (j : Nat) : List STrial := ((List.range j).filter fun (i : Nat) => decide ((i : Int) ∉ l)).filterMap fun i => ts[i]?
theorem stayT_succ {ts : List STrial} {l : List Int} {j : Nat} (h : j < ts.length) : stayT ts l (j + 1) = if (j : Int) ∈ l then stayT ts l j else stayT ts l j ++ [ts[j]] := by
  unfold stayT
  rw [List.range_succ, List.filter_append, List.filterMap_append]
  split
  · rename_i hm; simp [hm]
  · rename_i hm; simp [hm, List.getElem?_eq_getElem h]
theorem stayT_len (ts : List STrial) (l : List Int) (j : Nat) : (stayT ts l j).length ≤ j := by
  unfold stayT
  refine Nat.le_trans (List.length_filterMap_le ..) (Nat.le_trans (List.length_filter_le ..) (by simp))
def slT (o : Option Nat) (l : List STrial) : PV :=
  match o with
  | none => .sl .full 0 []
  | some t => .sl (.own t 65 3) 3 (l.map trialC)
theorem without_sem (k k2 : SK) (b : SBook) (l : List Int) (hb : b.trials.length ≤ 1000) : Sem1 52 [.agg (bookC k k2 b), pis l] (.agg (bookC k .sh (withoutB b l))) := by
  rw [show withoutB b l = { b with trials := stayT b.trials l b.trials.length } from rfl]
  refine semC_of_exec' mixed Try.func52 (by kernel_rfl) (by kernel_rfl) ac52_ok 2 rfl (by decide) [(.cell 4 25)] (by kernel_rfl) ?_
  intro hr C hC hI
  unfold ac52
  simp only [go_sem, Nat.reduceBEq, Nat.reduceAdd, putCells]
  refine ⟨{x : Nat × Option Nat // x.1 ≤ b.trials.length ∧ (x.2 = none → stayT b.trials l x.1 = [])}, fun x => ⟨[(6, .p (pi x.1.1)), (5, .loc 2 0), (4, .loc 1 0), (2, .loc 0 0), (1, .p (pis l))], [.cells ((bookC k k2 b).map .p), .cells [.p (pi 0), .p (pi 0), .p (pi 0), .p (pi 0), .p (.sl .full 0 []), .p (pi 0), .p (pi 0), .p (pi 0), .p (pi 0), .p (.sl .full 0 [])], .cells [.p (pi b.kind), .p (pi b.front), .p (pi b.back), .p (pi b.radius), .p (.sl k 4 (b.parts.map partC)), .p (pi b.along), .p (pi b.high), .p (pi b.lean), .p (pi b.limit), .p (slT x.1.2 (stayT b.trials l x.1.1))]], x.1.2.toList, some [], 0⟩, fun x => b.trials.length - x.1.1, ⟨(0, none), by simp, fun _ => rfl⟩, by simp [Wk, wkT, wkL, look, AV.lo, AV.lo.loL, slT], ?_⟩
  rintro ⟨⟨j, o⟩, hj, ho⟩
  simp only at hj ho
  simp only [go_sem, Nat.reduceBEq, Nat.reduceAdd, List.length_map]
  refine ⟨fun h5 => ?_, fun h5 => ?_⟩
  · have hj2 : j < b.trials.length := by omega
    have hs := stayT_succ (l := l) hj2
    have hl := stayT_len b.trials l j
    have e := iadr_map (f := trialC) (kd := k2) (sz := 3) hj2
    refine call_pure2 hC (Find_sem l j) rfl (PVleL_refl _) ?_
    rintro r ⟨i, rfl, hi⟩
    simp only [go_sem, Nat.reduceBEq]
    refine ⟨fun h6 => ?_, fun h6 => ?_⟩
    · rw [if_neg (hi.1 h6)] at hs
      obtain ⟨P, hP⟩ : ∃ P, b.trials[j] = P := ⟨_, rfl⟩
      rw [hP] at hs e
      cases o with
      | none =>
        rw [ho rfl] at hs
        simp only [slT]
        simp only [go_sem, Nat.reduceBEq, Nat.reduceAdd, Nat.reduceLeDiff, Nat.reduceEqDiff, e, trialC, wrap_succ (k := j) (by omega), putCells]
        intro tk _
        refine ⟨⟨(j + 1, some tk), by simp only; omega, fun h => by cases h⟩, by simp only; omega, ?_⟩
        simp only [hs]
        simp [Wk, wkT, wkL, look, AV.lo, AV.lo.loL, trialC]
      | some tk =>
        simp only [slT]
        simp only [go_sem, Nat.reduceBEq, Nat.reduceAdd, Nat.reduceLeDiff, Nat.reduceEqDiff, e, trialC, wrap_succ (k := j) (by omega), putCells]
        refine ⟨by rw [List.length_map]; omega, by simp, fun t2 _ => ?_⟩
        refine ⟨⟨(j + 1, some t2), by simp only; omega, fun h => by cases h⟩, by simp only; omega, ?_⟩
        simp only [hs]
        simp [Wk, wkT, wkL, look, AV.lo, AV.lo.loL, trialC]
    · rw [if_pos (Classical.not_not.1 fun hn => h6 (hi.2 hn))] at hs
      simp only [go_sem, wrap_succ (k := j) (by omega)]
      refine ⟨⟨(j + 1, o), by simp only; omega, fun h => by simp only; rw [hs]; exact ho h⟩, by simp only; omega, ?_⟩
      simp only [hs]
      cases o <;> simp [Wk, wkT, wkL, look, AV.lo, AV.lo.loL, slT]
  · have hjn : j = b.trials.length := by omega
    subst hjn
    cases o with
    | none =>
      simp only [slT]
      rw [ho rfl]
      refine retQ_cell_le (n := some 10) (by kernel_rfl) rfl ?_ rfl
      exact PVle.agg ⟨PVle.refl _, PVle.refl _, PVle.refl _, PVle.refl _, PVle.refl _, PVle.refl _, PVle.refl _, PVle.refl _, PVle.refl _, PVle.nil _ _ _, trivial⟩
    | some tk =>
      simp only [slT]
      refine retQ_cell_le (n := some 10) (by kernel_rfl) rfl ?_ rfl
      exact PVle.agg ⟨PVle.refl _, PVle.refl _, PVle.refl _, PVle.refl _, PVle.refl _, PVle.refl _, PVle.refl _, PVle.refl _, PVle.refl _, PVle.sh _ _ _, trivial⟩
theorem without_ok {b : SBook} (ho : okBook b) (l : List Int) : okBook (withoutB b l) := by
  obtain ⟨h1, h2, h3, h4, h5, h6⟩ := ho
  have hsub : ∀ t ∈ (withoutB b l).trials, t ∈ b.trials := fun t ht => by
    unfold withoutB at ht
    simp only [List.mem_filterMap] at ht
    obtain ⟨i, -, hi⟩ := ht
    exact List.mem_of_getElem? hi
  refine ⟨h1, h2, h3, ?_, h5, fun t ht => h6 t (hsub t ht)⟩
  have := stayT_len b.trials l b.trials.length
  show (stayT b.trials l b.trials.length).length ≤ 5
  omega
theorem allF_ne {los his : List Int} (hle : ∀ i, i < los.length → los.getD i 0 ≤ his.getD i 0) : ∀ (r j : Nat) (ws : List Int), j < los.length → los.length ≤ j + r → allF los his r j ws ≠ []
  | 0, j, ws, h1, h2 => by omega
  | r + 1, j, ws, h1, h2 => by
    rw [allF_succ]
    have hm : los.getD j 0 ∈ spanL (los.getD j 0) (his.getD j 0) := mem_spanL.2 ⟨Int.le_refl _, hle j h1⟩
    intro hn
    rw [List.flatMap_eq_nil_iff] at hn
    have := hn _ hm
    split at this
    · rename_i hj
      exact allF_ne hle r (j + 1) _ hj (by omega) this
    · cases this
theorem allW_ne {b : SBook} (ho : okBook b) : allW b ≠ [] := by
  have h3 := ho.2.2.1
  refine allF_ne (fun i hi => ?_) 4 0 _ (by simp; omega) (by simp; omega)
  simp only [List.length_map] at hi
  have := ho.2.2.2.2.1 _ (List.getElem_mem hi)
  unfold okPart at this
  simp only [List.getD_eq_getElem?_getD, List.getElem?_map, List.getElem?_eq_getElem hi, Option.map_some, Option.getD_some]
  omega
theorem fewS_best (b : SBook) : ∀ (l : List (List Int)) (x : List Int), l.foldl (fewS b) (some x) = some (bestL (l.map (wrongI b)) x)
  | [], x => rfl
  | w :: l, x => by
    simp only [List.foldl_cons, List.map_cons]
    exact fewS_best b l _
theorem few_facts {b : SBook} (ho : okBook b) : (∃ ws ∈ allW b, fewI b = wrongI b ws) ∧ ∀ ws ∈ allW b, shortB (wrongI b ws) (fewI b) = false := by
  have hA : truthL (plainB b) = allW b := all_nil (plainB b) rfl
  unfold fewI fewO
  rw [hA]
  have hne := allW_ne ho
  generalize allW b = A at hne
  match A, hne with
  | w :: l, _ =>
    rw [List.foldl_cons, show fewS b none w = some (wrongI b w) from rfl, fewS_best]
    simp only [Option.getD_some]
    obtain ⟨h1, h2, h3⟩ := bestL_facts (l.map (wrongI b)) (wrongI b w)
    constructor
    · rcases h1 with h1 | h1
      · exact ⟨w, List.mem_cons_self .., h1⟩
      · rw [List.mem_map] at h1
        obtain ⟨v, hv, e⟩ := h1
        exact ⟨v, List.mem_cons_of_mem _ hv, e.symm⟩
    · intro ws hws
      rcases List.mem_cons.1 hws with rfl | hws
      · exact h2
      · exact h3 _ (List.mem_map.2 ⟨ws, hws, rfl⟩)
theorem few_nil {b : SBook} (ho : okBook b) : fewI b = [] ↔ truthL b ≠ [] := by
  obtain ⟨⟨ws, hws, e⟩, hmin⟩ := few_facts ho
  constructor
  · intro h
    rw [h] at e
    refine List.ne_nil_of_mem (a := ws) (mem_truthL.2 ⟨hws, fun t ht => ?_⟩)
    obtain ⟨i, hi⟩ := List.mem_iff_getElem?.1 ht
    cases hr : rightI b ws t
    · have : (i : Int) ∈ wrongI b ws := mem_wrongI.2 ⟨i, t, rfl, hi, hr⟩
      rw [← e] at this
      cases this
    · rfl
  · intro h
    obtain ⟨v, hv⟩ := List.exists_mem_of_ne_nil _ h
    obtain ⟨h1, h2⟩ := mem_truthL.1 hv
    have hn : wrongI b v = [] := by
      refine List.eq_nil_iff_forall_not_mem.2 fun n hn => ?_
      obtain ⟨i, t, -, h3, h4⟩ := mem_wrongI.1 hn
      rw [h2 t (List.mem_of_getElem? h3)] at h4
      cases h4
    have := hmin v h1
    rw [hn] at this
    cases hf : fewI b with
    | nil => rfl
    | cons x l => rw [hf] at this; simp [shortB] at this
theorem few_grows {b : SBook} (ho : okBook b) : growsI (fewI b) b.trials.length := by
  obtain ⟨⟨ws, hws, e⟩, -⟩ := few_facts ho
  rw [e]
  refine ⟨wrongI_inc b ws, fun n hn => ?_⟩
  obtain ⟨i, t, rfl, h3, -⟩ := mem_wrongI.1 hn
  have := (List.getElem?_eq_some_iff.1 h3).1
  omega
theorem few_true {b : SBook} (ho : okBook b) : truthL (withoutB b (fewI b)) ≠ [] := by
  obtain ⟨⟨ws, hws, e⟩, -⟩ := few_facts ho
  exact without_true.2 ⟨ws, hws, fun n hn => by rw [e]; exact hn⟩
theorem few_least {b : SBook} (ho : okBook b) {l : List Int} (hl : incL l) (hs : shortB l (fewI b) = true) : truthL (withoutB b l) = [] := by
  obtain ⟨-, hmin⟩ := few_facts ho
  rcases Classical.em (truthL (withoutB b l) = []) with h | h
  · exact h
  · obtain ⟨ws, hws, hsub⟩ := without_true.1 h
    have h1 := hmin ws hws
    have h2 := inc_short (wrongI_inc b ws) hl hsub
    cases h3 : shortB (fewI b) (wrongI b ws)
    · rw [shortB_total h3 h1, h2] at hs; cases hs
    · rw [shortB_trans hs h3] at h2; cases h2
theorem listI_inc (set : Int) (m : Nat) : incL (listI set m) := by
  unfold listI incL
  rw [List.pairwise_map]
  refine List.Pairwise.imp ?_ ((List.pairwise_lt_range (n := m)).filter _)
  intro a c h; omega
theorem shl_len {m : Nat} (h : m ≤ 5) : ∃ M : Int, IntKind.i64.wrap (1 * 2 ^ (min (m : Int).toNat 64)) = M ∧ 1 ≤ M := by
  have : m = 0 ∨ m = 1 ∨ m = 2 ∨ m = 3 ∨ m = 4 ∨ m = 5 := by omega
  rcases this with rfl | rfl | rfl | rfl | rfl | rfl
  · exact ⟨1, by decide, by decide⟩
  · exact ⟨2, by decide, by decide⟩
  · exact ⟨4, by decide, by decide⟩
  · exact ⟨8, by decide, by decide⟩
  · exact ⟨16, by decide, by decide⟩
  · exact ⟨32, by decide, by decide⟩
theorem StandWrong_law (b : SBook) (n : Int) : Sem1 14 [.agg (bookC .sh .sh b), pi n] (pb true) := by
  by_cases ho : okBook b
  case neg =>
    have hW := (Wrong_sem .sh .sh b).mono fun r h => h.trans (if_neg ho)
    have hS := (sound_sem .sh .sh b).mono fun r h => h.trans (congrArg pb (decide_eq_false ho))
    refine semC_of_exec' mixed Try.func14 (by kernel_rfl) (by kernel_rfl) ac14_ok 2 rfl (by decide) [(.tmp 4)] (by kernel_rfl) ?_
    intro hr C hC hI
    unfold ac14
    simp only [go_sem, Nat.reduceBEq, Nat.reduceAdd]
    refine call_pure2 hC (hW) rfl (PVleL_refl _) ?_
    rintro r rfl
    simp only [go_sem, Nat.reduceBEq, Nat.reduceAdd]
    refine call_pure2 hC (hS) rfl (PVleL_refl _) ?_
    rintro r rfl
    simp only [go_sem, Nat.reduceBEq, decide_true, Int.natCast_zero]
    refine call_pure2 hC (stood_sem) rfl (PVleL_refl _) ?_
    rintro r rfl
    simp only [go_sem, Nat.reduceBEq]
    exact retQ_one rfl rfl
  have hS := (sound_sem .sh .sh b).mono fun r h => h.trans (congrArg pb (decide_eq_true ho))
  have ht := ho.2.2.2.1
  obtain ⟨M, hM, hM1⟩ := shl_len (m := b.trials.length) ht
  have hgr := few_grows ho
  have hnil := few_nil ho
  have hlen : decide (((fewI b).length : Int) = 0) = decide (truthL b ≠ []) := decide_eq_decide.2 (by rw [← hnil]; simp)
  refine semC_of_exec' mixed Try.func14 (by kernel_rfl) (by kernel_rfl) ac14_ok 2 rfl (by decide) [(.tmp 4)] (by kernel_rfl) ?_
  intro hr C hC hI
  unfold ac14
  simp only [go_sem, Nat.reduceBEq, Nat.reduceAdd]
  refine call_pure2 hC (Wrong_ok ho) rfl (PVleL_refl _) ?_
  rintro r rfl
  simp only [go_sem, Nat.reduceBEq, Nat.reduceAdd]
  refine call_pure2 hC (hS) rfl (PVleL_refl _) ?_
  rintro r rfl
  simp only [go_sem, Nat.reduceBEq, Nat.reduceAdd]
  refine call_pure2 hC (Right_ok ho) rfl (PVleL_refl _) ?_
  rintro r rfl
  simp only [go_sem, Nat.reduceBEq, decide_false, not_true_eq_false, List.length_map]
  refine call_pure2 hC (Grows_sem (fewI b) b.trials.length) rfl (PVleL_refl _) ?_
  rintro r ⟨t, rfl, hg⟩
  rw [hg.2 hgr]
  simp only [go_sem, Nat.reduceBEq, Nat.reduceAdd, decide_false, not_true_eq_false, List.length_map, hlen]
  refine call_pure2 hC (without_sem .sh .sh b (fewI b) (by omega)) rfl (PVleL_refl _) ?_
  rintro r rfl
  simp only [go_sem, Nat.reduceBEq]
  refine call_pure2 hC (Right_ok (without_ok ho (fewI b))) rfl (PVleL_refl _) ?_
  rintro r rfl
  simp only [go_sem, Nat.reduceBEq, decide_eq_true (few_true ho), decide_false, not_true_eq_false, Bool.false_eq_true, bin_shl (show ¬ ((b.trials.length : Nat) : Int) < 0 by omega), List.length_map, hM]
  refine call_pure2 hC (Round_sem n M) rfl (PVleL_refl _) ?_
  rintro r rfl
  simp only [go_sem, Nat.reduceBEq]
  refine call_pure2 hC (List_sem (rndI n M) b.trials.length (by omega)) rfl (PVleL_refl _) ?_
  rintro r rfl
  simp only [go_sem, Nat.reduceBEq]
  refine call_pure2 hC (Shorter_sem ..) rfl (PVleL_refl _) ?_
  rintro r rfl
  simp only [go_sem, Nat.reduceBEq]
  cases hs : shortB (listI (rndI n M) b.trials.length) (fewI b)
  · simp only [go_sem, Nat.reduceBEq]
    refine call_pure2 hC (stood_sem) rfl (PVleL_refl _) ?_
    rintro r rfl
    simp only [go_sem, Nat.reduceBEq]
    exact retQ_one rfl rfl
  · simp only [go_sem, Nat.reduceBEq, Nat.reduceAdd]
    refine call_pure2 hC (without_sem .sh .sh b (listI (rndI n M) b.trials.length) (by omega)) rfl (PVleL_refl _) ?_
    rintro r rfl
    simp only [go_sem, Nat.reduceBEq]
    refine call_pure2 hC (Right_ok (without_ok ho (listI (rndI n M) b.trials.length))) rfl (PVleL_refl _) ?_
    rintro r rfl
    simp only [go_sem, Nat.reduceBEq, decide_eq_false (show ¬ truthL (withoutB b (listI (rndI n M) b.trials.length)) ≠ [] from fun h => h (few_least ho (listI_inc _ _) hs)), decide_true]
    refine call_pure2 hC (stood_sem) rfl (PVleL_refl _) ?_
    rintro r rfl
    simp only [go_sem, Nat.reduceBEq]
    exact retQ_one rfl rfl
set_option maxRecDepth 100000 in
theorem StandWrong_row {l0 l1 : List PV} (T0 : Ty Try.prog 10 25 l0) (T1 : Ty Try.prog 10 3 l1) : SemC Try.prog 14 [argPV Try.prog 25 l0, argPV Try.prog 3 l1] (fun r => r = pb true) := by
  obtain ⟨b, rfl⟩ := ty_book T0
  obtain ⟨n, rfl⟩ := tyInt uInt T1
  rw [argStruct Try.underlying25, argInt uInt]
  exact StandWrong_law b n
end Go.Proofs.Ytaejmbmkkdkliaa
namespace Go.Proofs.Ytaejmbmkkdkliaa
open Go.RowKit
def ac32 : AC := (AC.seq (AC.ops [(AOp.mk (some 2) (AK.box 10 (AX.t 0)) none 0 false true), (AOp.mk (some 4) (AK.mv (AX.c (PV.val (Value.int IntKind.i64 0)))) none 1 false true), (AOp.mk (some 5) (AK.mv (AX.c (PV.val (Value.int IntKind.i64 0)))) none 2 false true)]) (AC.seq (AC.ops [(AOp.mk (some 13) (AK.ld (some 10) (AX.t 2)) none 0 true false), (AOp.mk (some 14) (AK.mv (AX.t 1)) none 1 true false), (AOp.mk (some 15) (AK.call 43 [(AX.t 14), (AX.c (PV.val (Value.int IntKind.i64 (-60)))), (AX.c (PV.val (Value.int IntKind.i64 60)))]) none 2 false false), (AOp.mk (some 16) (AK.call 72 [(AX.t 13), (AX.t 15)]) none 3 false false), (AOp.mk (some 12) (AK.mv (AX.t 16)) none 4 true false), (AOp.mk (some 17) (AK.ext (AX.t 12) 0) none 5 true false), (AOp.mk (some 18) (AK.ext (AX.t 12) 1) none 6 true false), (AOp.mk (some 6) (AK.mv (AX.t 17)) none 7 true false), (AOp.mk (some 7) (AK.mv (AX.t 18)) none 8 true true)]) (AC.seq (AC.seq (AC.ops [(AOp.mk (some 19) (AK.mv (AX.t 7)) none 0 false true), (AOp.mk (some 20) (AK.bin false BinOp.neq (AX.t 19) (AX.c (PV.val (Value.int IntKind.i64 0)))) none 1 false true)]) (AC.cond (AX.t 20) (AC.seq (AC.ops [(AOp.mk (some 21) (AK.mv (AX.t 7)) none 0 false true), (AOp.mk (some 4) (AK.mv (AX.c (PV.val (Value.int IntKind.i64 0)))) none 1 false true), (AOp.mk (some 5) (AK.mv (AX.t 21)) none 2 false true)]) AC.ret) AC.skip)) (AC.seq (AC.ops [(AOp.mk (some 22) (AK.ld (some 10) (AX.t 2)) none 0 false true), (AOp.mk (some 8) (AK.new (PV.agg [(PV.val (Value.int IntKind.i64 0)), (PV.val (Value.int IntKind.i64 0)), (PV.val (Value.int IntKind.i64 0)), (PV.val (Value.int IntKind.i64 0)), (PV.sl SK.full 0 []), (PV.val (Value.int IntKind.i64 0)), (PV.val (Value.int IntKind.i64 0)), (PV.val (Value.int IntKind.i64 0)), (PV.val (Value.int IntKind.i64 0)), (PV.sl SK.full 0 [])])) none 1 false true), (AOp.mk none (AK.st 10 (AX.t 8) (AX.t 22)) none 2 false true)]) (AC.seq (AC.ops [(AOp.mk (some 23) (AK.bslice false 70 4 0 [(PV.val (Value.int IntKind.i64 0)), (PV.val (Value.int IntKind.i64 0)), (PV.val (Value.int IntKind.i64 0)), (PV.val (Value.int IntKind.i64 0))] []) none 0 false true), (AOp.mk (some 24) (AK.fadr 4 (AX.t 2)) none 1 false true), (AOp.mk (some 25) (AK.ld none (AX.t 24)) none 2 false true), (AOp.mk (some 26) (AK.app false 70 4 32 [(PV.val (Value.int IntKind.i64 0)), (PV.val (Value.int IntKind.i64 0)), (PV.val (Value.int IntKind.i64 0)), (PV.val (Value.int IntKind.i64 0))] (AX.t 23) (AX.t 25)) none 3 false true), (AOp.mk (some 27) (AK.mv (AX.t 1)) none 4 false true), (AOp.mk (some 28) (AK.build [(PV.val (Value.int IntKind.i64 0)), (PV.val (Value.int IntKind.i64 0)), (PV.val (Value.int IntKind.i64 0)), (PV.val (Value.int IntKind.i64 0))] [(2, (1, (AX.t 27)))]) none 5 false true), (AOp.mk (some 29) (AK.bslice false 70 4 1 [(PV.val (Value.int IntKind.i64 0)), (PV.val (Value.int IntKind.i64 0)), (PV.val (Value.int IntKind.i64 0)), (PV.val (Value.int IntKind.i64 0))] [(0, (4, (AX.t 28)))]) none 6 false true), (AOp.mk (some 30) (AK.app false 70 4 32 [(PV.val (Value.int IntKind.i64 0)), (PV.val (Value.int IntKind.i64 0)), (PV.val (Value.int IntKind.i64 0)), (PV.val (Value.int IntKind.i64 0))] (AX.t 26) (AX.t 29)) none 7 false true), (AOp.mk (some 31) (AK.fadr 4 (AX.t 8)) none 8 false true), (AOp.mk none (AK.st 1 (AX.t 31) (AX.t 30)) none 9 false true)]) (AC.seq (AC.seq (AC.ops [(AOp.mk (some 9) (AK.mv (AX.c (PV.val (Value.int IntKind.i64 0)))) none 0 false true)]) (AC.block 0 (AC.loop (AC.seq (AC.seq (AC.ops [(AOp.mk (some 32) (AK.mv (AX.t 9)) none 0 false true), (AOp.mk (some 33) (AK.bin false BinOp.leq (AX.t 32) (AX.c (PV.val (Value.int IntKind.i64 99)))) none 1 false true)]) (AC.cond (AX.t 33) AC.skip (AC.exit 0))) (AC.seq (AC.block 1 (AC.seq (AC.ops [(AOp.mk (some 10) (AK.mv (AX.c (PV.sl SK.full 0 []))) none 0 false true)]) (AC.seq (AC.seq (AC.ops [(AOp.mk (some 11) (AK.mv (AX.c (PV.val (Value.int IntKind.i64 0)))) none 0 false true)]) (AC.block 2 (AC.loop (AC.seq (AC.seq (AC.ops [(AOp.mk (some 36) (AK.mv (AX.t 11)) none 0 false true), (AOp.mk (some 37) (AK.mv (AX.t 6)) none 1 false true), (AOp.mk (some 38) (AK.len (AX.t 37)) none 2 false true), (AOp.mk (some 39) (AK.bin false BinOp.lss (AX.t 36) (AX.t 38)) none 3 false true)]) (AC.cond (AX.t 39) AC.skip (AC.exit 2))) (AC.seq (AC.block 3 (AC.ops [(AOp.mk (some 42) (AK.mv (AX.t 10)) none 0 false true), (AOp.mk (some 43) (AK.mv (AX.t 6)) none 1 false true), (AOp.mk (some 44) (AK.mv (AX.t 11)) none 2 false true), (AOp.mk (some 45) (AK.iadrS 1 (AX.t 43) (AX.t 44)) none 3 false true), (AOp.mk (some 46) (AK.ld none (AX.t 45)) none 4 false true), (AOp.mk (some 47) (AK.mv (AX.t 9)) none 5 false true), (AOp.mk (some 48) (AK.call 87 [(AX.t 46), (AX.t 47)]) none 6 false true), (AOp.mk (some 49) (AK.bslice false 47 1 1 [(PV.sl SK.full 0 [])] [(0, (1, (AX.t 48)))]) none 7 false true), (AOp.mk (some 50) (AK.app false 47 1 24 [(PV.sl SK.full 0 [])] (AX.t 42) (AX.t 49)) none 8 false true), (AOp.mk (some 10) (AK.mv (AX.t 50)) none 9 false true)])) (AC.ops [(AOp.mk (some 40) (AK.mv (AX.t 11)) none 0 false true), (AOp.mk (some 41) (AK.bin false BinOp.add (AX.t 40) (AX.c (PV.val (Value.int IntKind.i64 1)))) none 1 false true), (AOp.mk (some 11) (AK.mv (AX.t 41)) none 2 false true)])))))) (AC.seq (AC.ops [(AOp.mk (some 51) (AK.ld (some 10) (AX.t 8)) none 0 false true), (AOp.mk (some 52) (AK.mv (AX.t 10)) none 1 false true), (AOp.mk (some 53) (AK.call 79 [(AX.t 51), (AX.t 52)]) none 2 false true), (AOp.mk (some 54) (AK.bin false BinOp.eql (AX.t 53) (AX.c (PV.val (Value.int IntKind.i64 0)))) none 3 false true)]) (AC.cond (AX.t 54) (AC.seq (AC.ops [(AOp.mk (some 55) (AK.mv (AX.t 9)) none 0 false true), (AOp.mk (some 4) (AK.mv (AX.t 55)) none 1 false true), (AOp.mk (some 5) (AK.mv (AX.c (PV.val (Value.int IntKind.i64 0)))) none 2 false true)]) AC.ret) AC.skip))))) (AC.ops [(AOp.mk (some 34) (AK.mv (AX.t 9)) none 0 false true), (AOp.mk (some 35) (AK.bin false BinOp.add (AX.t 34) (AX.c (PV.val (Value.int IntKind.i64 1)))) none 1 false true), (AOp.mk (some 9) (AK.mv (AX.t 35)) none 2 false true)])))))) (AC.seq (AC.ops [(AOp.mk (some 4) (AK.mv (AX.c (PV.val (Value.int IntKind.i64 0)))) none 0 false true), (AOp.mk (some 5) (AK.mv (AX.c (PV.val (Value.int IntKind.i64 4)))) none 1 false true)]) AC.ret)))))))
theorem ac32_ok : cCode Try.prog (fun _ => false) Try.f32.ntmps (Try.f32.body.getD .skip) = some ac32 := by kernel_rfl
def ac34 : AC := (AC.seq (AC.ops [(AOp.mk (some 1) (AK.box 10 (AX.t 0)) none 0 false true), (AOp.mk (some 2) (AK.mv (AX.c (PV.val (Value.int IntKind.i64 0)))) none 1 false true), (AOp.mk (some 3) (AK.mv (AX.c (PV.val (Value.int IntKind.i64 0)))) none 2 false true)]) (AC.seq (AC.ops [(AOp.mk (some 9) (AK.ld (some 10) (AX.t 1)) none 0 false true), (AOp.mk (some 10) (AK.call 72 [(AX.t 9), (AX.c (PV.val (Value.bool true)))]) none 1 false true), (AOp.mk (some 8) (AK.mv (AX.t 10)) none 2 false true), (AOp.mk (some 11) (AK.ext (AX.t 8) 0) none 3 false true), (AOp.mk (some 12) (AK.ext (AX.t 8) 1) none 4 false true), (AOp.mk (some 4) (AK.mv (AX.t 11)) none 5 false true), (AOp.mk (some 5) (AK.mv (AX.t 12)) none 6 false true)]) (AC.seq (AC.seq (AC.ops [(AOp.mk (some 13) (AK.mv (AX.t 5)) none 0 false true), (AOp.mk (some 14) (AK.bin false BinOp.neq (AX.t 13) (AX.c (PV.val (Value.int IntKind.i64 0)))) none 1 false true)]) (AC.cond (AX.t 14) (AC.seq (AC.ops [(AOp.mk (some 15) (AK.mv (AX.t 5)) none 0 false true), (AOp.mk (some 2) (AK.mv (AX.c (PV.val (Value.int IntKind.i64 0)))) none 1 false true), (AOp.mk (some 3) (AK.mv (AX.t 15)) none 2 false true)]) AC.ret) AC.skip)) (AC.seq (AC.seq (AC.ops [(AOp.mk (some 6) (AK.mv (AX.c (PV.val (Value.int IntKind.i64 0)))) none 0 false true)]) (AC.block 0 (AC.loop (AC.seq (AC.seq (AC.ops [(AOp.mk (some 16) (AK.mv (AX.t 6)) none 0 false true), (AOp.mk (some 17) (AK.bin false BinOp.leq (AX.t 16) (AX.c (PV.val (Value.int IntKind.i64 20)))) none 1 false true)]) (AC.cond (AX.t 17) AC.skip (AC.exit 0))) (AC.seq (AC.block 1 (AC.seq (AC.ops [(AOp.mk (some 20) (AK.ld (some 10) (AX.t 1)) none 0 false true), (AOp.mk (some 7) (AK.new (PV.agg [(PV.val (Value.int IntKind.i64 0)), (PV.val (Value.int IntKind.i64 0)), (PV.val (Value.int IntKind.i64 0)), (PV.val (Value.int IntKind.i64 0)), (PV.sl SK.full 0 []), (PV.val (Value.int IntKind.i64 0)), (PV.val (Value.int IntKind.i64 0)), (PV.val (Value.int IntKind.i64 0)), (PV.val (Value.int IntKind.i64 0)), (PV.sl SK.full 0 [])])) none 1 false true), (AOp.mk none (AK.st 10 (AX.t 7) (AX.t 20)) none 2 false true)]) (AC.seq (AC.ops [(AOp.mk (some 21) (AK.fadr 1 (AX.t 1)) none 0 true false), (AOp.mk (some 22) (AK.ld none (AX.t 21)) none 1 true false), (AOp.mk (some 23) (AK.mv (AX.t 6)) none 2 true false), (AOp.mk (some 24) (AK.bin false BinOp.add (AX.t 22) (AX.t 23)) none 3 true false), (AOp.mk (some 25) (AK.fadr 2 (AX.t 1)) none 4 true false), (AOp.mk (some 26) (AK.ld none (AX.t 25)) none 5 true false), (AOp.mk (some 27) (AK.mv (AX.t 6)) none 6 true false), (AOp.mk (some 28) (AK.bin false BinOp.add (AX.t 26) (AX.t 27)) none 7 true false), (AOp.mk (some 29) (AK.fadr 1 (AX.t 7)) none 8 true false), (AOp.mk none (AK.st 1 (AX.t 29) (AX.t 24)) none 9 false false), (AOp.mk (some 30) (AK.fadr 2 (AX.t 7)) none 10 true false), (AOp.mk none (AK.st 1 (AX.t 30) (AX.t 28)) none 11 false true)]) (AC.seq (AC.ops [(AOp.mk (some 31) (AK.ld (some 10) (AX.t 7)) none 0 false true), (AOp.mk (some 32) (AK.mv (AX.t 4)) none 1 false true), (AOp.mk (some 33) (AK.call 79 [(AX.t 31), (AX.t 32)]) none 2 false true), (AOp.mk (some 34) (AK.bin false BinOp.eql (AX.t 33) (AX.c (PV.val (Value.int IntKind.i64 0)))) none 3 false true)]) (AC.cond (AX.t 34) (AC.seq (AC.ops [(AOp.mk (some 35) (AK.mv (AX.t 6)) none 0 false true), (AOp.mk (some 2) (AK.mv (AX.t 35)) none 1 false true), (AOp.mk (some 3) (AK.mv (AX.c (PV.val (Value.int IntKind.i64 0)))) none 2 false true)]) AC.ret) AC.skip))))) (AC.ops [(AOp.mk (some 18) (AK.mv (AX.t 6)) none 0 false true), (AOp.mk (some 19) (AK.bin false BinOp.add (AX.t 18) (AX.c (PV.val (Value.int IntKind.i64 1)))) none 1 false true), (AOp.mk (some 6) (AK.mv (AX.t 19)) none 2 false true)])))))) (AC.seq (AC.ops [(AOp.mk (some 2) (AK.mv (AX.c (PV.val (Value.int IntKind.i64 0)))) none 0 false true), (AOp.mk (some 3) (AK.mv (AX.c (PV.val (Value.int IntKind.i64 4)))) none 1 false true)]) AC.ret)))))
theorem ac34_ok : cCode Try.prog (fun _ => false) Try.f34.ntmps (Try.f34.body.getD .skip) = some ac34 := by kernel_rfl
theorem ldL_ref {b : SBook} (ho : okBook b) : ldL b (refT b) = loadsI b := refT_load ho
theorem rSafe_sem (k k2 : SK) (b : SBook) (w : Int) : Sem1 26 [.agg (bookC k k2 b), pi w]
    (if errI b (decide (1 ≤ w ∧ w ≤ b.limit)) = 0 then .tup [pb (safeI b (loadsI b) w), pi 0] else .tup [pb false, pi (errI b (decide (1 ≤ w ∧ w ≤ b.limit)))]) := by
  obtain ⟨R, hR⟩ : ∃ R, (if errI b (decide (1 ≤ w ∧ w ≤ b.limit)) = 0 then PV.tup [pb (safeI b (loadsI b) w), pi 0] else .tup [pb false, pi (errI b (decide (1 ≤ w ∧ w ≤ b.limit)))]) = R := ⟨_, rfl⟩
  rw [hR]
  refine semC_of_exec' mixed Try.func26 (by kernel_rfl) (by kernel_rfl) ac26_ok 2 rfl (by decide) [(.tmp 4), (.tmp 5)] (by kernel_rfl) ?_
  intro hr C hC hI
  unfold ac26
  simp only [go_sem, Nat.reduceBEq, Nat.reduceAdd]
  refine call_pure2 hC (isWeight_sem ..) rfl (PVleL_refl _) ?_
  rintro r rfl
  simp only [go_sem, Nat.reduceBEq]
  refine askC hC k k2 b _ (fun hne => ?_) (fun h0 => ?_)
  · rw [if_neg hne] at hR
    simp only [go_sem, Nat.reduceBEq, Nat.reduceAdd]
    exact ⟨fun _ => retQ_two rfl rfl hR, fun h => absurd h hne⟩
  rw [if_pos h0] at hR
  obtain ⟨ho, hk⟩ := errI_ok h0
  have hk := of_decide_eq_true hk
  have hg := ok_rng ho
  have hh := holds_sem k k2 (refT_mok ho) (by have := refT_len ho; omega) hg.2.2 (w := w) (by omega)
  rw [ldL_ref ho] at hh
  simp only [go_sem, Nat.reduceBEq, Nat.reduceAdd]
  refine ⟨fun h => by (simp at h), fun _ => ?_⟩
  refine call_pure2 hC (hh) rfl (PVleL_refl _) ?_
  rintro r rfl
  simp only [go_sem, Nat.reduceBEq]
  exact retQ_two rfl rfl hR
theorem rLeast_sem (k k2 : SK) (b : SBook) : Sem1 28 [.agg (bookC k k2 b)]
    (if errI b true = 0 then (match leastI b (loadsI b) with | some j => .tup [pi (j + 1), pi 0] | none => .tup [pi 0, pi 4]) else .tup [pi 0, pi (errI b true)]) := by
  obtain ⟨R, hR⟩ : ∃ R, (if errI b true = 0 then (match leastI b (loadsI b) with | some j => PV.tup [pi (j + 1), pi 0] | none => .tup [pi 0, pi 4]) else .tup [pi 0, pi (errI b true)]) = R := ⟨_, rfl⟩
  rw [hR]
  refine semC_of_exec' mixed Try.func28 (by kernel_rfl) (by kernel_rfl) ac28_ok 1 rfl (by decide) [(.tmp 2), (.tmp 3)] (by kernel_rfl) ?_
  intro hr C hC hI
  unfold ac28
  simp only [go_sem, Nat.reduceBEq, Nat.reduceAdd]
  refine askC hC k k2 b true (fun hne => ?_) (fun h0 => ?_)
  · rw [if_neg hne] at hR
    simp only [go_sem, Nat.reduceBEq, Nat.reduceAdd]
    exact ⟨fun _ => retQ_two rfl rfl hR, fun h => absurd h hne⟩
  rw [if_pos h0] at hR
  obtain ⟨ho, -⟩ := errI_ok h0
  have hg := ok_rng ho
  have hh := rleast_sem k k2 (refT_mok ho) (by have := refT_len ho; omega) hg.2.2 (by omega)
  rw [ldL_ref ho] at hh
  simp only [go_sem, Nat.reduceBEq, Nat.reduceAdd]
  refine ⟨fun h => by (simp at h), fun _ => ?_⟩
  refine call_pure2 hC (hh) rfl (PVleL_refl _) ?_
  rintro r rfl
  simp only [go_sem, Nat.reduceBEq]
  cases hl : leastI b (loadsI b) with
  | none =>
    rw [hl] at hR
    refine ⟨fun h => by (simp [leastN] at h), fun _ => retQ_two rfl rfl hR⟩
  | some j =>
    rw [hl] at hR
    refine ⟨fun _ => retQ_two rfl rfl hR, fun h => absurd (show (0 : Int) < leastN (some j) by have : leastN (some j) = (j : Int) + 1 := rfl; omega) h⟩
end Go.Proofs.Ytaejmbmkkdkliaa
namespace Go.Proofs.Ytaejmbmkkdkliaa
open Go.RowKit Go.Shelf
/-- The slots that stay, as they are. -/
def keepS (t : List (Nat × AV)) : List Nat → List (Nat × AV)
  | [] => []
  | i :: l => (i, look t i) :: keepS t l
theorem keepS_nil {t : List (Nat × AV)} : keepS t [] = [] := rfl
theorem keepS_cons {t : List (Nat × AV)} {i : Nat} {l : List Nat} : keepS t (i :: l) = (i, look t i) :: keepS t l := rfl
/-- The state of a round. -/
def upS (s : AS) (ks : List Nat) (f : List (Nat × AV)) (L : List ABlk) (lv : List Nat) : AS := ⟨f ++ keepS s.t ks, L, lv, s.ys, s.base⟩
theorem upS_eq {t f : List (Nat × AV)} {loc L : List ABlk} {live lv : List Nat} {ys : Option (List (List PV))} {base : Nat} {ks : List Nat} : upS ⟨t, loc, live, ys, base⟩ ks f L lv = ⟨f ++ keepS t ks, L, lv, ys, base⟩ := rfl
theorem wkT_app {t : List (Nat × AV)} {n : Nat} : ∀ {a b : List (Nat × AV)}, wkT t n a → wkT t n b → wkT t n (a ++ b)
  | [], _, _, h => h
  | (_, _) :: _, _, h, k => ⟨h.1, wkT_app h.2 k⟩
def loAll (t : List (Nat × AV)) (n : Nat) : List Nat → Bool
  | [] => true
  | i :: l => (look t i).lo n && loAll t n l
theorem wkT_keep {t : List (Nat × AV)} {n : Nat} : ∀ {ks : List Nat}, loAll t n ks = true → wkT t n (keepS t ks)
  | [], _ => trivial
  | i :: l, h => by
    simp only [loAll, Bool.and_eq_true] at h
    exact ⟨⟨rfl, h.1⟩, wkT_keep h.2⟩
def loBlk (n : Nat) : List ABlk → Bool
  | [] => true
  | .cells cs :: l => AV.lo.loL n cs && loBlk n l
  | .half cs :: l => AV.lo.loL n cs && loBlk n l
  | _ :: l => loBlk n l
theorem wkL_same {n : Nat} : ∀ {L : List ABlk}, loBlk n L = true → wkL n L L
  | [], _ => trivial
  | b :: L, h => by
    cases b <;> simp only [loBlk, Bool.and_eq_true] at h
    · exact ⟨.inr ⟨rfl, h.1⟩, wkL_same h.2⟩
    · exact ⟨.inr ⟨rfl, trivial⟩, wkL_same h⟩
    · exact ⟨.inr ⟨rfl, trivial⟩, wkL_same h⟩
    · exact ⟨.inr ⟨rfl, trivial⟩, wkL_same h⟩
    · exact ⟨.inr ⟨rfl, h.1⟩, wkL_same h.2⟩
theorem wk_up {s : AS} {ks : List Nat} {f : List (Nat × AV)} {L : List ABlk} {lv : List Nat} (hk : loAll s.t L.length ks = true) (hf : wkT s.t L.length f) (hL : wkL L.length s.loc L) (hlv : (∀ t, t ∈ lv → t ∈ s.live) ∧ lv.Nodup) (hb : s.base ≤ L.length) : Wk s (upS s ks f L lv) :=
  ⟨wkT_app hf (wkT_keep hk), hL, hlv.1, hlv.2, rfl, rfl, hb⟩
theorem loop_g {α : Type} {C : Con} {ac : AC} {Q : AEx → AS → Prop} {s : AS} (P : α → Prop) (μ : α → Nat) (ks : List Nat) (f : α → List (Nat × AV)) (L : α → List ABlk) (lv : α → List Nat) (a0 : α) (h0 : P a0) (hw : Wk s (upS s ks (f a0) (L a0) (lv a0)))
    (hr : ∀ (a : α) (h : P a), exec C ac (roundQ (ι := {a : α // P a}) (fun a => upS s ks (f a.1) (L a.1) (lv a.1)) (fun a => μ a.1) ⟨a, h⟩ Q) (upS s ks (f a) (L a) (lv a))) : exec C (.loop ac) Q s :=
  ⟨{a : α // P a}, fun a => upS s ks (f a.1) (L a.1) (lv a.1), fun a => μ a.1, ⟨a0, h0⟩, hw, fun ⟨a, h⟩ => hr a h⟩
/-- A loop whose rounds are counted, and that turns slots only. -/
theorem loop_k {C : Con} {ac : AC} {Q : AEx → AS → Prop} {s : AS} (n : Nat) (I : Nat → Prop) (ks : List Nat) (f : Nat → List (Nat × AV)) (h0 : I 0) (hk : loAll s.t s.loc.length ks = true) (hb : loBlk s.loc.length s.loc = true ∧ s.live.Nodup ∧ s.base ≤ s.loc.length) (hf : wkT s.t s.loc.length (f 0))
    (hr : ∀ (k : Nat) (h : k ≤ n ∧ I k), exec C ac (roundQ (ι := {k : Nat // k ≤ n ∧ I k}) (fun k => upS s ks (f k.1) s.loc s.live) (fun k => n - k.1) ⟨k, h⟩ Q) (upS s ks (f k) s.loc s.live)) : exec C (.loop ac) Q s :=
  loop_nat n I (fun k => upS s ks (f k) s.loc s.live) h0 (wk_up hk hf (wkL_same hb.1) ⟨fun _ h => h, hb.2.1⟩ hb.2.2) hr
theorem loop_kl {C : Con} {ac : AC} {Q : AEx → AS → Prop} {s : AS} (n : Nat) (I : Nat → Prop) (ks : List Nat) (f : Nat → List (Nat × AV)) (L : Nat → List ABlk) (h0 : I 0) (hw : Wk s (upS s ks (f 0) (L 0) s.live))
    (hr : ∀ (k : Nat) (h : k ≤ n ∧ I k), exec C ac (roundQ (ι := {k : Nat // k ≤ n ∧ I k}) (fun k => upS s ks (f k.1) (L k.1) s.live) (fun k => n - k.1) ⟨k, h⟩ Q) (upS s ks (f k) (L k) s.live)) : exec C (.loop ac) Q s :=
  loop_nat n I (fun k => upS s ks (f k) (L k) s.live) h0 hw hr
/-- A round's end. -/
theorem round_k {n : Nat} {I : Nat → Prop} {st : Nat → AS} {k : Nat} {h : k ≤ n ∧ I k} {s : AS} (h1 : k < n) (h2 : I (k + 1)) (h3 : Wk s (st (k + 1))) :
    ∃ j : {k : Nat // k ≤ n ∧ I k}, n - j.1 < n - (⟨k, h⟩ : {k : Nat // k ≤ n ∧ I k}).1 ∧ Wk s (st j.1) := ⟨⟨k + 1, h1, h2⟩, by simp only; omega, h3⟩
theorem iadr2_0 {id : Nat} : iadrAS 1 2 (.loc id 0) (.p (.val (.int .i64 0))) = some (.loc id 0) := rfl
theorem iadr2_1 {id : Nat} : iadrAS 1 2 (.loc id 0) (.p (.val (.int .i64 1))) = some (.loc id 1) := rfl
theorem iadr3_0 {id : Nat} : iadrAS 1 3 (.loc id 0) (.p (.val (.int .i64 0))) = some (.loc id 0) := rfl
theorem iadr3_1 {id : Nat} : iadrAS 1 3 (.loc id 0) (.p (.val (.int .i64 1))) = some (.loc id 1) := rfl
theorem iadr3_2 {id : Nat} : iadrAS 1 3 (.loc id 0) (.p (.val (.int .i64 2))) = some (.loc id 2) := rfl
theorem iadr4_0 {id : Nat} : iadrAS 1 4 (.loc id 0) (.p (.val (.int .i64 0))) = some (.loc id 0) := rfl
theorem iadr4_1 {id : Nat} : iadrAS 1 4 (.loc id 0) (.p (.val (.int .i64 1))) = some (.loc id 1) := rfl
theorem iadr4_2 {id : Nat} : iadrAS 1 4 (.loc id 0) (.p (.val (.int .i64 2))) = some (.loc id 2) := rfl
theorem iadr4_3 {id : Nat} : iadrAS 1 4 (.loc id 0) (.p (.val (.int .i64 3))) = some (.loc id 3) := rfl
attribute [go_sem] iadr2_0 iadr2_1 iadr3_0 iadr3_1 iadr3_2 iadr4_0 iadr4_1 iadr4_2 iadr4_3
attribute [go_sem] keepS_nil keepS_cons upS_eq
end Go.Proofs.Ytaejmbmkkdkliaa
namespace Go.Proofs.Ytaejmbmkkdkliaa
open Go.RowKit
theorem far_step {b : SBook} {ls : List SLoad} {w s : Int} {q i : Nat} (h : i < q) (n : Int) : farI b ls w s (q - i) n = if (0 : Int) < countI b ls w (n + s) then n else farI b ls w s (q - (i + 1)) (n + s) := by
  rw [show q - i = (q - (i + 1)) + 1 by omega]; rfl
theorem rRoom_sem (k k2 : SK) (b : SBook) (w : Int) : Sem1 30 [.agg (bookC k k2 b), pi w]
    (if errI b (decide (1 ≤ w ∧ w ≤ b.limit)) = 0 then roomI b (loadsI b) w else .tup [.agg [pi 0, pi 0], pi (errI b (decide (1 ≤ w ∧ w ≤ b.limit)))]) := by
  obtain ⟨R, hR⟩ : ∃ R, (if errI b (decide (1 ≤ w ∧ w ≤ b.limit)) = 0 then roomI b (loadsI b) w else .tup [.agg [pi 0, pi 0], pi (errI b (decide (1 ≤ w ∧ w ≤ b.limit)))]) = R := ⟨_, rfl⟩
  rw [hR]
  refine semC_of_exec' mixed Try.func30 (by kernel_rfl) (by kernel_rfl) ac30_ok 2 rfl (by decide) [(.cell 4 42), (.tmp 5)] (by kernel_rfl) ?_
  intro hr C hC hI
  unfold ac30
  simp only [go_sem, Nat.reduceBEq, Nat.reduceAdd]
  refine call_pure2 hC (isWeight_sem ..) rfl (PVleL_refl _) ?_
  rintro r rfl
  simp only [go_sem, Nat.reduceBEq]
  refine askC hC k k2 b _ (fun hne => ?_) (fun h0 => ?_)
  · rw [if_neg hne] at hR
    simp only [go_sem, Nat.reduceBEq, Nat.reduceAdd, putCells]
    exact ⟨fun _ => retQ_ct (show shapeN Try.prog 42 = some (some 2) by kernel_rfl) rfl rfl hR, fun h => absurd h hne⟩
  rw [if_pos h0] at hR
  obtain ⟨ho, hk⟩ := errI_ok h0
  have hk := of_decide_eq_true hk
  have hg := ok_rng ho
  have hnv := fun (n : Int) (hn : -40 ≤ n ∧ n ≤ 40) => never_sem k k2 (refT_mok ho) (by have := refT_len ho; omega) (w := w) (n := n) (by omega) hn
  rw [ldL_ref ho] at hnv
  obtain ⟨ls, hls⟩ : ∃ ls, loadsI b = ls := ⟨_, rfl⟩
  rw [hls] at hnv hR
  unfold roomI at hR
  have hz : IntKind.i64.wrap (0 - b.lean) = -b.lean := by rw [wrap_id (by omega) (by omega)]; omega
  simp only [go_sem, Nat.reduceBEq, Nat.reduceAdd, putCells]
  refine ⟨fun h => by (simp at h), fun _ => ?_⟩
  refine call_pure2 hC (hnv 0 (by omega)) rfl (PVleL_refl _) ?_
  rintro r rfl
  simp only [go_sem, Nat.reduceBEq, Nat.reduceAdd, putCells]
  refine ⟨fun h1 => ?_, fun h1 => ?_⟩
  · rw [if_pos (by omega)] at hR
    exact retQ_ct (show shapeN Try.prog 42 = some (some 2) by kernel_rfl) rfl rfl hR
  rw [if_neg (by omega)] at hR
  refine call_pure2 hC (One_sem 0) rfl (PVleL_refl _) ?_
  rintro r rfl
  simp only [go_sem, Nat.reduceBEq, Nat.reduceAdd, putCells]
  refine loop_kl b.lean.toNat (fun i => farI b ls w (-1) b.lean.toNat 0 = farI b ls w (-1) (b.lean.toNat - i) (-i)) [1, 2, 4, 6, 8] (fun _ => []) (fun i => [.cells ((bookC k k2 b).map .p), .cells [.p (pi 0), .p (pi 0)], .cells [.p (pi (-i)), .p (pi 0)]]) (by simp) (by simp [Wk, wkT, wkL, look, AV.lo, AV.lo.loL, upS_eq, keepS_nil, keepS_cons]) ?_
  rintro i ⟨hi, hok⟩
  obtain ⟨lo, hlo⟩ : ∃ lo : Int, -(i : Int) = lo := ⟨_, rfl⟩
  rw [hlo] at hok
  simp only [hlo]
  have hz2 : IntKind.i64.wrap (lo - 1) = -((i + 1 : Nat) : Int) := by rw [wrap_id (by omega) (by omega)]; omega
  simp only [go_sem, Nat.reduceBEq, Nat.reduceAdd, hz, hz2]
  refine ⟨fun h5 => ?_, fun h5 => ?_⟩
  rotate_left
  have hf : farI b ls w (-1) b.lean.toNat 0 = lo := by rw [hok, show b.lean.toNat - i = 0 by omega]; rfl
  rotate_left
  have hst := far_step (b := b) (ls := ls) (w := w) (s := -1) (q := b.lean.toNat) (i := i) (by omega) lo
  rw [show lo + -1 = -((i + 1 : Nat) : Int) by omega] at hst
  refine call_pure2 hC (hnv (-((i + 1 : Nat) : Int)) (by omega)) rfl (PVleL_refl _) ?_
  rintro r rfl
  simp only [go_sem, Nat.reduceBEq, Nat.reduceAdd, Nat.reduceLeDiff, hz2]
  refine ⟨fun h6 => ?_, fun h6 => ?_⟩
  · refine ⟨⟨i + 1, by omega, ?_⟩, by simp only; omega, by simp [Wk, wkT, wkL, look, AV.lo, AV.lo.loL]⟩
    rw [hok, hst, if_neg (by omega)]
  have hf : farI b ls w (-1) b.lean.toNat 0 = lo := by rw [hok, hst, if_pos (by omega)]
  all_goals
    clear hz2 hok
    rw [hf] at hR
    clear hf
    refine loop_kl b.lean.toNat (fun i => farI b ls w 1 b.lean.toNat 0 = farI b ls w 1 (b.lean.toNat - i) i) [1, 2, 4, 6, 8] (fun _ => []) (fun i => [.cells ((bookC k k2 b).map .p), .cells [.p (pi 0), .p (pi 0)], .cells [.p (pi lo), .p (pi i)]]) (by simp) (by simp [Wk, wkT, wkL, look, AV.lo, AV.lo.loL, upS_eq, keepS_nil, keepS_cons]) ?_
    rintro q ⟨hq, hok⟩
    simp only [go_sem, Nat.reduceBEq, Nat.reduceAdd, wrap_succ (k := q) (by omega)]
    refine ⟨fun h5 => ?_, fun h5 => ?_⟩
    rotate_left
    have hf : farI b ls w 1 b.lean.toNat 0 = q := by rw [hok, show b.lean.toNat - q = 0 by omega]; rfl
    rotate_left
    have hst := far_step (b := b) (ls := ls) (w := w) (s := 1) (q := b.lean.toNat) (i := q) (by omega) q
    rw [show (q : Int) + 1 = ((q + 1 : Nat) : Int) by omega] at hst
    refine call_pure2 hC (hnv ((q + 1 : Nat) : Int) (by omega)) rfl (PVleL_refl _) ?_
    rintro r rfl
    simp only [go_sem, Nat.reduceBEq, Nat.reduceAdd, wrap_succ (k := q) (by omega)]
    refine ⟨fun h6 => ?_, fun h6 => ?_⟩
    · refine ⟨⟨q + 1, by omega, ?_⟩, by simp only; omega, by simp [Wk, wkT, wkL, look, AV.lo, AV.lo.loL]⟩
      rw [hok, hst, if_neg (by omega)]
    have hf : farI b ls w 1 b.lean.toNat 0 = q := by rw [hok, hst, if_pos (by omega)]
    all_goals
      rw [hf] at hR
      exact retQ_ct (show shapeN Try.prog 42 = some (some 2) by kernel_rfl) rfl rfl hR
end Go.Proofs.Ytaejmbmkkdkliaa
