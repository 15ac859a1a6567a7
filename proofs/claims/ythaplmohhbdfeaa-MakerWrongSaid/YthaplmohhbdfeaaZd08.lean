/- MakerWrong without the marks that are told to be wrong somebody is possible; without others that are fewer, or as many and before, nobody is; none are told just if somebody is possible with all; for every book and every number; no condition. Law: MakerWrong. -/
import Derived.Test.YthaplmohhbdfeaaZd07
import Derived.Test.YthaplmohhbdfeaaGa16
namespace Go.Proofs.Ythaplmohhbdfeaa.Mk
open Go.RowKit Ls
def ac51 : AC := (AC.seq (AC.ops [(AOp.mk (some 2) (AK.box 4 (AX.t 0)) none 0 false true), (AOp.mk (some 4) (AK.new (PV.agg [(PV.sl SK.full 0 []), (PV.sl SK.full 0 []), (PV.val (Value.int IntKind.i64 0)), (PV.val (Value.int IntKind.i64 0))])) none 1 false true)]) (AC.seq (AC.ops [(AOp.mk (some 7) (AK.ld (some 4) (AX.t 2)) none 0 false true), (AOp.mk (some 5) (AK.new (PV.agg [(PV.sl SK.full 0 []), (PV.sl SK.full 0 []), (PV.val (Value.int IntKind.i64 0)), (PV.val (Value.int IntKind.i64 0))])) none 1 false true), (AOp.mk none (AK.st 4 (AX.t 5) (AX.t 7)) none 2 false true)]) (AC.seq (AC.ops [(AOp.mk (some 8) (AK.fadr 1 (AX.t 5)) none 0 false true), (AOp.mk none (AK.st 1 (AX.t 8) (AX.c (PV.sl SK.full 0 []))) none 1 false true)]) (AC.seq (AC.seq (AC.ops [(AOp.mk (some 6) (AK.mv (AX.c (PV.val (Value.int IntKind.i64 0)))) none 0 false true)]) (AC.block 0 (AC.loop (AC.seq (AC.seq (AC.ops [(AOp.mk (some 9) (AK.mv (AX.t 6)) none 0 false true), (AOp.mk (some 10) (AK.fadr 1 (AX.t 2)) none 1 false true), (AOp.mk (some 11) (AK.ld none (AX.t 10)) none 2 false true), (AOp.mk (some 12) (AK.len (AX.t 11)) none 3 false true), (AOp.mk (some 13) (AK.bin false BinOp.lss (AX.t 9) (AX.t 12)) none 4 false true)]) (AC.cond (AX.t 13) AC.skip (AC.exit 0))) (AC.seq (AC.block 1 (AC.seq (AC.ops [(AOp.mk (some 16) (AK.mv (AX.t 1)) none 0 false true), (AOp.mk (some 17) (AK.mv (AX.t 6)) none 1 false true), (AOp.mk (some 18) (AK.call 41 [(AX.t 16), (AX.t 17)]) none 2 false true), (AOp.mk (some 19) (AK.bin false BinOp.lss (AX.t 18) (AX.c (PV.val (Value.int IntKind.i64 0)))) none 3 false true)]) (AC.cond (AX.t 19) (AC.ops [(AOp.mk (some 20) (AK.fadr 1 (AX.t 5)) none 0 true false), (AOp.mk (some 21) (AK.ld none (AX.t 20)) none 1 true false), (AOp.mk (some 22) (AK.fadr 1 (AX.t 2)) none 2 true false), (AOp.mk (some 23) (AK.ld none (AX.t 22)) none 3 true false), (AOp.mk (some 24) (AK.mv (AX.t 6)) none 4 true false), (AOp.mk (some 25) (AK.iadrS 2 (AX.t 23) (AX.t 24)) none 5 true false), (AOp.mk (some 26) (AK.ld (some 2) (AX.t 25)) none 6 true false), (AOp.mk (some 27) (AK.bslice false 59 2 1 [(PV.val (Value.int IntKind.i64 0)), (PV.val (Value.int IntKind.i64 0))] [(0, (2, (AX.t 26)))]) none 7 false false), (AOp.mk (some 28) (AK.app false 59 2 16 [(PV.val (Value.int IntKind.i64 0)), (PV.val (Value.int IntKind.i64 0))] (AX.t 21) (AX.t 27)) none 8 false true), (AOp.mk (some 29) (AK.fadr 1 (AX.t 5)) none 9 true true), (AOp.mk none (AK.st 1 (AX.t 29) (AX.t 28)) none 10 false true)]) AC.skip))) (AC.ops [(AOp.mk (some 14) (AK.mv (AX.t 6)) none 0 false true), (AOp.mk (some 15) (AK.bin false BinOp.add (AX.t 14) (AX.c (PV.val (Value.int IntKind.i64 1)))) none 1 false true), (AOp.mk (some 6) (AK.mv (AX.t 15)) none 2 false true)])))))) (AC.seq (AC.ops [(AOp.mk (some 30) (AK.ld (some 4) (AX.t 5)) none 0 false true), (AOp.mk none (AK.st 4 (AX.t 4) (AX.t 30)) none 1 false true)]) AC.ret)))))
theorem ac51_ok : cCode Try.prog (fun _ => false) Try.f51.ntmps (Try.f51.body.getD .skip) = some ac51 := by kernel_rfl
def ac12 : AC := (AC.seq (AC.ops [(AOp.mk (some 2) (AK.box 4 (AX.t 0)) none 0 false true), (AOp.mk (some 4) (AK.mv (AX.c (PV.val (Value.bool false)))) none 1 false true)]) (AC.seq (AC.ops [(AOp.mk (some 15) (AK.ld (some 4) (AX.t 2)) none 0 false true), (AOp.mk (some 16) (AK.call 34 [(AX.t 15)]) none 1 false true), (AOp.mk (some 14) (AK.mv (AX.t 16)) none 2 false true), (AOp.mk (some 17) (AK.ext (AX.t 14) 0) none 3 false true), (AOp.mk (some 18) (AK.ext (AX.t 14) 1) none 4 false true), (AOp.mk (some 5) (AK.mv (AX.t 17)) none 5 false true), (AOp.mk (some 6) (AK.mv (AX.t 18)) none 6 false true)]) (AC.seq (AC.seq (AC.ops [(AOp.mk (some 19) (AK.ld (some 4) (AX.t 2)) none 0 false true), (AOp.mk (some 20) (AK.call 36 [(AX.t 19)]) none 1 false true), (AOp.mk (some 21) (AK.un UnOp.not (AX.t 20)) none 2 false true)]) (AC.cond (AX.t 21) (AC.seq (AC.ops [(AOp.mk (some 22) (AK.mv (AX.t 6)) none 0 false true), (AOp.mk (some 23) (AK.bin false BinOp.eql (AX.t 22) (AX.c (PV.val (Value.int IntKind.i64 50)))) none 1 false true), (AOp.mk (some 24) (AK.mv (AX.t 23)) none 2 false true), (AOp.mk (some 25) (AK.mv (AX.t 5)) (some (24, true)) 3 false true), (AOp.mk (some 26) (AK.len (AX.t 25)) (some (24, true)) 4 false true), (AOp.mk (some 27) (AK.bin false BinOp.eql (AX.t 26) (AX.c (PV.val (Value.int IntKind.i64 0)))) (some (24, true)) 5 false true), (AOp.mk (some 28) (AK.pick (AX.t 24) (AX.t 27) (AX.c (PV.val (Value.bool false)))) none 6 false true), (AOp.mk (some 29) (AK.mv (AX.t 28)) none 7 false true), (AOp.mk (some 30) (AK.call 27 []) (some (29, true)) 8 false true), (AOp.mk (some 31) (AK.pick (AX.t 29) (AX.t 30) (AX.c (PV.val (Value.bool false)))) none 9 false true), (AOp.mk (some 4) (AK.mv (AX.t 31)) none 10 false true)]) AC.ret) AC.skip)) (AC.seq (AC.ops [(AOp.mk (some 33) (AK.ld (some 4) (AX.t 2)) none 0 false true), (AOp.mk (some 34) (AK.call 20 [(AX.t 33)]) none 1 false true), (AOp.mk (some 32) (AK.mv (AX.t 34)) none 2 false true), (AOp.mk (some 35) (AK.ext (AX.t 32) 0) none 3 false true), (AOp.mk (some 36) (AK.ext (AX.t 32) 1) none 4 false true), (AOp.mk (some 7) (AK.mv (AX.t 35)) none 5 false true), (AOp.mk (some 8) (AK.mv (AX.t 36)) none 6 false true)]) (AC.seq (AC.seq (AC.ops [(AOp.mk (some 37) (AK.mv (AX.t 6)) none 0 false true), (AOp.mk (some 38) (AK.bin false BinOp.neq (AX.t 37) (AX.c (PV.val (Value.int IntKind.i64 0)))) none 1 false true), (AOp.mk (some 39) (AK.mv (AX.t 38)) none 2 false true), (AOp.mk (some 40) (AK.mv (AX.t 8)) (some (39, false)) 3 false true), (AOp.mk (some 41) (AK.bin false BinOp.neq (AX.t 40) (AX.c (PV.val (Value.int IntKind.i64 0)))) (some (39, false)) 4 false true), (AOp.mk (some 42) (AK.mv (AX.t 41)) (some (39, false)) 5 false true), (AOp.mk (some 43) (AK.mv (AX.t 8)) (some (42, true)) 6 false true), (AOp.mk (some 44) (AK.bin false BinOp.neq (AX.t 43) (AX.c (PV.val (Value.int IntKind.i64 52)))) (some (42, true)) 7 false true), (AOp.mk (some 45) (AK.pick (AX.t 42) (AX.t 44) (AX.c (PV.val (Value.bool false)))) (some (39, false)) 8 false true), (AOp.mk (some 46) (AK.pick (AX.t 39) (AX.c (PV.val (Value.bool true))) (AX.t 45)) none 9 false true), (AOp.mk (some 47) (AK.mv (AX.t 46)) none 10 false true), (AOp.mk (some 48) (AK.mv (AX.t 5)) (some (47, false)) 11 false true), (AOp.mk (some 49) (AK.fadr 1 (AX.t 2)) (some (47, false)) 12 false true), (AOp.mk (some 50) (AK.ld none (AX.t 49)) (some (47, false)) 13 false true), (AOp.mk (some 51) (AK.len (AX.t 50)) (some (47, false)) 14 false true), (AOp.mk (some 52) (AK.call 40 [(AX.t 48), (AX.t 51)]) (some (47, false)) 15 false true), (AOp.mk (some 53) (AK.un UnOp.not (AX.t 52)) (some (47, false)) 16 false true), (AOp.mk (some 54) (AK.pick (AX.t 47) (AX.c (PV.val (Value.bool true))) (AX.t 53)) none 17 false true), (AOp.mk (some 55) (AK.mv (AX.t 54)) none 18 false true), (AOp.mk (some 56) (AK.mv (AX.t 5)) (some (55, false)) 19 false true), (AOp.mk (some 57) (AK.len (AX.t 56)) (some (55, false)) 20 false true), (AOp.mk (some 58) (AK.bin false BinOp.eql (AX.t 57) (AX.c (PV.val (Value.int IntKind.i64 0)))) (some (55, false)) 21 false true), (AOp.mk (some 59) (AK.mv (AX.t 7)) (some (55, false)) 22 false true), (AOp.mk (some 60) (AK.len (AX.t 59)) (some (55, false)) 23 false true), (AOp.mk (some 61) (AK.bin false BinOp.gtr (AX.t 60) (AX.c (PV.val (Value.int IntKind.i64 0)))) (some (55, false)) 24 false true), (AOp.mk (some 62) (AK.bin true BinOp.neq (AX.t 58) (AX.t 61)) (some (55, false)) 25 false true), (AOp.mk (some 63) (AK.pick (AX.t 55) (AX.c (PV.val (Value.bool true))) (AX.t 62)) none 26 false true)]) (AC.cond (AX.t 63) (AC.seq (AC.ops [(AOp.mk (some 4) (AK.mv (AX.c (PV.val (Value.bool false)))) none 0 false true)]) AC.ret) AC.skip)) (AC.seq (AC.ops [(AOp.mk (some 64) (AK.mv (AX.t 1)) none 0 true false), (AOp.mk (some 65) (AK.fadr 1 (AX.t 2)) none 1 true false), (AOp.mk (some 66) (AK.ld none (AX.t 65)) none 2 true false), (AOp.mk (some 67) (AK.len (AX.t 66)) none 3 true false), (AOp.mk (some 68) (AK.bin false BinOp.shl (AX.c (PV.val (Value.int IntKind.i64 1))) (AX.t 67)) none 4 true false), (AOp.mk (some 70) (AK.fadr 1 (AX.t 2)) none 6 true false), (AOp.mk (some 71) (AK.ld none (AX.t 70)) none 7 true false), (AOp.mk (some 72) (AK.len (AX.t 71)) none 8 true false), (AOp.mk (some 69) (AK.call 37 [(AX.t 64), (AX.t 68)]) none 5 false false), (AOp.mk (some 73) (AK.call 42 [(AX.t 69), (AX.t 72)]) none 9 false true), (AOp.mk (some 9) (AK.mv (AX.t 73)) none 10 true true)]) (AC.seq (AC.ops [(AOp.mk (some 75) (AK.ld (some 4) (AX.t 2)) none 0 false true), (AOp.mk (some 76) (AK.mv (AX.t 5)) none 1 false true), (AOp.mk (some 77) (AK.call 51 [(AX.t 75), (AX.t 76)]) none 2 false true), (AOp.mk (some 78) (AK.call 20 [(AX.t 77)]) none 3 false true), (AOp.mk (some 74) (AK.mv (AX.t 78)) none 4 false true), (AOp.mk (some 79) (AK.ext (AX.t 74) 0) none 5 false true), (AOp.mk (some 80) (AK.ext (AX.t 74) 1) none 6 false true), (AOp.mk (some 10) (AK.mv (AX.t 79)) none 7 false true), (AOp.mk (some 11) (AK.mv (AX.t 80)) none 8 false true)]) (AC.seq (AC.ops [(AOp.mk (some 82) (AK.ld (some 4) (AX.t 2)) none 0 false true), (AOp.mk (some 83) (AK.mv (AX.t 9)) none 1 false true), (AOp.mk (some 84) (AK.call 51 [(AX.t 82), (AX.t 83)]) none 2 false true), (AOp.mk (some 85) (AK.call 20 [(AX.t 84)]) none 3 false true), (AOp.mk (some 81) (AK.mv (AX.t 85)) none 4 false true), (AOp.mk (some 86) (AK.ext (AX.t 81) 0) none 5 false true), (AOp.mk (some 87) (AK.ext (AX.t 81) 1) none 6 false true), (AOp.mk (some 12) (AK.mv (AX.t 86)) none 7 false true), (AOp.mk (some 13) (AK.mv (AX.t 87)) none 8 false true)]) (AC.seq (AC.seq (AC.ops [(AOp.mk (some 88) (AK.mv (AX.t 11)) none 0 false true), (AOp.mk (some 89) (AK.bin false BinOp.neq (AX.t 88) (AX.c (PV.val (Value.int IntKind.i64 0)))) none 1 false true), (AOp.mk (some 90) (AK.mv (AX.t 89)) none 2 false true), (AOp.mk (some 91) (AK.mv (AX.t 13)) (some (90, false)) 3 false true), (AOp.mk (some 92) (AK.bin false BinOp.neq (AX.t 91) (AX.c (PV.val (Value.int IntKind.i64 0)))) (some (90, false)) 4 false true), (AOp.mk (some 93) (AK.mv (AX.t 92)) (some (90, false)) 5 false true), (AOp.mk (some 94) (AK.mv (AX.t 13)) (some (93, true)) 6 false true), (AOp.mk (some 95) (AK.bin false BinOp.neq (AX.t 94) (AX.c (PV.val (Value.int IntKind.i64 52)))) (some (93, true)) 7 false true), (AOp.mk (some 96) (AK.pick (AX.t 93) (AX.t 95) (AX.c (PV.val (Value.bool false)))) (some (90, false)) 8 false true), (AOp.mk (some 97) (AK.pick (AX.t 90) (AX.c (PV.val (Value.bool true))) (AX.t 96)) none 9 false true), (AOp.mk (some 98) (AK.mv (AX.t 97)) none 10 false true), (AOp.mk (some 99) (AK.mv (AX.t 10)) (some (98, false)) 11 false true), (AOp.mk (some 100) (AK.len (AX.t 99)) (some (98, false)) 12 false true), (AOp.mk (some 101) (AK.bin false BinOp.eql (AX.t 100) (AX.c (PV.val (Value.int IntKind.i64 0)))) (some (98, false)) 13 false true), (AOp.mk (some 102) (AK.pick (AX.t 98) (AX.c (PV.val (Value.bool true))) (AX.t 101)) none 14 false true)]) (AC.cond (AX.t 102) (AC.seq (AC.ops [(AOp.mk (some 4) (AK.mv (AX.c (PV.val (Value.bool false)))) none 0 false true)]) AC.ret) AC.skip)) (AC.seq (AC.ops [(AOp.mk (some 103) (AK.mv (AX.t 9)) none 0 false true), (AOp.mk (some 104) (AK.mv (AX.t 5)) none 1 false true), (AOp.mk (some 105) (AK.call 52 [(AX.t 103), (AX.t 104)]) none 2 false true), (AOp.mk (some 106) (AK.un UnOp.not (AX.t 105)) none 3 false true), (AOp.mk (some 107) (AK.mv (AX.t 106)) none 4 false true), (AOp.mk (some 108) (AK.mv (AX.t 12)) (some (107, false)) 5 false true), (AOp.mk (some 109) (AK.len (AX.t 108)) (some (107, false)) 6 false true), (AOp.mk (some 110) (AK.bin false BinOp.eql (AX.t 109) (AX.c (PV.val (Value.int IntKind.i64 0)))) (some (107, false)) 7 false true), (AOp.mk (some 111) (AK.pick (AX.t 107) (AX.c (PV.val (Value.bool true))) (AX.t 110)) none 8 false true), (AOp.mk (some 112) (AK.mv (AX.t 111)) none 9 false true), (AOp.mk (some 113) (AK.call 27 []) (some (112, true)) 10 false true), (AOp.mk (some 114) (AK.pick (AX.t 112) (AX.t 113) (AX.c (PV.val (Value.bool false)))) none 11 false true), (AOp.mk (some 4) (AK.mv (AX.t 114)) none 12 false true)]) AC.ret))))))))))
theorem ac12_ok : cCode Try.prog (fun _ => false) Try.f12.ntmps (Try.f12.body.getD .skip) = some ac12 := by kernel_rfl
theorem Who_gen (k k2 : SK) {x : MBook} (ho : okBook x) : ∃ (l : List Int) (f : Int), Sem1 20 [.agg (bookC k k2 x)] (.tup [pis l, pi f]) ∧ ((f = 0 ∧ l = natL (whoL x)) ∨ (f = 52 ∧ l = [] ∧ whoL x = [])) := by
  cases hr : rightB x
  · refine ⟨_, _, Who_no k k2 ho hr, .inr ⟨rfl, rfl, ?_⟩⟩
    refine Decidable.not_not.1 fun h => ?_
    have := who_right h
    rw [hr] at this
    cases this
  · exact ⟨_, _, Who_ok k k2 ho hr, .inl ⟨rfl, rfl⟩⟩
theorem okBook.without {b : MBook} (ho : okBook b) (out : List Int) : okBook (withoutB b out) := ⟨ho.1.without out, Nat.le_trans (withoutL_len b out b.seen.length) ho.2⟩
theorem lwithout_sem (k k2 : SK) (b : MBook) (hl : b.seen.length ≤ 1000) (out : List Int) : Sem1 51 [.agg (bookC k k2 b), pis out] (.agg (bookC k .sh (withoutB b out))) := by
  refine semC_of_exec' mixed Try.func51 (by kernel_rfl) (by kernel_rfl) ac51_ok 2 rfl (by decide) [(.cell 4 25)] (by kernel_rfl) ?_
  intro hr C hC hI
  unfold ac51
  simp only [go_sem, Nat.reduceBEq, Nat.reduceAdd, Nat.reduceLeDiff, putCells]
  refine loop_g (α := Nat × Option Nat) (fun a => a.1 ≤ b.seen.length ∧ (a.2 = none → seenC (withoutL b out a.1) = [])) (fun a => b.seen.length - a.1) [1, 2, 4, 5] (fun a => [(6, .p (pi a.1))]) (fun a => [.cells ((bookC k k2 b).map .p), .cells [.p (.sl .full 0 []), .p (.sl .full 0 []), .p (pi 0), .p (pi 0)], .cells [.p (.sl k 1 (rowsC b.makers)), .p (slZ 59 2 a.2 (seenC (withoutL b out a.1))), .p (pi b.repairs), .p (pi b.fixed)]]) (fun a => a.2.toList) (0, none) ⟨by omega, fun _ => by simp [withoutL]⟩ (by simp [Wk, wkT, wkL, look, AV.lo, AV.lo.loL, upS_eq, keepS_nil, keepS_cons, slZ]) ?_
  rintro ⟨j, o⟩ ⟨hj, h0⟩
  replace hj : j ≤ b.seen.length := hj
  replace h0 : o = none → seenC (withoutL b out j) = [] := h0
  simp only [go_sem, Nat.reduceBEq, Nat.reduceAdd, List.length_map]
  refine ⟨fun h5 => ?_, fun h5 => ?_⟩
  · have hj2 : j < b.seen.length := by omega
    have hnx := withoutL_next (out := out) hj2
    have hwl := withoutL_len b out j
    refine call_pure2 hC (Find_sem out j) rfl (PVleL_refl _) ?_
    rintro r ⟨i, rfl, hi⟩
    by_cases hm : (j : Int) ∈ out
    · have hi2 : ¬ i < 0 := fun h => hi.1 h hm
      rw [if_neg (by simpa using hm), List.append_nil] at hnx
      simp only [go_sem, Nat.reduceBEq, eq_false hi2, wrap_succ (k := j) (by omega), decide_false]
      refine ⟨⟨(j + 1, o), hj2, fun h => by show seenC (withoutL b out (j + 1)) = []; rw [hnx]; exact h0 h⟩, by simp only; omega, ?_⟩
      simp only [hnx]
      cases o <;> simp [Wk, wkT, wkL, look, AV.lo, AV.lo.loL]
    · have hi2 : i < 0 := hi.2 hm
      rw [if_pos hm] at hnx
      have hnx2 : seenC (withoutL b out (j + 1)) = seenC (withoutL b out j) ++ [[pi b.seen[j].1, pi b.seen[j].2]] := by rw [hnx]; simp
      simp only [go_sem, Nat.reduceBEq, Nat.reduceAdd, eq_true hi2, iadr_map (f := fun m : Int × Int => [pi m.1, pi m.2]) (kd := k2) (sz := 2) hj2, putCells, decide_true]
      refine app_slZ h0 (by rw [List.length_map]; omega) (by simp) fun tk htk => ?_
      simp only [go_sem, Nat.reduceBEq]
      refine ⟨.inl rfl, by simp, ?_⟩
      simp only [go_sem, Nat.reduceBEq, Nat.reduceAdd, putCells, wrap_succ (k := j) (by omega)]
      refine ⟨⟨(j + 1, some tk), hj2, (fun h => by cases h)⟩, by simp only; omega, ?_⟩
      simp only [hnx2]
      refine ⟨by simp [wkT, look, AV.lo], by simp [wkL, AV.lo, AV.lo.loL, ABlk.toZ], by simp, by simp, rfl, rfl, by simp⟩
  · have hjn : j = b.seen.length := by omega
    subst hjn
    refine retQ_cell_le (n := some 4) (by kernel_rfl) rfl ?_ rfl
    exact PVle.agg (show PVleL [_, _, _, _] [_, _, _, _] from ⟨PVle.refl _, slZ_le h0, PVle.refl _, PVle.refl _, trivial⟩)
theorem len_natL (b : MBook) : (0 : Int) < ((natL (whoL b)).length : Int) ↔ whoL b ≠ [] := by
  rw [natL_len, ← List.length_pos_iff]
  omega
set_option maxRecDepth 100000 in
set_option maxHeartbeats 2000000 in
theorem Wrong_law (k k2 : SK) (b : MBook) (n : Int) : Sem1 12 [.agg (bookC k k2 b), pi n] (pb true) := by
  by_cases ho : okBook b
  rotate_left
  · have hW : Sem1 34 [.agg (bookC k k2 b)] (.tup [pis [], pi 50]) := (Wrong_sem k k2 b).mono fun _ e => e.trans (by
      have he : errA b true = 50 := by unfold errA; rw [if_neg ho]
      rw [he]
      rfl)
    refine semC_of_exec' mixed Try.func12 (by kernel_rfl) (by kernel_rfl) ac12_ok 2 rfl (by decide) [(.tmp 4)] (by kernel_rfl) ?_
    intro hr C hC hI
    unfold ac12
    simp only [go_sem, Nat.reduceBEq, Nat.reduceAdd]
    refine call_pure2 hC (hW) rfl (PVleL_refl _) ?_
    rintro r rfl
    simp only [go_sem, Nat.reduceBEq, Nat.reduceAdd]
    refine call_pure2 hC (sound_sem k k2 b) rfl (PVleL_refl _) ?_
    rintro r rfl
    simp only [go_sem, Nat.reduceBEq, eq_false ho, List.length_nil, List.map_nil, Int.natCast_zero, decide_true, decide_false]
    refine call_pure2 hC (marked_sem) rfl (PVleL_refl _) ?_
    rintro r rfl
    simp only [go_sem, Nat.reduceBEq]
    exact retQ_one rfl rfl
  have hoc := ho.1
  have h8 := ho.2
  have hW := Wrong_ok k k2 ho
  obtain ⟨g1, g2, g3⟩ := wrong_facts hoc (by omega)
  have hnil := wrong_nil hoc (by omega)
  obtain ⟨W, eW⟩ : ∃ W, wrongI b = W := ⟨_, rfl⟩
  rw [eW] at hW g1 g2 g3 hnil
  obtain ⟨l, f, hWho, hl⟩ := Who_gen k k2 ho
  obtain ⟨l2, f2, hWho2, hl2⟩ := Who_gen k .sh (ho.without W)
  obtain ⟨X, hX⟩ : ∃ X, listI (rndI n ((2 ^ b.seen.length : Nat) : Int)) b.seen.length = X := ⟨_, rfl⟩
  obtain ⟨l3, f3, hWho3, hl3⟩ := Who_gen k .sh (ho.without X)
  have hXg : growsI X b.seen.length := hX ▸ grows_list ..
  have g4 := g3 X hXg
  have hw2 : whoL (withoutB b W) ≠ [] := of_decide_eq_true g2
  have hll : decide ((W.length : Int) = 0) = decide (0 < (l.length : Int)) := by
    refine decide_eq_decide.2 ?_
    have h1 : (0 : Int) < l.length ↔ whoL b ≠ [] := by
      rcases hl with ⟨-, rfl⟩ | ⟨-, rfl, hn⟩
      · exact len_natL b
      · simp [hn]
    rw [h1, ← hnil]
    constructor
    · intro h; exact List.eq_nil_of_length_eq_zero (by omega)
    · rintro rfl; rfl
  have hl20 : ¬ (l2.length : Int) = 0 := by
    rcases hl2 with ⟨-, rfl⟩ | ⟨-, -, hn⟩
    · have := (len_natL (withoutB b W)).2 hw2
      omega
    · exact absurd hn hw2
  have hf2 : f2 = 0 := by
    rcases hl2 with ⟨h, -⟩ | ⟨-, -, hn⟩
    · exact h
    · exact absurd hn hw2
  subst hf2
  have hf : f = 0 ∨ f = 52 := by rcases hl with ⟨h, -⟩ | ⟨h, -⟩ <;> omega
  have hf3 : f3 = 0 ∨ f3 = 52 := by rcases hl3 with ⟨h, -⟩ | ⟨h, -⟩ <;> omega
  have hl30 : shortB X W = true → l3 = [] := fun h => by
    have h5 : ¬ whoL (withoutB b X) ≠ [] := of_decide_eq_false (g4 h)
    rcases hl3 with ⟨-, rfl⟩ | ⟨-, h, -⟩
    · rw [Decidable.not_not.1 h5]
      rfl
    · exact h
  have hsl := shl6 (m := b.seen.length) (by omega)
  have hls := List_sem (rndI n ((2 ^ b.seen.length : Nat) : Int)) b.seen.length (by omega)
  rw [hX] at hls
  refine semC_of_exec' mixed Try.func12 (by kernel_rfl) (by kernel_rfl) ac12_ok 2 rfl (by decide) [(.tmp 4)] (by kernel_rfl) ?_
  intro hr C hC hI
  unfold ac12
  simp only [go_sem, Nat.reduceBEq, Nat.reduceAdd]
  refine call_pure2 hC (hW) rfl (PVleL_refl _) ?_
  rintro r rfl
  simp only [go_sem, Nat.reduceBEq, Nat.reduceAdd]
  refine call_pure2 hC (sound_sem k k2 b) rfl (PVleL_refl _) ?_
  rintro r rfl
  simp only [go_sem, Nat.reduceBEq, Nat.reduceAdd, eq_true ho, decide_true]
  rcases hf with rfl | rfl <;> rcases hf3 with rfl | rfl
  · refine call_pure2 hC (hWho) rfl (PVleL_refl _) ?_
    rintro r rfl
    simp only [go_sem, Nat.reduceBEq, List.length_map, decide_false, not_true_eq_false]
    refine call_pure2 hC (Grows_sem W b.seen.length) rfl (PVleL_refl _) ?_
    rintro r ⟨t, rfl, ht⟩
    obtain rfl : t = true := ht.2 g1
    simp only [go_sem, Nat.reduceBEq, decide_false, not_true_eq_false, Bool.false_eq_true, hll, List.length_map, bin_shl (show ¬ (b.seen.length : Int) < 0 by omega), hsl]
    refine call_pure2 hC (Round_sem ..) rfl (PVleL_refl _) ?_
    rintro r rfl
    simp only [go_sem, Nat.reduceBEq]
    refine call_pure2 hC (hls) rfl (PVleL_refl _) ?_
    rintro r rfl
    simp only [go_sem, Nat.reduceBEq, Nat.reduceAdd]
    refine call_pure2 hC (lwithout_sem k k2 b (by omega) W) rfl (PVleL_refl _) ?_
    rintro r rfl
    simp only [go_sem, Nat.reduceBEq]
    refine call_pure2 hC (hWho2) rfl (PVleL_refl _) ?_
    rintro r rfl
    simp only [go_sem, Nat.reduceBEq, Nat.reduceAdd]
    refine call_pure2 hC (lwithout_sem k k2 b (by omega) X) rfl (PVleL_refl _) ?_
    rintro r rfl
    simp only [go_sem, Nat.reduceBEq]
    refine call_pure2 hC (hWho3) rfl (PVleL_refl _) ?_
    rintro r rfl
    simp only [go_sem, Nat.reduceBEq, List.length_map, eq_false hl20, decide_false, not_true_eq_false]
    refine call_pure2 hC (Shorter_sem ..) rfl (PVleL_refl _) ?_
    rintro r rfl
    simp only [go_sem, Nat.reduceBEq]
    cases hsh : shortB X W
    · simp only [go_sem, Nat.reduceBEq]
      refine call_pure2 hC (marked_sem) rfl (PVleL_refl _) ?_
      rintro r rfl
      simp only [go_sem, Nat.reduceBEq]
      exact retQ_one rfl rfl
    · simp only [go_sem, Nat.reduceBEq, hl30 hsh, List.map_nil, List.length_nil, Int.natCast_zero, decide_true]
      refine call_pure2 hC (marked_sem) rfl (PVleL_refl _) ?_
      rintro r rfl
      simp only [go_sem, Nat.reduceBEq]
      exact retQ_one rfl rfl
  · refine call_pure2 hC (hWho) rfl (PVleL_refl _) ?_
    rintro r rfl
    simp only [go_sem, Nat.reduceBEq, List.length_map, decide_false, not_true_eq_false]
    refine call_pure2 hC (Grows_sem W b.seen.length) rfl (PVleL_refl _) ?_
    rintro r ⟨t, rfl, ht⟩
    obtain rfl : t = true := ht.2 g1
    simp only [go_sem, Nat.reduceBEq, decide_false, not_true_eq_false, Bool.false_eq_true, hll, List.length_map, bin_shl (show ¬ (b.seen.length : Int) < 0 by omega), hsl]
    refine call_pure2 hC (Round_sem ..) rfl (PVleL_refl _) ?_
    rintro r rfl
    simp only [go_sem, Nat.reduceBEq]
    refine call_pure2 hC (hls) rfl (PVleL_refl _) ?_
    rintro r rfl
    simp only [go_sem, Nat.reduceBEq, Nat.reduceAdd]
    refine call_pure2 hC (lwithout_sem k k2 b (by omega) W) rfl (PVleL_refl _) ?_
    rintro r rfl
    simp only [go_sem, Nat.reduceBEq]
    refine call_pure2 hC (hWho2) rfl (PVleL_refl _) ?_
    rintro r rfl
    simp only [go_sem, Nat.reduceBEq, Nat.reduceAdd]
    refine call_pure2 hC (lwithout_sem k k2 b (by omega) X) rfl (PVleL_refl _) ?_
    rintro r rfl
    simp only [go_sem, Nat.reduceBEq]
    refine call_pure2 hC (hWho3) rfl (PVleL_refl _) ?_
    rintro r rfl
    simp only [go_sem, Nat.reduceBEq, List.length_map, eq_false hl20, decide_true, decide_false, not_true_eq_false, not_false_eq_true, Int.reduceEq]
    refine call_pure2 hC (Shorter_sem ..) rfl (PVleL_refl _) ?_
    rintro r rfl
    simp only [go_sem, Nat.reduceBEq]
    cases hsh : shortB X W
    · simp only [go_sem, Nat.reduceBEq]
      refine call_pure2 hC (marked_sem) rfl (PVleL_refl _) ?_
      rintro r rfl
      simp only [go_sem, Nat.reduceBEq]
      exact retQ_one rfl rfl
    · simp only [go_sem, Nat.reduceBEq, hl30 hsh, List.map_nil, List.length_nil, Int.natCast_zero, decide_true]
      refine call_pure2 hC (marked_sem) rfl (PVleL_refl _) ?_
      rintro r rfl
      simp only [go_sem, Nat.reduceBEq]
      exact retQ_one rfl rfl
  · refine call_pure2 hC (hWho) rfl (PVleL_refl _) ?_
    rintro r rfl
    simp only [go_sem, Nat.reduceBEq, List.length_map, decide_true, decide_false, not_true_eq_false, not_false_eq_true, Int.reduceEq]
    refine call_pure2 hC (Grows_sem W b.seen.length) rfl (PVleL_refl _) ?_
    rintro r ⟨t, rfl, ht⟩
    obtain rfl : t = true := ht.2 g1
    simp only [go_sem, Nat.reduceBEq, decide_false, not_true_eq_false, Bool.false_eq_true, hll, List.length_map, bin_shl (show ¬ (b.seen.length : Int) < 0 by omega), hsl]
    refine call_pure2 hC (Round_sem ..) rfl (PVleL_refl _) ?_
    rintro r rfl
    simp only [go_sem, Nat.reduceBEq]
    refine call_pure2 hC (hls) rfl (PVleL_refl _) ?_
    rintro r rfl
    simp only [go_sem, Nat.reduceBEq, Nat.reduceAdd]
    refine call_pure2 hC (lwithout_sem k k2 b (by omega) W) rfl (PVleL_refl _) ?_
    rintro r rfl
    simp only [go_sem, Nat.reduceBEq]
    refine call_pure2 hC (hWho2) rfl (PVleL_refl _) ?_
    rintro r rfl
    simp only [go_sem, Nat.reduceBEq, Nat.reduceAdd]
    refine call_pure2 hC (lwithout_sem k k2 b (by omega) X) rfl (PVleL_refl _) ?_
    rintro r rfl
    simp only [go_sem, Nat.reduceBEq]
    refine call_pure2 hC (hWho3) rfl (PVleL_refl _) ?_
    rintro r rfl
    simp only [go_sem, Nat.reduceBEq, List.length_map, eq_false hl20, decide_false, not_true_eq_false]
    refine call_pure2 hC (Shorter_sem ..) rfl (PVleL_refl _) ?_
    rintro r rfl
    simp only [go_sem, Nat.reduceBEq]
    cases hsh : shortB X W
    · simp only [go_sem, Nat.reduceBEq]
      refine call_pure2 hC (marked_sem) rfl (PVleL_refl _) ?_
      rintro r rfl
      simp only [go_sem, Nat.reduceBEq]
      exact retQ_one rfl rfl
    · simp only [go_sem, Nat.reduceBEq, hl30 hsh, List.map_nil, List.length_nil, Int.natCast_zero, decide_true]
      refine call_pure2 hC (marked_sem) rfl (PVleL_refl _) ?_
      rintro r rfl
      simp only [go_sem, Nat.reduceBEq]
      exact retQ_one rfl rfl
  · refine call_pure2 hC (hWho) rfl (PVleL_refl _) ?_
    rintro r rfl
    simp only [go_sem, Nat.reduceBEq, List.length_map, decide_true, decide_false, not_true_eq_false, not_false_eq_true, Int.reduceEq]
    refine call_pure2 hC (Grows_sem W b.seen.length) rfl (PVleL_refl _) ?_
    rintro r ⟨t, rfl, ht⟩
    obtain rfl : t = true := ht.2 g1
    simp only [go_sem, Nat.reduceBEq, decide_false, not_true_eq_false, Bool.false_eq_true, hll, List.length_map, bin_shl (show ¬ (b.seen.length : Int) < 0 by omega), hsl]
    refine call_pure2 hC (Round_sem ..) rfl (PVleL_refl _) ?_
    rintro r rfl
    simp only [go_sem, Nat.reduceBEq]
    refine call_pure2 hC (hls) rfl (PVleL_refl _) ?_
    rintro r rfl
    simp only [go_sem, Nat.reduceBEq, Nat.reduceAdd]
    refine call_pure2 hC (lwithout_sem k k2 b (by omega) W) rfl (PVleL_refl _) ?_
    rintro r rfl
    simp only [go_sem, Nat.reduceBEq]
    refine call_pure2 hC (hWho2) rfl (PVleL_refl _) ?_
    rintro r rfl
    simp only [go_sem, Nat.reduceBEq, Nat.reduceAdd]
    refine call_pure2 hC (lwithout_sem k k2 b (by omega) X) rfl (PVleL_refl _) ?_
    rintro r rfl
    simp only [go_sem, Nat.reduceBEq]
    refine call_pure2 hC (hWho3) rfl (PVleL_refl _) ?_
    rintro r rfl
    simp only [go_sem, Nat.reduceBEq, List.length_map, eq_false hl20, decide_true, decide_false, not_true_eq_false, not_false_eq_true, Int.reduceEq]
    refine call_pure2 hC (Shorter_sem ..) rfl (PVleL_refl _) ?_
    rintro r rfl
    simp only [go_sem, Nat.reduceBEq]
    cases hsh : shortB X W
    · simp only [go_sem, Nat.reduceBEq]
      refine call_pure2 hC (marked_sem) rfl (PVleL_refl _) ?_
      rintro r rfl
      simp only [go_sem, Nat.reduceBEq]
      exact retQ_one rfl rfl
    · simp only [go_sem, Nat.reduceBEq, hl30 hsh, List.map_nil, List.length_nil, Int.natCast_zero, decide_true]
      refine call_pure2 hC (marked_sem) rfl (PVleL_refl _) ?_
      rintro r rfl
      simp only [go_sem, Nat.reduceBEq]
      exact retQ_one rfl rfl
set_option maxRecDepth 100000 in
theorem Wrong_row {l0 l1 : List PV} (T0 : Ty Try.prog 10 25 l0) (T1 : Ty Try.prog 10 3 l1) : SemC Try.prog 12 [argPV Try.prog 25 l0, argPV Try.prog 3 l1] (fun r => r = pb true) := by
  obtain ⟨b, rfl⟩ := ty_book T0
  obtain ⟨n, rfl⟩ := tyInt uInt T1
  rw [argStruct Try.underlying25, argInt uInt]
  exact Wrong_law .sh .sh b n
end Go.Proofs.Ythaplmohhbdfeaa.Mk
namespace Go.Proofs.Ythaplmohhbdfeaa
open Go.Proofs.Ythaplmohhbdfeaa Go.ChangeShapes Go.WideShapes Go.ChangeAt Go.RowKit Go.Deep

set_option maxRecDepth 100000 in
theorem makerWrong_lifted (os : Os) (started : os.Started) (H : Type) (enc : TypeId × Value → H) :
    ReturnsInHanded {} Try.checked os 12 .any (Rows.makerWrongSpec.pre6 enc Try.prog Try.f12 Rows.makerWrongRow.domain false) (Rows.makerWrongSpec.post enc Try.prog Try.f12 false true false false) := by
  refine returnsInHanded_of_change_sized (C := Try.checked) ownKnobs started (by kernel_rfl) Try.func12
    (ChangeSpec.witness6 (enc := enc) (C := Try.checked) false ⟨#[], #[.agg #[.slice none 0 0, .slice none 0 0, .int .i64 0, .int .i64 0], .int .i64 0], []⟩ 8 (by kernel_rfl) (by kernel_rfl) (by kernel_rfl) (by kernel_rfl)) ?_
  intro W base args ds gs before hval0 hW hcnd hsz0 _
  have hval : ∀ (j : Nat) t v, Try.f12.params[j]? = some t → args[j]? = some v → Value.okWide Try.prog W .any base t v := hval0
  have hsz : (DataW.weightsEach Try.prog (Try.f12.params.toList ++ Rows.makerWrongSpec.plain.varTypes Try.prog) (ds ++ gs)).all (· ≤ reachBytes) = true := hsz0
  have hW' := hW
  obtain ⟨p, q, hA0, hV, rfl, hfz, hnd⟩ := hW
  have hA : DataW.TrodAll enc Try.prog W 0 (fun _ => true) true Try.f12.params.toList args.toList ds p := hA0
  rw [Try.params12] at hA hval hsz
  obtain ⟨v0, vs0, d0, ds0, p0, q0, hargs, rfl, rfl, h0, r0⟩ := trodAll_cons hA
  obtain ⟨v1, vs1, d1, ds1, p1, q1, rfl, rfl, rfl, h1, r1⟩ := trodAll_cons r0
  obtain ⟨rfl, rfl, rfl⟩ := trodAll_nil r1
  obtain rfl : args = #[v0, v1] := by cases args; simp_all
  obtain ⟨rfl, rfl⟩ := trodVars_none hV
  have lt0 : ∀ x ∈ p0, x.block < W.heap.size := by obtain ⟨m, hm⟩ := h0; exact DataW.trod_lt m _ _ _ hm
  have lt1 : ∀ x ∈ p1, x.block < W.heap.size := by obtain ⟨m, hm⟩ := h1; exact DataW.trod_lt m _ _ _ hm
  have z0 : SizedP Try.prog 25 d0 := sizedP_each hsz (j := 0) rfl rfl
  obtain ⟨l0, T0, R0⟩ := rd_arg 10 (by kernel_rfl) (hval 0 25 v0 rfl rfl) h0 z0
  have z1 : SizedP Try.prog 3 d1 := sizedP_each hsz (j := 1) rfl rfl
  obtain ⟨l1, T1, R1⟩ := rd_arg 10 (by kernel_rfl) (hval 1 3 v1 rfl rfl) h1 z1
  clear hA0 hval0 hsz0
  refine (law_calls (Mk.Wrong_row T0 T1) (argsP_cons R0 (argsP_cons R1 argsP_nil))).mono fun e W' ⟨he, bel⟩ => ?_
  subst he
  exact ⟨_, rfl, _, _, _, [], _, [], hW', trodAll_mk1 (shut_bool Try.underlying4 _), (trodAll_cons_mk (Below.trod laidOut (by kernel_rfl) (of_decide_eq_true (by kernel_rfl)) h0 bel lt0) (trodAll_cons_mk (Below.trod laidOut (by kernel_rfl) (of_decide_eq_true (by kernel_rfl)) h1 bel lt1) trodAll_mk0)), rfl, bel.frame _, fun h => by cases h⟩

theorem makerWrong_holds : Rows.MakerWrongSaid :=
  OpenClaim.holds_of_wide 12 Try.f12 rfl rfl rfl rfl rfl rfl rfl ⟨rfl, rfl, rfl, rfl, rfl⟩ rfl rfl rfl rfl rfl (by kernel_rfl) Try.func12 (by kernel_rfl)
    (of_decide_eq_true (by kernel_rfl)) (by unfold Func.isWrapper; first | (rw [if_pos (by decide +kernel)]; kernel_rfl) | (rw [if_neg (by decide +kernel)]; exact ⟨rfl, rfl⟩))
    (fun os started H enc _ => makerWrong_lifted os started H enc)
end Go.Proofs.Ythaplmohhbdfeaa
