/- MakerNeeds returns true: a maker needs as many changes as kinds of which nothing that was seen is its own, none of them fixed; it is possible just if repairs can have so many; for every book and all numbers; no condition. Law: MakerNeeds. -/
import Derived.Test.YthaplmohhbdfeaaZa07
import Derived.Test.YthaplmohhbdfeaaGa16
namespace Go.Proofs.Ythaplmohhbdfeaa.Mk
open Go.RowKit Ls
def ac7 : AC := (AC.seq (AC.ops [(AOp.mk (some 2) (AK.box 4 (AX.t 0)) none 0 false true), (AOp.mk (some 4) (AK.mv (AX.c (PV.val (Value.bool false)))) none 1 false true)]) (AC.seq (AC.seq (AC.ops [(AOp.mk (some 16) (AK.ld (some 4) (AX.t 2)) none 0 false true), (AOp.mk (some 17) (AK.call 36 [(AX.t 16)]) none 1 false true), (AOp.mk (some 18) (AK.un UnOp.not (AX.t 17)) none 2 false true)]) (AC.cond (AX.t 18) (AC.seq (AC.ops [(AOp.mk (some 19) (AK.call 27 []) none 0 false true), (AOp.mk (some 4) (AK.mv (AX.t 19)) none 1 false true)]) AC.ret) AC.skip)) (AC.seq (AC.ops [(AOp.mk (some 20) (AK.mv (AX.t 1)) none 0 true false), (AOp.mk (some 21) (AK.fadr 0 (AX.t 2)) none 1 true false), (AOp.mk (some 22) (AK.ld none (AX.t 21)) none 2 true false), (AOp.mk (some 23) (AK.len (AX.t 22)) none 3 true false), (AOp.mk (some 25) (AK.ld (some 4) (AX.t 2)) none 5 true false), (AOp.mk (some 24) (AK.call 37 [(AX.t 20), (AX.t 23)]) none 4 false false), (AOp.mk (some 26) (AK.call 45 [(AX.t 25)]) none 6 false true), (AOp.mk (some 5) (AK.mv (AX.t 24)) none 7 true true), (AOp.mk (some 6) (AK.mv (AX.t 26)) none 8 true true)]) (AC.seq (AC.ops [(AOp.mk (some 28) (AK.ld (some 4) (AX.t 2)) none 0 false true), (AOp.mk (some 29) (AK.call 16 [(AX.t 28)]) none 1 false true), (AOp.mk (some 27) (AK.mv (AX.t 29)) none 2 false true), (AOp.mk (some 30) (AK.ext (AX.t 27) 0) none 3 false true), (AOp.mk (some 31) (AK.ext (AX.t 27) 1) none 4 false true), (AOp.mk (some 7) (AK.mv (AX.t 30)) none 5 false true), (AOp.mk (some 8) (AK.mv (AX.t 31)) none 6 false true)]) (AC.seq (AC.ops [(AOp.mk (some 33) (AK.ld (some 4) (AX.t 2)) none 0 false true), (AOp.mk (some 34) (AK.call 20 [(AX.t 33)]) none 1 false true), (AOp.mk (some 32) (AK.mv (AX.t 34)) none 2 false true), (AOp.mk (some 35) (AK.ext (AX.t 32) 0) none 3 false true), (AOp.mk (some 36) (AK.ext (AX.t 32) 1) none 4 false true), (AOp.mk (some 9) (AK.mv (AX.t 35)) none 5 false true), (AOp.mk (some 10) (AK.mv (AX.t 36)) none 6 false true)]) (AC.seq (AC.ops [(AOp.mk (some 38) (AK.ld (some 4) (AX.t 2)) none 0 false true), (AOp.mk (some 39) (AK.mv (AX.t 5)) none 1 false true), (AOp.mk (some 40) (AK.call 23 [(AX.t 38), (AX.t 39)]) none 2 false true), (AOp.mk (some 37) (AK.mv (AX.t 40)) none 3 false true), (AOp.mk (some 41) (AK.ext (AX.t 37) 0) none 4 false true), (AOp.mk (some 42) (AK.ext (AX.t 37) 1) none 5 false true), (AOp.mk (some 11) (AK.mv (AX.t 41)) none 6 false true), (AOp.mk (some 12) (AK.mv (AX.t 42)) none 7 false true)]) (AC.seq (AC.seq (AC.ops [(AOp.mk (some 43) (AK.mv (AX.t 8)) none 0 false true), (AOp.mk (some 44) (AK.bin false BinOp.neq (AX.t 43) (AX.c (PV.val (Value.int IntKind.i64 0)))) none 1 false true), (AOp.mk (some 45) (AK.mv (AX.t 44)) none 2 false true), (AOp.mk (some 46) (AK.mv (AX.t 7)) (some (45, false)) 3 false true), (AOp.mk (some 47) (AK.mv (AX.t 6)) (some (45, false)) 4 false true), (AOp.mk (some 48) (AK.call 41 [(AX.t 47), (AX.c (PV.val (Value.int IntKind.i64 0)))]) (some (45, false)) 5 false true), (AOp.mk (some 49) (AK.bin false BinOp.lss (AX.t 48) (AX.c (PV.val (Value.int IntKind.i64 0)))) (some (45, false)) 6 false true), (AOp.mk (some 50) (AK.bin true BinOp.neq (AX.t 46) (AX.t 49)) (some (45, false)) 7 false true), (AOp.mk (some 51) (AK.pick (AX.t 45) (AX.c (PV.val (Value.bool true))) (AX.t 50)) none 8 false true)]) (AC.cond (AX.t 51) (AC.seq (AC.ops [(AOp.mk (some 4) (AK.mv (AX.c (PV.val (Value.bool false)))) none 0 false true)]) AC.ret) AC.skip)) (AC.seq (AC.seq (AC.ops [(AOp.mk (some 52) (AK.mv (AX.t 7)) none 0 false true), (AOp.mk (some 53) (AK.un UnOp.not (AX.t 52)) none 1 false true)]) (AC.cond (AX.t 53) (AC.seq (AC.ops [(AOp.mk (some 54) (AK.mv (AX.t 10)) none 0 false true), (AOp.mk (some 55) (AK.bin false BinOp.eql (AX.t 54) (AX.c (PV.val (Value.int IntKind.i64 52)))) none 1 false true), (AOp.mk (some 56) (AK.mv (AX.t 55)) none 2 false true), (AOp.mk (some 57) (AK.mv (AX.t 12)) (some (56, true)) 3 false true), (AOp.mk (some 58) (AK.mv (AX.t 10)) (some (56, true)) 4 false true), (AOp.mk (some 59) (AK.bin false BinOp.eql (AX.t 57) (AX.t 58)) (some (56, true)) 5 false true), (AOp.mk (some 60) (AK.pick (AX.t 56) (AX.t 59) (AX.c (PV.val (Value.bool false)))) none 6 false true), (AOp.mk (some 61) (AK.mv (AX.t 60)) none 7 false true), (AOp.mk (some 62) (AK.mv (AX.t 9)) (some (61, true)) 8 false true), (AOp.mk (some 63) (AK.len (AX.t 62)) (some (61, true)) 9 false true), (AOp.mk (some 64) (AK.bin false BinOp.eql (AX.t 63) (AX.c (PV.val (Value.int IntKind.i64 0)))) (some (61, true)) 10 false true), (AOp.mk (some 65) (AK.pick (AX.t 61) (AX.t 64) (AX.c (PV.val (Value.bool false)))) none 11 false true), (AOp.mk (some 66) (AK.mv (AX.t 65)) none 12 false true), (AOp.mk (some 67) (AK.mv (AX.t 11)) (some (66, true)) 13 false true), (AOp.mk (some 68) (AK.bin false BinOp.eql (AX.t 67) (AX.c (PV.val (Value.int IntKind.i64 0)))) (some (66, true)) 14 false true), (AOp.mk (some 69) (AK.pick (AX.t 66) (AX.t 68) (AX.c (PV.val (Value.bool false)))) none 15 false true), (AOp.mk (some 70) (AK.mv (AX.t 69)) none 16 false true), (AOp.mk (some 71) (AK.call 27 []) (some (70, true)) 17 false true), (AOp.mk (some 72) (AK.pick (AX.t 70) (AX.t 71) (AX.c (PV.val (Value.bool false)))) none 18 false true), (AOp.mk (some 4) (AK.mv (AX.t 72)) none 19 false true)]) AC.ret) AC.skip)) (AC.seq (AC.ops [(AOp.mk (some 13) (AK.mv (AX.c (PV.val (Value.int IntKind.i64 0)))) none 0 false true), (AOp.mk (some 14) (AK.mv (AX.c (PV.val (Value.bool false)))) none 1 false true)]) (AC.seq (AC.seq (AC.ops [(AOp.mk (some 15) (AK.mv (AX.c (PV.val (Value.int IntKind.i64 0)))) none 0 false true)]) (AC.block 0 (AC.loop (AC.seq (AC.seq (AC.ops [(AOp.mk (some 73) (AK.mv (AX.t 15)) none 0 false true), (AOp.mk (some 74) (AK.mv (AX.t 6)) none 1 false true), (AOp.mk (some 75) (AK.len (AX.t 74)) none 2 false true), (AOp.mk (some 76) (AK.bin false BinOp.lss (AX.t 73) (AX.t 75)) none 3 false true)]) (AC.cond (AX.t 76) AC.skip (AC.exit 0))) (AC.seq (AC.block 1 (AC.seq (AC.ops [(AOp.mk (some 79) (AK.mv (AX.t 6)) none 0 true false), (AOp.mk (some 80) (AK.mv (AX.t 15)) none 1 true false), (AOp.mk (some 81) (AK.iadrS 1 (AX.t 79) (AX.t 80)) none 2 true false), (AOp.mk (some 82) (AK.ld none (AX.t 81)) none 3 true false), (AOp.mk (some 83) (AK.fadr 0 (AX.t 2)) none 4 true false), (AOp.mk (some 84) (AK.ld none (AX.t 83)) none 5 true false), (AOp.mk (some 85) (AK.mv (AX.t 5)) none 6 true false), (AOp.mk (some 86) (AK.iadrS 1 (AX.t 84) (AX.t 85)) none 7 true false), (AOp.mk (some 87) (AK.ld none (AX.t 86)) none 8 true false), (AOp.mk (some 88) (AK.mv (AX.t 15)) none 9 true false), (AOp.mk (some 89) (AK.iadrS 1 (AX.t 87) (AX.t 88)) none 10 true false), (AOp.mk (some 90) (AK.ld none (AX.t 89)) none 11 true false), (AOp.mk (some 91) (AK.bin false BinOp.and (AX.t 82) (AX.t 90)) none 12 true true), (AOp.mk (some 92) (AK.bin false BinOp.eql (AX.t 91) (AX.c (PV.val (Value.int IntKind.i64 0)))) none 13 true true)]) (AC.cond (AX.t 92) (AC.seq (AC.ops [(AOp.mk (some 93) (AK.mv (AX.t 13)) none 0 false true), (AOp.mk (some 94) (AK.bin false BinOp.add (AX.t 93) (AX.c (PV.val (Value.int IntKind.i64 1)))) none 1 false true), (AOp.mk (some 13) (AK.mv (AX.t 94)) none 2 false true)]) (AC.ops [(AOp.mk (some 95) (AK.mv (AX.t 14)) none 0 false true), (AOp.mk (some 96) (AK.mv (AX.t 95)) none 1 false true), (AOp.mk (some 97) (AK.fadr 3 (AX.t 2)) (some (96, false)) 2 false true), (AOp.mk (some 98) (AK.ld none (AX.t 97)) (some (96, false)) 3 false true), (AOp.mk (some 99) (AK.mv (AX.t 15)) (some (96, false)) 4 false true), (AOp.mk (some 100) (AK.call 44 [(AX.t 98), (AX.t 99)]) (some (96, false)) 5 false true), (AOp.mk (some 101) (AK.pick (AX.t 96) (AX.c (PV.val (Value.bool true))) (AX.t 100)) none 6 false true), (AOp.mk (some 14) (AK.mv (AX.t 101)) none 7 false true)])) AC.skip))) (AC.ops [(AOp.mk (some 77) (AK.mv (AX.t 15)) none 0 false true), (AOp.mk (some 78) (AK.bin false BinOp.add (AX.t 77) (AX.c (PV.val (Value.int IntKind.i64 1)))) none 1 false true), (AOp.mk (some 15) (AK.mv (AX.t 78)) none 2 false true)])))))) (AC.seq (AC.seq (AC.ops [(AOp.mk (some 102) (AK.mv (AX.t 10)) none 0 false true), (AOp.mk (some 103) (AK.bin false BinOp.neq (AX.t 102) (AX.c (PV.val (Value.int IntKind.i64 0)))) none 1 false true), (AOp.mk (some 104) (AK.mv (AX.t 103)) none 2 false true), (AOp.mk (some 105) (AK.mv (AX.t 9)) (some (104, false)) 3 false true), (AOp.mk (some 106) (AK.mv (AX.t 5)) (some (104, false)) 4 false true), (AOp.mk (some 107) (AK.call 41 [(AX.t 105), (AX.t 106)]) (some (104, false)) 5 false true), (AOp.mk (some 108) (AK.bin false BinOp.geq (AX.t 107) (AX.c (PV.val (Value.int IntKind.i64 0)))) (some (104, false)) 6 false true), (AOp.mk (some 109) (AK.mv (AX.t 14)) (some (104, false)) 7 false true), (AOp.mk (some 110) (AK.un UnOp.not (AX.t 109)) (some (104, false)) 8 false true), (AOp.mk (some 111) (AK.mv (AX.t 110)) (some (104, false)) 9 false true), (AOp.mk (some 112) (AK.mv (AX.t 13)) (some (111, true)) 10 false true), (AOp.mk (some 113) (AK.fadr 2 (AX.t 2)) (some (111, true)) 11 false true), (AOp.mk (some 114) (AK.ld none (AX.t 113)) (some (111, true)) 12 false true), (AOp.mk (some 115) (AK.bin false BinOp.leq (AX.t 112) (AX.t 114)) (some (111, true)) 13 false true), (AOp.mk (some 116) (AK.pick (AX.t 111) (AX.t 115) (AX.c (PV.val (Value.bool false)))) (some (104, false)) 14 false true), (AOp.mk (some 117) (AK.bin true BinOp.neq (AX.t 108) (AX.t 116)) (some (104, false)) 15 false true), (AOp.mk (some 118) (AK.pick (AX.t 104) (AX.c (PV.val (Value.bool true))) (AX.t 117)) none 16 false true)]) (AC.cond (AX.t 118) (AC.seq (AC.ops [(AOp.mk (some 4) (AK.mv (AX.c (PV.val (Value.bool false)))) none 0 false true)]) AC.ret) AC.skip)) (AC.seq (AC.seq (AC.ops [(AOp.mk (some 119) (AK.mv (AX.t 14)) none 0 false true)]) (AC.cond (AX.t 119) (AC.seq (AC.ops [(AOp.mk (some 120) (AK.mv (AX.t 12)) none 0 false true), (AOp.mk (some 121) (AK.bin false BinOp.eql (AX.t 120) (AX.c (PV.val (Value.int IntKind.i64 4)))) none 1 false true), (AOp.mk (some 122) (AK.mv (AX.t 121)) none 2 false true), (AOp.mk (some 123) (AK.mv (AX.t 11)) (some (122, true)) 3 false true), (AOp.mk (some 124) (AK.bin false BinOp.eql (AX.t 123) (AX.c (PV.val (Value.int IntKind.i64 0)))) (some (122, true)) 4 false true), (AOp.mk (some 125) (AK.pick (AX.t 122) (AX.t 124) (AX.c (PV.val (Value.bool false)))) none 5 false true), (AOp.mk (some 126) (AK.mv (AX.t 125)) none 6 false true), (AOp.mk (some 127) (AK.call 27 []) (some (126, true)) 7 false true), (AOp.mk (some 128) (AK.pick (AX.t 126) (AX.t 127) (AX.c (PV.val (Value.bool false)))) none 8 false true), (AOp.mk (some 4) (AK.mv (AX.t 128)) none 9 false true)]) AC.ret) AC.skip)) (AC.seq (AC.ops [(AOp.mk (some 129) (AK.mv (AX.t 12)) none 0 false true), (AOp.mk (some 130) (AK.bin false BinOp.eql (AX.t 129) (AX.c (PV.val (Value.int IntKind.i64 0)))) none 1 false true), (AOp.mk (some 131) (AK.mv (AX.t 130)) none 2 false true), (AOp.mk (some 132) (AK.mv (AX.t 11)) (some (131, true)) 3 false true), (AOp.mk (some 133) (AK.mv (AX.t 13)) (some (131, true)) 4 false true), (AOp.mk (some 134) (AK.bin false BinOp.eql (AX.t 132) (AX.t 133)) (some (131, true)) 5 false true), (AOp.mk (some 135) (AK.pick (AX.t 131) (AX.t 134) (AX.c (PV.val (Value.bool false)))) none 6 false true), (AOp.mk (some 136) (AK.mv (AX.t 135)) none 7 false true), (AOp.mk (some 137) (AK.call 27 []) (some (136, true)) 8 false true), (AOp.mk (some 138) (AK.pick (AX.t 136) (AX.t 137) (AX.c (PV.val (Value.bool false)))) none 9 false true), (AOp.mk (some 4) (AK.mv (AX.t 138)) none 10 false true)]) AC.ret)))))))))))))
theorem ac7_ok : cCode Try.prog (fun _ => false) Try.f7.ntmps (Try.f7.body.getD .skip) = some ac7 := by kernel_rfl
def zeroC (b : MBook) (m j : Nat) : Nat := ((List.range j).filter (zeroB b m)).length
def fixC (b : MBook) (m j : Nat) : Bool := (List.range j).any fun q => zeroB b m q && (fixN b).testBit q
theorem zeroC_next (b : MBook) (m j : Nat) : zeroC b m (j + 1) = zeroC b m j + if zeroB b m j then 1 else 0 := by
  unfold zeroC
  rw [List.range_succ, List.filter_append, List.length_append]
  simp only [List.filter_cons, List.filter_nil]
  split <;> simp_all
theorem fixC_next (b : MBook) (m j : Nat) : fixC b m (j + 1) = (fixC b m j || (zeroB b m j && (fixN b).testBit j)) := by
  unfold fixC
  rw [List.range_succ, List.any_append, List.any_cons, List.any_nil, Bool.or_false]
theorem zeroC_le (b : MBook) (m j : Nat) : zeroC b m j ≤ j := by
  unfold zeroC
  exact Nat.le_trans (List.length_filter_le ..) (by simp)
theorem fixC_free (b : MBook) (m : Nat) : fixC b m (nK b) = !freeB b m := by
  unfold fixC freeB
  rw [List.not_all_eq_any_not]
  simp
set_option maxRecDepth 100000 in
set_option maxHeartbeats 2000000 in
theorem Needs_law (k k2 : SK) (b : MBook) (n : Int) : Sem1 7 [.agg (bookC k k2 b), pi n] (pb true) := by
  by_cases ho : okBook b
  rotate_left
  · refine semC_of_exec' mixed Try.func7 (by kernel_rfl) (by kernel_rfl) ac7_ok 2 rfl (by decide) [(.tmp 4)] (by kernel_rfl) ?_
    intro hr C hC hI
    unfold ac7
    simp only [go_sem, Nat.reduceBEq, Nat.reduceAdd]
    refine call_pure2 hC (sound_sem k k2 b) rfl (PVleL_refl _) ?_
    rintro r rfl
    simp only [go_sem, Nat.reduceBEq, eq_false ho, decide_false]
    refine call_pure2 hC (marked_sem) rfl (PVleL_refl _) ?_
    rintro r rfl
    simp only [go_sem, Nat.reduceBEq]
    exact retQ_one rfl rfl
  have hoc := ho.1
  have h1 := hoc.1
  have h2 := hoc.2.1
  obtain ⟨m, em, hm⟩ := rnd_maker hoc n
  have hrl := right_left (b := b)
  have hLl := leftL_len b (nK b)
  obtain ⟨L, hL⟩ : ∃ L, leftL b (nK b) = L := ⟨_, rfl⟩
  have hlf := left_sem k k2 ho
  rw [hL] at hrl hLl hlf
  cases hr0 : rightB b
  · rw [hr0] at hrl
    have h0in : (0 : Int) ∈ L := Decidable.not_not.1 fun h => by have := hrl.2 h; cases this
    refine semC_of_exec' mixed Try.func7 (by kernel_rfl) (by kernel_rfl) ac7_ok 2 rfl (by decide) [(.tmp 4)] (by kernel_rfl) ?_
    intro hr C hC hI
    unfold ac7
    simp only [go_sem, Nat.reduceBEq, Nat.reduceAdd]
    refine call_pure2 hC (sound_sem k k2 b) rfl (PVleL_refl _) ?_
    rintro r rfl
    simp only [go_sem, Nat.reduceBEq, Nat.reduceAdd, eq_true ho, List.length_map, decide_true, Bool.false_eq_true]
    refine call_pure2 hC (Round_sem n b.makers.length) rfl (PVleL_refl _) ?_
    rintro r rfl
    simp only [go_sem, Nat.reduceBEq, em]
    refine call_pure2 hC (hlf) rfl (PVleL_refl _) ?_
    rintro r rfl
    simp only [go_sem, Nat.reduceBEq, Nat.reduceAdd]
    refine call_pure2 hC (Right_ok k k2 ho) rfl (PVleL_refl _) ?_
    rintro r rfl
    simp only [go_sem, Nat.reduceBEq, Nat.reduceAdd, hr0]
    refine call_pure2 hC (Who_no k k2 ho hr0) rfl (PVleL_refl _) ?_
    rintro r rfl
    simp only [go_sem, Nat.reduceBEq, Nat.reduceAdd]
    refine call_pure2 hC (Needs_no k k2 ho hr0 hm) rfl (PVleL_refl _) ?_
    rintro r rfl
    simp only [go_sem, Nat.reduceBEq, decide_false, not_true_eq_false]
    refine call_pure2 hC (Find_sem L 0) rfl (PVleL_refl _) ?_
    rintro r ⟨i, rfl, hi⟩
    have hi2 : ¬ i < 0 := fun h => hi.1 h h0in
    simp only [go_sem, Nat.reduceBEq, eq_false hi2, Int.natCast_zero, List.length_nil, List.map_nil, decide_true, decide_false, not_true_eq_false]
    refine call_pure2 hC (marked_sem) rfl (PVleL_refl _) ?_
    rintro r rfl
    simp only [go_sem, Nat.reduceBEq]
    exact retQ_one rfl rfl
  · rw [hr0] at hrl
    have h0in : (0 : Int) ∉ L := hrl.1 rfl
    have hpe := poss_eq (b := b) (m := m)
    have hff := fixC_free b m
    have hzz : zeroC b m (nK b) = zeros b m := rfl
    have hne := needs_eq (b := b) (m := m)
    have hfx := hoc.fix.1
    obtain ⟨x, e, hN, hcase⟩ : ∃ x e : Int, Sem1 23 [.agg (bookC k k2 b), pi m] (.tup [pi x, pi e]) ∧ ((freeB b m = false ∧ x = 0 ∧ e = 4) ∨ (freeB b m = true ∧ x = zeros b m ∧ e = 0)) := by
      have hN := Needs_ok k k2 ho hr0 hm
      rw [hne] at hN
      cases hf : freeB b m
      · rw [hf, if_neg (fun h => by cases h.2)] at hN
        exact ⟨0, 4, hN, .inl ⟨rfl, rfl, rfl⟩⟩
      · rw [hf, hr0, if_pos ⟨rfl, rfl⟩] at hN
        exact ⟨zeros b m, 0, hN, .inr ⟨rfl, rfl, rfl⟩⟩
    have em2 := iadr_map (f := fun h => [pis h]) (kd := k) (sz := 1) hm
    obtain ⟨hrow, hrx⟩ := hoc.row hm
    refine semC_of_exec' mixed Try.func7 (by kernel_rfl) (by kernel_rfl) ac7_ok 2 rfl (by decide) [(.tmp 4)] (by kernel_rfl) ?_
    intro hr C hC hI
    unfold ac7
    simp only [go_sem, Nat.reduceBEq, Nat.reduceAdd]
    refine call_pure2 hC (sound_sem k k2 b) rfl (PVleL_refl _) ?_
    rintro r rfl
    simp only [go_sem, Nat.reduceBEq, Nat.reduceAdd, eq_true ho, List.length_map, decide_true, Bool.false_eq_true]
    refine call_pure2 hC (Round_sem n b.makers.length) rfl (PVleL_refl _) ?_
    rintro r rfl
    simp only [go_sem, Nat.reduceBEq, em]
    refine call_pure2 hC (hlf) rfl (PVleL_refl _) ?_
    rintro r rfl
    simp only [go_sem, Nat.reduceBEq, Nat.reduceAdd]
    refine call_pure2 hC (Right_ok k k2 ho) rfl (PVleL_refl _) ?_
    rintro r rfl
    simp only [go_sem, Nat.reduceBEq, Nat.reduceAdd, hr0]
    refine call_pure2 hC (Who_ok k k2 ho hr0) rfl (PVleL_refl _) ?_
    rintro r rfl
    simp only [go_sem, Nat.reduceBEq, Nat.reduceAdd]
    refine call_pure2 hC (hN) rfl (PVleL_refl _) ?_
    rintro r rfl
    simp only [go_sem, Nat.reduceBEq, decide_false, not_true_eq_false]
    refine call_pure2 hC (Find_sem L 0) rfl (PVleL_refl _) ?_
    rintro r ⟨i, rfl, hi⟩
    have hi2 : i < 0 := hi.2 h0in
    simp only [go_sem, Nat.reduceBEq, eq_true hi2, decide_true, decide_false, not_true_eq_false]
    refine loop_k (nK b) (fun _ => True) [2, 5, 6, 9, 10, 11, 12] (fun j => [(13, .p (pi (zeroC b m j : Nat))), (14, .p (pb (fixC b m j))), (15, .p (pi j))]) trivial rfl ⟨rfl, by simp, by simp⟩ (by simp [zeroC, fixC, wkT, look, AV.lo]) ?_
    rintro j ⟨hj, -⟩
    simp only [go_sem, Nat.reduceBEq, List.length_map, hLl]
    refine ⟨fun c5 => ?_, fun c5 => ?_⟩
    · have hj2 : j < nK b := by omega
      have hjl : j < b.makers[m].length := by omega
      obtain ⟨k1, k3, k4⟩ := hoc.mk hm hj2
      have hval := mk_get hm hjl
      rw [k4] at hval
      obtain ⟨hll, hlv⟩ := leftL_get (b := b) hj2
      have hjL : j < L.length := by omega
      have hLv : L[j] = (seenN b j : Int) := by
        have : ∀ (M : List Int) (h : j < M.length), M = leftL b (nK b) → M[j] = (seenN b j : Int) := by
          rintro M h rfl
          exact hlv
        exact this L hjL hL.symm
      have hand : binS false .and (.p (pi (seenN b j : Nat))) (.p (pi (mkN b m j : Nat))) = some (.p (pi (ownN b m j : Nat))) := by
        unfold ownN
        rw [Nat.and_comm]
        exact bin_andN (by have := seen_le b j; omega) (by omega)
      have hzn := zeroC_next b m j
      have hfn := fixC_next b m j
      have hzl := zeroC_le b m j
      have hz : zeroB b m j = decide (ownN b m j = 0) := rfl
      simp only [go_sem, Nat.reduceBEq, iadr_pis hjL, hLv, em2, iadr_pis hjl, hval, hand]
      refine ⟨fun d5 => ?_, fun d5 => ?_⟩
      · rw [hz, decide_eq_true (show ownN b m j = 0 by omega), if_pos rfl] at hzn
        rw [hz, decide_eq_true (show ownN b m j = 0 by omega), Bool.true_and] at hfn
        cases hF : fixC b m j
        · rw [hF, Bool.false_or] at hfn
          simp only [go_sem, Nat.reduceBEq, wrap_succ (k := zeroC b m j) (by omega), hfx]
          refine call_pure2 hC (Of_sem (fixN b : Nat) j (by omega)) rfl (PVleL_refl _) ?_
          rintro r rfl
          simp only [go_sem, Nat.reduceBEq, of_bit (s := fixN b) (i := j) (by omega), wrap_succ (k := j) (by omega)]
          refine ⟨⟨j + 1, hj2, trivial⟩, by simp only; omega, ?_⟩
          simp only [hzn, hfn]
          exact by simp [Wk, wkT, wkL, look, AV.lo, AV.lo.loL, ABlk.toZ]
        · rw [hF, Bool.true_or] at hfn
          simp only [go_sem, Nat.reduceBEq, wrap_succ (k := zeroC b m j) (by omega), wrap_succ (k := j) (by omega)]
          refine ⟨⟨j + 1, hj2, trivial⟩, by simp only; omega, ?_⟩
          simp only [hzn, hfn]
          exact by simp [Wk, wkT, wkL, look, AV.lo, AV.lo.loL, ABlk.toZ]
      · rw [hz, decide_eq_false (show ¬ ownN b m j = 0 by omega), if_neg (by decide), Nat.add_zero] at hzn
        rw [hz, decide_eq_false (show ¬ ownN b m j = 0 by omega), Bool.false_and, Bool.or_false] at hfn
        simp only [go_sem, wrap_succ (k := j) (by omega)]
        refine ⟨⟨j + 1, hj2, trivial⟩, by simp only; omega, ?_⟩
        simp only [hzn, hfn]
        exact by simp [Wk, wkT, wkL, look, AV.lo, AV.lo.loL, ABlk.toZ]
    · have hjn : j = nK b := by omega
      subst hjn
      rw [hff, hzz]
      have hfi := Find_sem (natL (whoL b)) m
      rcases hcase with ⟨hfr, rfl, rfl⟩ | ⟨hfr, rfl, rfl⟩
      · rw [hfr]
        simp only [go_sem, decide_false, Bool.not_false, false_implies, true_implies]
        refine call_pure2 hC (hfi) rfl (PVleL_refl _) ?_
        rintro r ⟨q, rfl, hq⟩
        have hn : q < 0 := hq.2 fun h => by
          have := (hpe.1 (mem_who.1 (mem_natL.1 h)).2).2.1
          rw [hfr] at this
          cases this
        simp only [go_sem, Nat.reduceBEq, decide_eq_false (show ¬ 0 ≤ q by omega), eq_false (show ¬ 0 ≤ q by omega), decide_true, decide_false, not_true_eq_false]
        refine call_pure2 hC (marked_sem) rfl (PVleL_refl _) ?_
        rintro r rfl
        simp only [go_sem, Nat.reduceBEq]
        exact retQ_one rfl rfl
      · rw [hfr]
        simp only [go_sem, decide_false, Bool.not_true, false_implies, true_implies]
        refine call_pure2 hC (hfi) rfl (PVleL_refl _) ?_
        rintro r ⟨q, rfl, hq⟩
        by_cases hle : (zeros b m : Int) ≤ b.repairs
        · have hn : ¬ q < 0 := fun h => hq.1 h (mem_natL.2 (mem_who.2 ⟨hm, hpe.2 ⟨hr0, hfr, hle⟩⟩))
          simp only [go_sem, Nat.reduceBEq, eq_true (show 0 ≤ q by omega), eq_true hle, decide_true, decide_false, not_true_eq_false]
          refine call_pure2 hC (marked_sem) rfl (PVleL_refl _) ?_
          rintro r rfl
          simp only [go_sem, Nat.reduceBEq]
          exact retQ_one rfl rfl
        · have hn : q < 0 := hq.2 fun h => hle (hpe.1 (mem_who.1 (mem_natL.1 h)).2).2.2
          simp only [go_sem, Nat.reduceBEq, decide_eq_false (show ¬ 0 ≤ q by omega), eq_false (show ¬ 0 ≤ q by omega), eq_false hle, decide_true, decide_false, not_true_eq_false]
          refine call_pure2 hC (marked_sem) rfl (PVleL_refl _) ?_
          rintro r rfl
          simp only [go_sem, Nat.reduceBEq]
          exact retQ_one rfl rfl
set_option maxRecDepth 100000 in
theorem Needs_row {l0 l1 : List PV} (T0 : Ty Try.prog 10 25 l0) (T1 : Ty Try.prog 10 3 l1) : SemC Try.prog 7 [argPV Try.prog 25 l0, argPV Try.prog 3 l1] (fun r => r = pb true) := by
  obtain ⟨b, rfl⟩ := ty_book T0
  obtain ⟨n, rfl⟩ := tyInt uInt T1
  rw [argStruct Try.underlying25, argInt uInt]
  exact Needs_law .sh .sh b n
end Go.Proofs.Ythaplmohhbdfeaa.Mk
namespace Go.Proofs.Ythaplmohhbdfeaa
open Go.Proofs.Ythaplmohhbdfeaa Go.ChangeShapes Go.WideShapes Go.ChangeAt Go.RowKit Go.Deep

set_option maxRecDepth 100000 in
theorem makerNeeds_lifted (os : Os) (started : os.Started) (H : Type) (enc : TypeId × Value → H) :
    ReturnsInHanded {} Try.checked os 7 .any (Rows.makerNeedsSpec.pre6 enc Try.prog Try.f7 Rows.makerNeedsRow.domain false) (Rows.makerNeedsSpec.post enc Try.prog Try.f7 false true false false) := by
  refine returnsInHanded_of_change_sized (C := Try.checked) ownKnobs started (by kernel_rfl) Try.func7
    (ChangeSpec.witness6 (enc := enc) (C := Try.checked) false ⟨#[], #[.agg #[.slice none 0 0, .slice none 0 0, .int .i64 0, .int .i64 0], .int .i64 0], []⟩ 8 (by kernel_rfl) (by kernel_rfl) (by kernel_rfl) (by kernel_rfl)) ?_
  intro W base args ds gs before hval0 hW hcnd hsz0 _
  have hval : ∀ (j : Nat) t v, Try.f7.params[j]? = some t → args[j]? = some v → Value.okWide Try.prog W .any base t v := hval0
  have hsz : (DataW.weightsEach Try.prog (Try.f7.params.toList ++ Rows.makerNeedsSpec.plain.varTypes Try.prog) (ds ++ gs)).all (· ≤ reachBytes) = true := hsz0
  have hW' := hW
  obtain ⟨p, q, hA0, hV, rfl, hfz, hnd⟩ := hW
  have hA : DataW.TrodAll enc Try.prog W 0 (fun _ => true) true Try.f7.params.toList args.toList ds p := hA0
  rw [Try.params7] at hA hval hsz
  obtain ⟨v0, vs0, d0, ds0, p0, q0, hargs, rfl, rfl, h0, r0⟩ := trodAll_cons hA
  obtain ⟨v1, vs1, d1, ds1, p1, q1, rfl, rfl, rfl, h1, r1⟩ := trodAll_cons r0
  obtain ⟨rfl, rfl, rfl⟩ := trodAll_nil r1
  obtain rfl : args = #[v0, v1] := by cases args; simp_all
  obtain ⟨rfl, rfl⟩ := trodVars_none hV
  have lt0 : ∀ x ∈ p0, x.block < W.heap.size := by obtain ⟨m, hm⟩ := h0; exact DataW.trod_lt m _ _ _ hm
  have lt1 : ∀ x ∈ p1, x.block < W.heap.size := by obtain ⟨m, hm⟩ := h1; exact DataW.trod_lt m _ _ _ hm
  have z0 : SizedP Try.prog 25 d0 := sizedP_each hsz (j := 0) rfl rfl
  obtain ⟨l0, T0, R0⟩ := rd_arg 10 (by kernel_rfl) (hval 0 25 v0 rfl rfl) h0 z0
  have z1 : SizedP Try.prog 3 d1 := sizedP_each hsz (j := 1) rfl rfl
  obtain ⟨l1, T1, R1⟩ := rd_arg 10 (by kernel_rfl) (hval 1 3 v1 rfl rfl) h1 z1
  clear hA0 hval0 hsz0
  refine (law_calls (Mk.Needs_row T0 T1) (argsP_cons R0 (argsP_cons R1 argsP_nil))).mono fun e W' ⟨he, bel⟩ => ?_
  subst he
  exact ⟨_, rfl, _, _, _, [], _, [], hW', trodAll_mk1 (shut_bool Try.underlying4 _), (trodAll_cons_mk (Below.trod laidOut (by kernel_rfl) (of_decide_eq_true (by kernel_rfl)) h0 bel lt0) (trodAll_cons_mk (Below.trod laidOut (by kernel_rfl) (of_decide_eq_true (by kernel_rfl)) h1 bel lt1) trodAll_mk0)), rfl, bel.frame _, fun h => by cases h⟩

theorem makerNeeds_holds : Rows.MakerNeedsSaid :=
  OpenClaim.holds_of_wide 7 Try.f7 rfl rfl rfl rfl rfl rfl rfl ⟨rfl, rfl, rfl, rfl, rfl⟩ rfl rfl rfl rfl rfl (by kernel_rfl) Try.func7 (by kernel_rfl)
    (of_decide_eq_true (by kernel_rfl)) (by unfold Func.isWrapper; first | (rw [if_pos (by decide +kernel)]; kernel_rfl) | (rw [if_neg (by decide +kernel)]; exact ⟨rfl, rfl⟩))
    (fun os started H enc _ => makerNeeds_lifted os started H enc)
end Go.Proofs.Ythaplmohhbdfeaa
