/- StandRoom returns true: with no lean between those that are told the horse can tip, with the next one beyond either it can; for every book and every number; no condition. StandRoom. -/
import Derived.Test.YtgniamjempccmaaGa23
import Derived.Test.YtgniamjempccmaaGa20
namespace Go.Proofs.Ytgniamjempccmaa
open Go.RowKit
def ac13 : AC := (AC.seq (AC.ops [(AOp.mk (some 2) (AK.box 10 (AX.t 0)) none 0 false true), (AOp.mk (some 4) (AK.mv (AX.c (PV.val (Value.bool false)))) none 1 false true)]) (AC.seq (AC.seq (AC.ops [(AOp.mk (some 13) (AK.ld (some 10) (AX.t 2)) none 0 false true), (AOp.mk (some 14) (AK.call 38 [(AX.t 13)]) none 1 false true), (AOp.mk (some 15) (AK.un UnOp.not (AX.t 14)) none 2 false true)]) (AC.cond (AX.t 15) (AC.seq (AC.ops [(AOp.mk (some 16) (AK.call 24 []) none 0 false true), (AOp.mk (some 4) (AK.mv (AX.t 16)) none 1 false true)]) AC.ret) AC.skip)) (AC.seq (AC.ops [(AOp.mk (some 17) (AK.mv (AX.t 1)) none 0 false true), (AOp.mk (some 18) (AK.fadr 8 (AX.t 2)) none 1 false true), (AOp.mk (some 19) (AK.ld none (AX.t 18)) none 2 false true), (AOp.mk (some 20) (AK.call 41 [(AX.t 17), (AX.t 19)]) none 3 false true), (AOp.mk (some 21) (AK.bin false BinOp.add (AX.c (PV.val (Value.int IntKind.i64 1))) (AX.t 20)) none 4 false true), (AOp.mk (some 5) (AK.mv (AX.t 21)) none 5 false true)]) (AC.seq (AC.ops [(AOp.mk (some 23) (AK.ld (some 10) (AX.t 2)) none 0 false true), (AOp.mk (some 24) (AK.mv (AX.t 5)) none 1 false true), (AOp.mk (some 25) (AK.call 29 [(AX.t 23), (AX.t 24)]) none 2 false true), (AOp.mk (some 22) (AK.mv (AX.t 25)) none 3 false true), (AOp.mk (some 26) (AK.ext (AX.t 22) 0) none 4 false true), (AOp.mk (some 27) (AK.ext (AX.t 22) 1) none 5 false true), (AOp.mk (some 6) (AK.new (PV.agg [(PV.val (Value.int IntKind.i64 0)), (PV.val (Value.int IntKind.i64 0))])) none 6 false true), (AOp.mk none (AK.st 2 (AX.t 6) (AX.t 26)) none 7 false true), (AOp.mk (some 7) (AK.mv (AX.t 27)) none 8 false true)]) (AC.seq (AC.ops [(AOp.mk (some 29) (AK.ld (some 10) (AX.t 2)) none 0 false true), (AOp.mk (some 30) (AK.mv (AX.t 5)) none 1 false true), (AOp.mk (some 31) (AK.call 20 [(AX.t 29), (AX.t 30), (AX.c (PV.val (Value.int IntKind.i64 0)))]) none 2 false true), (AOp.mk (some 28) (AK.mv (AX.t 31)) none 3 false true), (AOp.mk (some 32) (AK.ext (AX.t 28) 0) none 4 false true), (AOp.mk (some 33) (AK.ext (AX.t 28) 1) none 5 false true), (AOp.mk (some 8) (AK.mv (AX.t 32)) none 6 false true), (AOp.mk (some 9) (AK.mv (AX.t 33)) none 7 false true)]) (AC.seq (AC.seq (AC.ops [(AOp.mk (some 34) (AK.mv (AX.t 9)) none 0 false true), (AOp.mk (some 35) (AK.bin false BinOp.neq (AX.t 34) (AX.c (PV.val (Value.int IntKind.i64 0)))) none 1 false true)]) (AC.cond (AX.t 35) (AC.seq (AC.ops [(AOp.mk (some 36) (AK.mv (AX.t 9)) none 0 false true), (AOp.mk (some 37) (AK.bin false BinOp.eql (AX.t 36) (AX.c (PV.val (Value.int IntKind.i64 22)))) none 1 false true), (AOp.mk (some 38) (AK.mv (AX.t 37)) none 2 false true), (AOp.mk (some 39) (AK.mv (AX.t 7)) (some (38, true)) 3 false true), (AOp.mk (some 40) (AK.mv (AX.t 9)) (some (38, true)) 4 false true), (AOp.mk (some 41) (AK.bin false BinOp.eql (AX.t 39) (AX.t 40)) (some (38, true)) 5 false true), (AOp.mk (some 42) (AK.pick (AX.t 38) (AX.t 41) (AX.c (PV.val (Value.bool false)))) none 6 false true), (AOp.mk (some 43) (AK.mv (AX.t 42)) none 7 false true), (AOp.mk (some 44) (AK.call 24 []) (some (43, true)) 8 false true), (AOp.mk (some 45) (AK.pick (AX.t 43) (AX.t 44) (AX.c (PV.val (Value.bool false)))) none 9 false true), (AOp.mk (some 4) (AK.mv (AX.t 45)) none 10 false true)]) AC.ret) AC.skip)) (AC.seq (AC.seq (AC.ops [(AOp.mk (some 46) (AK.mv (AX.t 7)) none 0 false true), (AOp.mk (some 47) (AK.bin false BinOp.neq (AX.t 46) (AX.c (PV.val (Value.int IntKind.i64 0)))) none 1 false true), (AOp.mk (some 48) (AK.mv (AX.t 47)) none 2 false true), (AOp.mk (some 49) (AK.mv (AX.t 8)) (some (48, false)) 3 false true), (AOp.mk (some 50) (AK.bin false BinOp.gtr (AX.t 49) (AX.c (PV.val (Value.int IntKind.i64 0)))) (some (48, false)) 4 false true), (AOp.mk (some 51) (AK.pick (AX.t 48) (AX.c (PV.val (Value.bool true))) (AX.t 50)) none 5 false true)]) (AC.cond (AX.t 51) (AC.seq (AC.ops [(AOp.mk (some 52) (AK.mv (AX.t 7)) none 0 true false), (AOp.mk (some 53) (AK.bin false BinOp.eql (AX.t 52) (AX.c (PV.val (Value.int IntKind.i64 4)))) none 1 true false), (AOp.mk (some 54) (AK.mv (AX.t 53)) none 2 true false), (AOp.mk (some 55) (AK.ld (some 2) (AX.t 6)) (some (54, true)) 3 true false), (AOp.mk (some 56) (AK.call 49 [(AX.c (PV.val (Value.int IntKind.i64 0)))]) (some (54, true)) 4 false false), (AOp.mk (some 57) (AK.eqs [CK.i, CK.i] false (AX.t 55) (AX.t 56)) (some (54, true)) 5 true false), (AOp.mk (some 58) (AK.pick (AX.t 54) (AX.t 57) (AX.c (PV.val (Value.bool false)))) none 6 true false), (AOp.mk (some 59) (AK.mv (AX.t 58)) none 7 true false), (AOp.mk (some 60) (AK.mv (AX.t 8)) (some (59, true)) 8 true false), (AOp.mk (some 61) (AK.bin false BinOp.gtr (AX.t 60) (AX.c (PV.val (Value.int IntKind.i64 0)))) (some (59, true)) 9 true false), (AOp.mk (some 62) (AK.pick (AX.t 59) (AX.t 61) (AX.c (PV.val (Value.bool false)))) none 10 true false), (AOp.mk (some 63) (AK.mv (AX.t 62)) none 11 true false), (AOp.mk (some 64) (AK.call 24 []) (some (63, true)) 12 false false), (AOp.mk (some 65) (AK.pick (AX.t 63) (AX.t 64) (AX.c (PV.val (Value.bool false)))) none 13 true false), (AOp.mk (some 4) (AK.mv (AX.t 65)) none 14 true true)]) AC.ret) AC.skip)) (AC.seq (AC.seq (AC.ops [(AOp.mk (some 66) (AK.fadr 7 (AX.t 2)) none 0 true false), (AOp.mk (some 67) (AK.ld none (AX.t 66)) none 1 true false), (AOp.mk (some 68) (AK.un UnOp.neg (AX.t 67)) none 2 true false), (AOp.mk (some 69) (AK.fadr 7 (AX.t 2)) none 3 true false), (AOp.mk (some 70) (AK.ld none (AX.t 69)) none 4 true false), (AOp.mk (some 72) (AK.ld (some 2) (AX.t 6)) none 6 true false), (AOp.mk (some 71) (AK.call 46 [(AX.t 68), (AX.t 70)]) none 5 false false), (AOp.mk (some 73) (AK.call 50 [(AX.t 71), (AX.t 72)]) none 7 false false), (AOp.mk (some 74) (AK.un UnOp.not (AX.t 73)) none 8 true false), (AOp.mk (some 75) (AK.mv (AX.t 74)) none 9 true false), (AOp.mk (some 76) (AK.ld (some 2) (AX.t 6)) (some (75, false)) 10 true false), (AOp.mk (some 77) (AK.call 44 [(AX.t 76), (AX.c (PV.val (Value.int IntKind.i64 0)))]) (some (75, false)) 11 false false), (AOp.mk (some 78) (AK.un UnOp.not (AX.t 77)) (some (75, false)) 12 true false), (AOp.mk (some 79) (AK.pick (AX.t 75) (AX.c (PV.val (Value.bool true))) (AX.t 78)) none 13 true false)]) (AC.cond (AX.t 79) (AC.seq (AC.ops [(AOp.mk (some 4) (AK.mv (AX.c (PV.val (Value.bool false)))) none 0 false true)]) AC.ret) AC.skip)) (AC.seq (AC.seq (AC.ops [(AOp.mk (some 80) (AK.fadr 7 (AX.t 2)) none 0 false true), (AOp.mk (some 81) (AK.ld none (AX.t 80)) none 1 false true), (AOp.mk (some 82) (AK.un UnOp.neg (AX.t 81)) none 2 false true), (AOp.mk (some 10) (AK.mv (AX.t 82)) none 3 false true)]) (AC.block 0 (AC.loop (AC.seq (AC.seq (AC.ops [(AOp.mk (some 83) (AK.mv (AX.t 10)) none 0 false true), (AOp.mk (some 84) (AK.fadr 7 (AX.t 2)) none 1 false true), (AOp.mk (some 85) (AK.ld none (AX.t 84)) none 2 false true), (AOp.mk (some 86) (AK.bin false BinOp.leq (AX.t 83) (AX.t 85)) none 3 false true)]) (AC.cond (AX.t 86) AC.skip (AC.exit 0))) (AC.seq (AC.block 1 (AC.seq (AC.ops [(AOp.mk (some 90) (AK.ld (some 10) (AX.t 2)) none 0 false true), (AOp.mk (some 91) (AK.mv (AX.t 5)) none 1 false true), (AOp.mk (some 92) (AK.mv (AX.t 10)) none 2 false true), (AOp.mk (some 93) (AK.call 20 [(AX.t 90), (AX.t 91), (AX.t 92)]) none 3 false true), (AOp.mk (some 89) (AK.mv (AX.t 93)) none 4 false true), (AOp.mk (some 94) (AK.ext (AX.t 89) 0) none 5 false true), (AOp.mk (some 95) (AK.ext (AX.t 89) 1) none 6 false true), (AOp.mk (some 11) (AK.mv (AX.t 94)) none 7 false true), (AOp.mk (some 12) (AK.mv (AX.t 95)) none 8 false true)]) (AC.seq (AC.ops [(AOp.mk (some 96) (AK.mv (AX.t 12)) none 0 false true), (AOp.mk (some 97) (AK.bin false BinOp.neq (AX.t 96) (AX.c (PV.val (Value.int IntKind.i64 0)))) none 1 false true), (AOp.mk (some 98) (AK.mv (AX.t 97)) none 2 false true), (AOp.mk (some 99) (AK.ld (some 2) (AX.t 6)) (some (98, false)) 3 false true), (AOp.mk (some 100) (AK.mv (AX.t 10)) (some (98, false)) 4 false true), (AOp.mk (some 101) (AK.call 44 [(AX.t 99), (AX.t 100)]) (some (98, false)) 5 false true), (AOp.mk (some 102) (AK.mv (AX.t 101)) (some (98, false)) 6 false true), (AOp.mk (some 103) (AK.mv (AX.t 11)) (some (102, true)) 7 false true), (AOp.mk (some 104) (AK.bin false BinOp.gtr (AX.t 103) (AX.c (PV.val (Value.int IntKind.i64 0)))) (some (102, true)) 8 false true), (AOp.mk (some 105) (AK.pick (AX.t 102) (AX.t 104) (AX.c (PV.val (Value.bool false)))) (some (98, false)) 9 false true), (AOp.mk (some 106) (AK.pick (AX.t 98) (AX.c (PV.val (Value.bool true))) (AX.t 105)) none 10 false true), (AOp.mk (some 107) (AK.mv (AX.t 106)) none 11 false true), (AOp.mk (some 108) (AK.mv (AX.t 10)) (some (107, false)) 12 false true), (AOp.mk (some 109) (AK.fadr 0 (AX.t 6)) (some (107, false)) 13 false true), (AOp.mk (some 110) (AK.ld none (AX.t 109)) (some (107, false)) 14 false true), (AOp.mk (some 111) (AK.bin false BinOp.sub (AX.t 110) (AX.c (PV.val (Value.int IntKind.i64 1)))) (some (107, false)) 15 false true), (AOp.mk (some 112) (AK.bin false BinOp.eql (AX.t 108) (AX.t 111)) (some (107, false)) 16 false true), (AOp.mk (some 113) (AK.mv (AX.t 112)) (some (107, false)) 17 false true), (AOp.mk (some 114) (AK.mv (AX.t 10)) (some (113, false)) 18 false true), (AOp.mk (some 115) (AK.fadr 1 (AX.t 6)) (some (113, false)) 19 false true), (AOp.mk (some 116) (AK.ld none (AX.t 115)) (some (113, false)) 20 false true), (AOp.mk (some 117) (AK.bin false BinOp.add (AX.t 116) (AX.c (PV.val (Value.int IntKind.i64 1)))) (some (113, false)) 21 false true), (AOp.mk (some 118) (AK.bin false BinOp.eql (AX.t 114) (AX.t 117)) (some (113, false)) 22 false true), (AOp.mk (some 119) (AK.pick (AX.t 113) (AX.c (PV.val (Value.bool true))) (AX.t 118)) (some (107, false)) 23 false true), (AOp.mk (some 120) (AK.mv (AX.t 119)) (some (107, false)) 24 false true), (AOp.mk (some 121) (AK.mv (AX.t 11)) (some (120, true)) 25 false true), (AOp.mk (some 122) (AK.bin false BinOp.eql (AX.t 121) (AX.c (PV.val (Value.int IntKind.i64 0)))) (some (120, true)) 26 false true), (AOp.mk (some 123) (AK.pick (AX.t 120) (AX.t 122) (AX.c (PV.val (Value.bool false)))) (some (107, false)) 27 false true), (AOp.mk (some 124) (AK.pick (AX.t 107) (AX.c (PV.val (Value.bool true))) (AX.t 123)) none 28 false true)]) (AC.cond (AX.t 124) (AC.seq (AC.ops [(AOp.mk (some 4) (AK.mv (AX.c (PV.val (Value.bool false)))) none 0 false true)]) AC.ret) AC.skip)))) (AC.ops [(AOp.mk (some 87) (AK.mv (AX.t 10)) none 0 false true), (AOp.mk (some 88) (AK.bin false BinOp.add (AX.t 87) (AX.c (PV.val (Value.int IntKind.i64 1)))) none 1 false true), (AOp.mk (some 10) (AK.mv (AX.t 88)) none 2 false true)])))))) (AC.seq (AC.ops [(AOp.mk (some 125) (AK.call 24 []) none 0 false true), (AOp.mk (some 4) (AK.mv (AX.t 125)) none 1 false true)]) AC.ret))))))))))
theorem ac13_ok : cCode Try.prog (fun _ => false) Try.f13.ntmps (Try.f13.body.getD .skip) = some ac13 := by kernel_rfl
theorem answer_zero {b : SBook} {ls : List SLoad} {w n : Int} (h : holdsI b ls w n) : answerI b ls w n = 0 := by
  unfold answerI; rw [if_pos (count_zero.2 h)]
theorem answer_pos {b : SBook} {ls : List SLoad} {w n : Int} (h : ¬ holdsI b ls w n) : 0 < answerI b ls w n := by
  unfold answerI
  rw [if_neg (fun hc => h (count_zero.1 hc))]
  split <;> omega
theorem answer_holds {b : SBook} {ls : List SLoad} {w n : Int} : answerI b ls w n = 0 ↔ holdsI b ls w n := by
  constructor
  · intro h
    rcases Classical.em (holdsI b ls w n) with h1 | h1
    · exact h1
    · have := answer_pos h1; omega
  · exact answer_zero
theorem answer_rng (b : SBook) (ls : List SLoad) (w n : Int) : 0 ≤ answerI b ls w n ∧ answerI b ls w n ≤ 2 := by
  unfold answerI
  split
  · omega
  · split <;> omega
theorem StandRoom_law (b : SBook) (n : Int) : Sem1 13 [.agg (bookC .sh .sh b), pi n] (pb true) := by
  refine semC_of_exec' mixed Try.func13 (by kernel_rfl) (by kernel_rfl) ac13_ok 2 rfl (by decide) [(.tmp 4)] (by kernel_rfl) ?_
  intro hr C hC hI
  unfold ac13
  simp only [go_sem, Nat.reduceBEq, Nat.reduceAdd]
  refine call_pure2 hC (sound_sem ..) rfl (PVleL_refl _) ?_
  rintro r rfl
  simp only [go_sem, Nat.reduceBEq]
  refine ⟨fun _ => ?_, fun ho => ?_⟩
  · refine call_pure2 hC (stood_sem) rfl (PVleL_refl _) ?_
    rintro r rfl
    simp only [go_sem, Nat.reduceBEq]
    exact retQ_one rfl rfl
  have hg := ok_rng ho
  have hw := rndI_range (n := n) (m := b.limit) (by omega)
  obtain ⟨w, hwd⟩ : ∃ w, 1 + rndI n b.limit = w := ⟨_, rfl⟩
  have hwr : 1 ≤ w ∧ w ≤ b.limit := by omega
  refine call_pure2 hC (Round_sem n b.limit) rfl (PVleL_refl _) ?_
  rintro r rfl
  simp only [go_sem, Nat.reduceBEq, Nat.reduceAdd, hwd, wrap_id (n := w) (by omega) (by omega)]
  by_cases hT : truthL b = []
  · refine call_pure2 hC (Room_F ho hT hwr) rfl (PVleL_refl _) ?_
    rintro r rfl
    simp only [go_sem, Nat.reduceBEq, Nat.reduceAdd, putCells]
    refine call_pure2 hC (Tips_F ho hT (n := 0) hwr (by omega)) rfl (PVleL_refl _) ?_
    rintro r rfl
    simp only [go_sem, Nat.reduceBEq, decide_true, not_false_eq_true, Int.reduceEq]
    refine call_pure2 hC (stood_sem) rfl (PVleL_refl _) ?_
    rintro r rfl
    simp only [go_sem, Nat.reduceBEq]
    exact retQ_one rfl rfl
  by_cases hc : holdsI b (loadsI b) w 0
  case neg =>
    have hp := answer_pos hc
    refine call_pure2 hC (Room_N ho hT hwr hc) rfl (PVleL_refl _) ?_
    rintro r rfl
    simp only [go_sem, Nat.reduceBEq, Nat.reduceAdd, putCells]
    refine call_pure2 hC (Tips_T ho hT (n := 0) hwr (by omega)) rfl (PVleL_refl _) ?_
    rintro r rfl
    simp only [go_sem, Nat.reduceBEq, Nat.reduceAdd, decide_true, decide_false, not_true_eq_false, Bool.false_eq_true, not_false_eq_true, Int.reduceEq]
    refine call_pure2 hC (One_sem 0) rfl (PVleL_refl _) ?_
    rintro r rfl
    simp only [go_sem, Nat.reduceBEq, decide_true, Bool.true_and, Bool.false_eq_true, decide_eq_true hp]
    refine call_pure2 hC (stood_sem) rfl (PVleL_refl _) ?_
    rintro r rfl
    simp only [go_sem, Nat.reduceBEq]
    exact retQ_one rfl rfl
  obtain ⟨k1, a1, a2, a3, a4⟩ := far_facts b (loadsI b) w (-1) (.inr rfl) b.lean.toNat 0
  obtain ⟨k2, c1, c2, c3, c4⟩ := far_facts b (loadsI b) w 1 (.inl rfl) b.lean.toNat 0
  obtain ⟨lo, hlo⟩ : ∃ lo, farI b (loadsI b) w (-1) b.lean.toNat 0 = lo := ⟨_, rfl⟩
  obtain ⟨hi, hhi⟩ : ∃ hi, farI b (loadsI b) w 1 b.lean.toNat 0 = hi := ⟨_, rfl⟩
  have hin : ∀ m : Int, lo ≤ m → m ≤ hi → holdsI b (loadsI b) w m := fun m h1 h2 => by
    rcases Int.lt_trichotomy m 0 with h3 | h3 | h3
    · have := a3 (-m).toNat (by omega) (by omega)
      rwa [show (0 : Int) + -1 * ((-m).toNat : Int) = m by omega] at this
    · subst h3; exact hc
    · have := c3 m.toNat (by omega) (by omega)
      rwa [show (0 : Int) + 1 * (m.toNat : Int) = m by omega] at this
  have hout : ∀ m : Int, -b.lean ≤ m → m ≤ b.lean → m = lo - 1 ∨ m = hi + 1 → ¬ holdsI b (loadsI b) w m := fun m h1 h2 h3 => by
    rcases h3 with h3 | h3
    · have := a4 (by omega)
      rwa [show (0 : Int) + -1 * ((k1 : Int) + 1) = m by omega] at this
    · have := c4 (by omega)
      rwa [show (0 : Int) + 1 * ((k2 : Int) + 1) = m by omega] at this
  have hlr : -b.lean ≤ lo ∧ lo ≤ 0 := by omega
  have hhr : 0 ≤ hi ∧ hi ≤ b.lean := by omega
  clear a1 a2 a3 a4 c1 c2 c3 c4
  have hR := Room_S (k := .sh) (k2 := .sh) ho hT hwr hc
  rw [hlo, hhi] at hR
  have hz : IntKind.i64.wrap (0 - b.lean) = -b.lean := by rw [wrap_id (by omega) (by omega)]; omega
  refine call_pure2 hC (hR) rfl (PVleL_refl _) ?_
  rintro r rfl
  simp only [go_sem, Nat.reduceBEq, Nat.reduceAdd, putCells]
  refine call_pure2 hC (Tips_T ho hT (n := 0) hwr (by omega)) rfl (PVleL_refl _) ?_
  rintro r rfl
  simp only [go_sem, Nat.reduceBEq, Nat.reduceAdd, decide_false, not_true_eq_false, Bool.false_eq_true, Int.reduceLT, answer_zero hc, hz]
  refine call_pure2 hC (From_sem ..) rfl (PVleL_refl _) ?_
  rintro r rfl
  simp only [go_sem, Nat.reduceBEq]
  refine call_pure2 hC (Wraps_sem ..) rfl (PVleL_refl _) ?_
  rintro r rfl
  simp only [go_sem, Nat.reduceBEq, Nat.reduceAdd, decide_eq_true (show -b.lean ≤ lo ∧ hi ≤ b.lean by omega), Bool.false_eq_true]
  refine call_pure2 hC (Has_sem ..) rfl (PVleL_refl _) ?_
  rintro r rfl
  simp only [go_sem, Nat.reduceBEq, decide_eq_true (show lo ≤ 0 ∧ 0 ≤ hi by omega), hz]
  refine loop_nat (2 * b.lean + 1).toNat (fun _ => True) (fun (j : Nat) => ⟨[(10, .p (pi (j - b.lean))), (6, .loc 1 0), (5, .p (pi w)), (2, .loc 0 0)], [.cells ((bookC .sh .sh b).map .p), .cells [.p (pi lo), .p (pi hi)]], [], some [], 0⟩) trivial (by simp [Wk, wkT, wkL, look, AV.lo, AV.lo.loL]) ?_
  rintro j ⟨hj, -⟩
  obtain ⟨m, hm⟩ : ∃ m, (j : Int) - b.lean = m := ⟨_, rfl⟩
  have hnx : IntKind.i64.wrap (m + 1) = ((j + 1 : Nat) : Int) - b.lean := by rw [wrap_id (by omega) (by omega)]; omega
  simp only [hm]
  simp only [go_sem, Nat.reduceBEq, Nat.reduceAdd]
  refine ⟨fun h5 => ?_, fun h5 => ?_⟩
  · have h1 := hin m
    have h2 := hout m (by omega) (by omega)
    rw [← answer_holds] at h1 h2
    have h3 := answer_rng b (loadsI b) w m
    refine call_pure2 hC (Tips_T ho hT (n := m) hwr (by omega)) rfl (PVleL_refl _) ?_
    rintro r rfl
    simp only [go_sem, Nat.reduceBEq, Nat.reduceAdd, decide_false, not_true_eq_false]
    obtain ⟨a, ha⟩ : ∃ a, answerI b (loadsI b) w m = a := ⟨_, rfl⟩
    rw [ha] at h1 h2 h3
    refine call_pure2 hC (Has_sem lo hi m) rfl (PVleL_refl _) ?_
    rintro r rfl
    simp only [go_sem, Nat.reduceBEq, ha, wrap_id (n := lo - 1) (by omega) (by omega), wrap_id (n := hi + 1) (by omega) (by omega), hnx]
    repeat' (first | (exfalso; omega) | (guard_target =~ _ ∧ _; refine ⟨fun _ => ?_, fun _ => ?_⟩))
    all_goals exact ⟨⟨j + 1, by omega, trivial⟩, by simp only; omega, by simp [Wk, wkT, wkL, look, AV.lo, AV.lo.loL]⟩
  · refine call_pure2 hC (stood_sem) rfl (PVleL_refl _) ?_
    rintro r rfl
    simp only [go_sem, Nat.reduceBEq]
    exact retQ_one rfl rfl
set_option maxRecDepth 100000 in
theorem StandRoom_row {l0 l1 : List PV} (T0 : Ty Try.prog 10 25 l0) (T1 : Ty Try.prog 10 3 l1) : SemC Try.prog 13 [argPV Try.prog 25 l0, argPV Try.prog 3 l1] (fun r => r = pb true) := by
  obtain ⟨b, rfl⟩ := ty_book T0
  obtain ⟨n, rfl⟩ := tyInt uInt T1
  rw [argStruct Try.underlying25, argInt uInt]
  exact StandRoom_law b n
end Go.Proofs.Ytgniamjempccmaa
namespace Go.Proofs.Ytgniamjempccmaa
open Go.Proofs.Ytgniamjempccmaa Go.ChangeShapes Go.WideShapes Go.ChangeAt Go.RowKit Go.Deep

set_option maxRecDepth 100000 in
theorem standRoom_lifted (os : Os) (started : os.Started) (H : Type) (enc : TypeId × Value → H) :
    ReturnsInHanded {} Try.checked os 13 .any (Rows.standRoomSpec.pre6 enc Try.prog Try.f13 Rows.standRoomRow.domain false) (Rows.standRoomSpec.post enc Try.prog Try.f13 false true false false) := by
  refine returnsInHanded_of_change_sized (C := Try.checked) ownKnobs started (by kernel_rfl) Try.func13
    (ChangeSpec.witness6 (enc := enc) (C := Try.checked) false ⟨#[], #[.agg #[.int .i64 0, .int .i64 0, .int .i64 0, .int .i64 0, .slice none 0 0, .int .i64 0, .int .i64 0, .int .i64 0, .int .i64 0, .slice none 0 0], .int .i64 0], []⟩ 8 (by kernel_rfl) (by kernel_rfl) (by kernel_rfl) (by kernel_rfl)) ?_
  intro W base args ds gs before hval0 hW hcnd hsz0 _
  have hval : ∀ (j : Nat) t v, Try.f13.params[j]? = some t → args[j]? = some v → Value.okWide Try.prog W .any base t v := hval0
  have hsz : (DataW.weightsEach Try.prog (Try.f13.params.toList ++ Rows.standRoomSpec.plain.varTypes Try.prog) (ds ++ gs)).all (· ≤ reachBytes) = true := hsz0
  have hW' := hW
  obtain ⟨p, q, hA0, hV, rfl, hfz, hnd⟩ := hW
  have hA : DataW.TrodAll enc Try.prog W 0 (fun _ => true) true Try.f13.params.toList args.toList ds p := hA0
  rw [Try.params13] at hA hval hsz
  obtain ⟨v0, vs0, d0, ds0, p0, q0, hargs, rfl, rfl, h0, r0⟩ := trodAll_cons hA
  obtain ⟨v1, vs1, d1, ds1, p1, q1, rfl, rfl, rfl, h1, r1⟩ := trodAll_cons r0
  obtain ⟨rfl, rfl, rfl⟩ := trodAll_nil r1
  obtain rfl : args = #[v0, v1] := by cases args; simp_all
  obtain ⟨rfl, rfl⟩ := trodVars_none hV
  have lt0 : ∀ x ∈ p0, x.block < W.heap.size := by obtain ⟨m, hm⟩ := h0; exact DataW.trod_lt m _ _ _ hm
  have lt1 : ∀ x ∈ p1, x.block < W.heap.size := by obtain ⟨m, hm⟩ := h1; exact DataW.trod_lt m _ _ _ hm
  have z0 : SizedP Try.prog 25 d0 := sizedP_each hsz (j := 0) rfl rfl
  obtain ⟨l0, T0, R0⟩ := rd_arg 10 (by kernel_rfl) (hval 0 25 v0 rfl rfl) h0 z0
  have z1 : SizedP Try.prog 3 d1 := sizedP_each hsz (j := 1) rfl rfl
  obtain ⟨l1, T1, R1⟩ := rd_arg 10 (by kernel_rfl) (hval 1 3 v1 rfl rfl) h1 z1
  clear hA0 hval0 hsz0
  refine (law_calls (StandRoom_row T0 T1) (argsP_cons R0 (argsP_cons R1 argsP_nil))).mono fun e W' ⟨he, bel⟩ => ?_
  subst he
  exact ⟨_, rfl, _, _, _, [], _, [], hW', trodAll_mk1 (shut_bool Try.underlying4 _), (trodAll_cons_mk (Below.trod laidOut (by kernel_rfl) (of_decide_eq_true (by kernel_rfl)) h0 bel lt0) (trodAll_cons_mk (Below.trod laidOut (by kernel_rfl) (of_decide_eq_true (by kernel_rfl)) h1 bel lt1) trodAll_mk0)), rfl, bel.frame _, fun h => by cases h⟩

theorem standRoom_holds : Rows.StandRoomSaid :=
  OpenClaim.holds_of_wide 13 Try.f13 rfl rfl rfl rfl rfl rfl rfl ⟨rfl, rfl, rfl, rfl, rfl⟩ rfl rfl rfl rfl rfl (by kernel_rfl) Try.func13 (by kernel_rfl)
    (of_decide_eq_true (by kernel_rfl)) (by unfold Func.isWrapper; first | (rw [if_pos (by decide +kernel)]; kernel_rfl) | (rw [if_neg (by decide +kernel)]; exact ⟨rfl, rfl⟩))
    (fun os started H enc _ => standRoom_lifted os started H enc)
end Go.Proofs.Ytgniamjempccmaa
