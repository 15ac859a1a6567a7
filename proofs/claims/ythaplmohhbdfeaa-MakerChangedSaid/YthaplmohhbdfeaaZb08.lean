/- MakerChanged returns true: a kind of which nothing that was seen is the maker's was changed in each truth, a fixed one in none, any other one in some, if repairs are left for it; for every book and all numbers; no condition. Law: MakerChanged. -/
import Derived.Test.YthaplmohhbdfeaaZb07
import Derived.Test.YthaplmohhbdfeaaGa16
namespace Go.Proofs.Ythaplmohhbdfeaa.Mk
open Go.RowKit Ls
def ac8 : AC := (AC.seq (AC.ops [(AOp.mk (some 2) (AK.box 4 (AX.t 0)) none 0 false true), (AOp.mk (some 3) (AK.box 2 (AX.t 1)) none 1 false true), (AOp.mk (some 4) (AK.mv (AX.c (PV.val (Value.bool false)))) none 2 false true)]) (AC.seq (AC.seq (AC.ops [(AOp.mk (some 13) (AK.ld (some 4) (AX.t 2)) none 0 false true), (AOp.mk (some 14) (AK.call 36 [(AX.t 13)]) none 1 false true), (AOp.mk (some 15) (AK.un UnOp.not (AX.t 14)) none 2 false true)]) (AC.cond (AX.t 15) (AC.seq (AC.ops [(AOp.mk (some 16) (AK.call 27 []) none 0 false true), (AOp.mk (some 4) (AK.mv (AX.t 16)) none 1 false true)]) AC.ret) AC.skip)) (AC.seq (AC.ops [(AOp.mk (some 17) (AK.iadrA 1 2 (AX.t 3) (AX.c (PV.val (Value.int IntKind.i64 0)))) none 0 true false), (AOp.mk (some 18) (AK.ld none (AX.t 17)) none 1 true false), (AOp.mk (some 19) (AK.fadr 0 (AX.t 2)) none 2 true false), (AOp.mk (some 20) (AK.ld none (AX.t 19)) none 3 true false), (AOp.mk (some 21) (AK.len (AX.t 20)) none 4 true false), (AOp.mk (some 23) (AK.iadrA 1 2 (AX.t 3) (AX.c (PV.val (Value.int IntKind.i64 1)))) none 6 true false), (AOp.mk (some 24) (AK.ld none (AX.t 23)) none 7 true false), (AOp.mk (some 25) (AK.fadr 0 (AX.t 2)) none 8 true false), (AOp.mk (some 26) (AK.ld none (AX.t 25)) none 9 true false), (AOp.mk (some 27) (AK.iadrS 1 (AX.t 26) (AX.c (PV.val (Value.int IntKind.i64 0)))) none 10 true false), (AOp.mk (some 28) (AK.ld none (AX.t 27)) none 11 true false), (AOp.mk (some 29) (AK.len (AX.t 28)) none 12 true false), (AOp.mk (some 31) (AK.ld (some 4) (AX.t 2)) none 14 true false), (AOp.mk (some 22) (AK.call 37 [(AX.t 18), (AX.t 21)]) none 5 false false), (AOp.mk (some 30) (AK.call 37 [(AX.t 24), (AX.t 29)]) none 13 false false), (AOp.mk (some 32) (AK.call 45 [(AX.t 31)]) none 15 false true), (AOp.mk (some 5) (AK.mv (AX.t 22)) none 16 true true), (AOp.mk (some 6) (AK.mv (AX.t 30)) none 17 true true), (AOp.mk (some 7) (AK.mv (AX.t 32)) none 18 true true)]) (AC.seq (AC.ops [(AOp.mk (some 34) (AK.ld (some 4) (AX.t 2)) none 0 false true), (AOp.mk (some 35) (AK.mv (AX.t 5)) none 1 false true), (AOp.mk (some 36) (AK.call 23 [(AX.t 34), (AX.t 35)]) none 2 false true), (AOp.mk (some 33) (AK.mv (AX.t 36)) none 3 false true), (AOp.mk (some 37) (AK.ext (AX.t 33) 0) none 4 false true), (AOp.mk (some 38) (AK.ext (AX.t 33) 1) none 5 false true), (AOp.mk (some 8) (AK.mv (AX.t 37)) none 6 false true), (AOp.mk (some 9) (AK.mv (AX.t 38)) none 7 false true)]) (AC.seq (AC.ops [(AOp.mk (some 40) (AK.ld (some 4) (AX.t 2)) none 0 false true), (AOp.mk (some 41) (AK.mv (AX.t 5)) none 1 false true), (AOp.mk (some 42) (AK.mv (AX.t 6)) none 2 false true), (AOp.mk (some 43) (AK.call 25 [(AX.t 40), (AX.t 41), (AX.t 42)]) none 3 false true), (AOp.mk (some 39) (AK.mv (AX.t 43)) none 4 false true), (AOp.mk (some 44) (AK.ext (AX.t 39) 0) none 5 false true), (AOp.mk (some 45) (AK.ext (AX.t 39) 1) none 6 false true), (AOp.mk (some 10) (AK.mv (AX.t 44)) none 7 false true), (AOp.mk (some 11) (AK.mv (AX.t 45)) none 8 false true)]) (AC.seq (AC.seq (AC.ops [(AOp.mk (some 46) (AK.mv (AX.t 9)) none 0 false true), (AOp.mk (some 47) (AK.bin false BinOp.eql (AX.t 46) (AX.c (PV.val (Value.int IntKind.i64 52)))) none 1 false true)]) (AC.cond (AX.t 47) (AC.seq (AC.ops [(AOp.mk (some 48) (AK.mv (AX.t 11)) none 0 false true), (AOp.mk (some 49) (AK.mv (AX.t 9)) none 1 false true), (AOp.mk (some 50) (AK.bin false BinOp.eql (AX.t 48) (AX.t 49)) none 2 false true), (AOp.mk (some 51) (AK.mv (AX.t 50)) none 3 false true), (AOp.mk (some 52) (AK.mv (AX.t 10)) (some (51, true)) 4 false true), (AOp.mk (some 53) (AK.bin false BinOp.eql (AX.t 52) (AX.c (PV.val (Value.int IntKind.i64 0)))) (some (51, true)) 5 false true), (AOp.mk (some 54) (AK.pick (AX.t 51) (AX.t 53) (AX.c (PV.val (Value.bool false)))) none 6 false true), (AOp.mk (some 55) (AK.mv (AX.t 54)) none 7 false true), (AOp.mk (some 56) (AK.call 27 []) (some (55, true)) 8 false true), (AOp.mk (some 57) (AK.pick (AX.t 55) (AX.t 56) (AX.c (PV.val (Value.bool false)))) none 9 false true), (AOp.mk (some 4) (AK.mv (AX.t 57)) none 10 false true)]) AC.ret) AC.skip)) (AC.seq (AC.seq (AC.ops [(AOp.mk (some 58) (AK.mv (AX.t 9)) none 0 false true), (AOp.mk (some 59) (AK.bin false BinOp.neq (AX.t 58) (AX.c (PV.val (Value.int IntKind.i64 0)))) none 1 false true), (AOp.mk (some 60) (AK.mv (AX.t 59)) none 2 false true), (AOp.mk (some 61) (AK.mv (AX.t 8)) (some (60, false)) 3 false true), (AOp.mk (some 62) (AK.fadr 2 (AX.t 2)) (some (60, false)) 4 false true), (AOp.mk (some 63) (AK.ld none (AX.t 62)) (some (60, false)) 5 false true), (AOp.mk (some 64) (AK.bin false BinOp.gtr (AX.t 61) (AX.t 63)) (some (60, false)) 6 false true), (AOp.mk (some 65) (AK.pick (AX.t 60) (AX.c (PV.val (Value.bool true))) (AX.t 64)) none 7 false true)]) (AC.cond (AX.t 65) (AC.seq (AC.ops [(AOp.mk (some 66) (AK.mv (AX.t 9)) none 0 false true), (AOp.mk (some 67) (AK.bin false BinOp.eql (AX.t 66) (AX.c (PV.val (Value.int IntKind.i64 0)))) none 1 false true), (AOp.mk (some 68) (AK.mv (AX.t 67)) none 2 false true), (AOp.mk (some 69) (AK.mv (AX.t 9)) (some (68, false)) 3 false true), (AOp.mk (some 70) (AK.bin false BinOp.eql (AX.t 69) (AX.c (PV.val (Value.int IntKind.i64 4)))) (some (68, false)) 4 false true), (AOp.mk (some 71) (AK.pick (AX.t 68) (AX.c (PV.val (Value.bool true))) (AX.t 70)) none 5 false true), (AOp.mk (some 72) (AK.mv (AX.t 71)) none 6 false true), (AOp.mk (some 73) (AK.mv (AX.t 11)) (some (72, true)) 7 false true), (AOp.mk (some 74) (AK.bin false BinOp.eql (AX.t 73) (AX.c (PV.val (Value.int IntKind.i64 4)))) (some (72, true)) 8 false true), (AOp.mk (some 75) (AK.pick (AX.t 72) (AX.t 74) (AX.c (PV.val (Value.bool false)))) none 9 false true), (AOp.mk (some 76) (AK.mv (AX.t 75)) none 10 false true), (AOp.mk (some 77) (AK.mv (AX.t 10)) (some (76, true)) 11 false true), (AOp.mk (some 78) (AK.bin false BinOp.eql (AX.t 77) (AX.c (PV.val (Value.int IntKind.i64 0)))) (some (76, true)) 12 false true), (AOp.mk (some 79) (AK.pick (AX.t 76) (AX.t 78) (AX.c (PV.val (Value.bool false)))) none 13 false true), (AOp.mk (some 80) (AK.mv (AX.t 79)) none 14 false true), (AOp.mk (some 81) (AK.call 27 []) (some (80, true)) 15 false true), (AOp.mk (some 82) (AK.pick (AX.t 80) (AX.t 81) (AX.c (PV.val (Value.bool false)))) none 16 false true), (AOp.mk (some 4) (AK.mv (AX.t 82)) none 17 false true)]) AC.ret) AC.skip)) (AC.seq (AC.ops [(AOp.mk (some 12) (AK.mv (AX.c (PV.val (Value.int IntKind.i64 0)))) none 0 false true)]) (AC.seq (AC.block 0 (AC.seq (AC.ops [(AOp.mk (some 84) (AK.mv (AX.t 7)) none 0 true false), (AOp.mk (some 85) (AK.mv (AX.t 6)) none 1 true false), (AOp.mk (some 86) (AK.iadrS 1 (AX.t 84) (AX.t 85)) none 2 true false), (AOp.mk (some 87) (AK.ld none (AX.t 86)) none 3 true false), (AOp.mk (some 88) (AK.fadr 0 (AX.t 2)) none 4 true false), (AOp.mk (some 89) (AK.ld none (AX.t 88)) none 5 true false), (AOp.mk (some 90) (AK.mv (AX.t 5)) none 6 true false), (AOp.mk (some 91) (AK.iadrS 1 (AX.t 89) (AX.t 90)) none 7 true false), (AOp.mk (some 92) (AK.ld none (AX.t 91)) none 8 true false), (AOp.mk (some 93) (AK.mv (AX.t 6)) none 9 true false), (AOp.mk (some 94) (AK.iadrS 1 (AX.t 92) (AX.t 93)) none 10 true false), (AOp.mk (some 95) (AK.ld none (AX.t 94)) none 11 true false), (AOp.mk (some 96) (AK.bin false BinOp.and (AX.t 87) (AX.t 95)) none 12 true true), (AOp.mk (some 97) (AK.bin false BinOp.eql (AX.t 96) (AX.c (PV.val (Value.int IntKind.i64 0)))) none 13 true true), (AOp.mk (some 83) (AK.mv (AX.t 97)) none 14 true true)]) (AC.cond (AX.t 83) (AC.ops [(AOp.mk (some 12) (AK.mv (AX.c (PV.val (Value.int IntKind.i64 2)))) none 0 false true)]) (AC.seq (AC.ops [(AOp.mk (some 99) (AK.fadr 3 (AX.t 2)) none 0 false true), (AOp.mk (some 100) (AK.ld none (AX.t 99)) none 1 false true), (AOp.mk (some 101) (AK.mv (AX.t 6)) none 2 false true), (AOp.mk (some 102) (AK.call 44 [(AX.t 100), (AX.t 101)]) none 3 false true), (AOp.mk (some 103) (AK.un UnOp.not (AX.t 102)) none 4 false true), (AOp.mk (some 104) (AK.mv (AX.t 103)) none 5 false true), (AOp.mk (some 105) (AK.mv (AX.t 8)) (some (104, true)) 6 false true), (AOp.mk (some 106) (AK.fadr 2 (AX.t 2)) (some (104, true)) 7 false true), (AOp.mk (some 107) (AK.ld none (AX.t 106)) (some (104, true)) 8 false true), (AOp.mk (some 108) (AK.bin false BinOp.lss (AX.t 105) (AX.t 107)) (some (104, true)) 9 false true), (AOp.mk (some 109) (AK.pick (AX.t 104) (AX.t 108) (AX.c (PV.val (Value.bool false)))) none 10 false true), (AOp.mk (some 98) (AK.mv (AX.t 109)) none 11 false true)]) (AC.cond (AX.t 98) (AC.ops [(AOp.mk (some 12) (AK.mv (AX.c (PV.val (Value.int IntKind.i64 1)))) none 0 false true)]) AC.skip))))) (AC.seq (AC.ops [(AOp.mk (some 110) (AK.mv (AX.t 11)) none 0 false true), (AOp.mk (some 111) (AK.bin false BinOp.eql (AX.t 110) (AX.c (PV.val (Value.int IntKind.i64 0)))) none 1 false true), (AOp.mk (some 112) (AK.mv (AX.t 111)) none 2 false true), (AOp.mk (some 113) (AK.mv (AX.t 10)) (some (112, true)) 3 false true), (AOp.mk (some 114) (AK.mv (AX.t 12)) (some (112, true)) 4 false true), (AOp.mk (some 115) (AK.bin false BinOp.eql (AX.t 113) (AX.t 114)) (some (112, true)) 5 false true), (AOp.mk (some 116) (AK.pick (AX.t 112) (AX.t 115) (AX.c (PV.val (Value.bool false)))) none 6 false true), (AOp.mk (some 117) (AK.mv (AX.t 116)) none 7 false true), (AOp.mk (some 118) (AK.call 27 []) (some (117, true)) 8 false true), (AOp.mk (some 119) (AK.pick (AX.t 117) (AX.t 118) (AX.c (PV.val (Value.bool false)))) none 9 false true), (AOp.mk (some 4) (AK.mv (AX.t 119)) none 10 false true)]) AC.ret))))))))))
theorem ac8_ok : cCode Try.prog (fun _ => false) Try.f8.ntmps (Try.f8.body.getD .skip) = some ac8 := by kernel_rfl
theorem verdict_eq {b : MBook} {m q : Nat} (hp : possB b m = true) (hq : q < nK b) : verdictI b m q = if ownN b m q = 0 then 2 else if (fixN b).testBit q = false ∧ (zeros b m : Int) < b.repairs then 1 else 0 := by
  have he := each_iff hp hq
  have hs := some_iff hp hq
  have hz : zeroB b m q = true ↔ ownN b m q = 0 := by unfold zeroB; rw [decide_eq_true_eq]
  unfold verdictI
  have h1 : ((truthsL b m).all fun c => c.testBit q) = true ↔ ownN b m q = 0 := by
    rw [← hz, ← he, List.all_eq_true]
  have h2 : ((truthsL b m).any fun c => c.testBit q) = true ↔ ownN b m q = 0 ∨ ((fixN b).testBit q = false ∧ (zeros b m : Int) < b.repairs) := by
    rw [← hz, ← hs, List.any_eq_true]
  by_cases c1 : ownN b m q = 0
  · rw [if_pos (h1.2 c1), if_pos c1]
  · rw [if_neg (fun h => c1 (h1.1 h)), if_neg c1]
    by_cases c2 : (fixN b).testBit q = false ∧ (zeros b m : Int) < b.repairs
    · rw [if_pos (h2.2 (.inr c2)), if_pos c2]
    · rw [if_neg (fun h => (h2.1 h).elim c1 c2), if_neg c2]
set_option maxRecDepth 100000 in
set_option maxHeartbeats 2000000 in
theorem Changed_law (k k2 : SK) (b : MBook) (n p : Int) : Sem1 8 [.agg (bookC k k2 b), .agg [pi n, pi p]] (pb true) := by
  by_cases ho : okBook b
  rotate_left
  · refine semC_of_exec' mixed Try.func8 (by kernel_rfl) (by kernel_rfl) ac8_ok 2 rfl (by decide) [(.tmp 4)] (by kernel_rfl) ?_
    intro hr C hC hI
    unfold ac8
    simp only [go_sem, Nat.reduceBEq, Nat.reduceAdd]
    refine call_pure2 hC (sound_sem k k2 b) rfl (PVleL_refl _) ?_
    rintro r rfl
    simp only [go_sem, Nat.reduceBEq, eq_false ho, decide_false]
    refine call_pure2 hC (marked_sem) rfl (PVleL_refl _) ?_
    rintro r rfl
    simp only [go_sem, Nat.reduceBEq]
    exact retQ_one rfl rfl
  have hoc := ho.1
  have h1 := hoc.1
  have h2 := hoc.2.1
  obtain ⟨m, em, hm⟩ := rnd_maker hoc n
  obtain ⟨q, eq, hq⟩ := rnd_kind hoc p
  have hLl := leftL_len b (nK b)
  obtain ⟨hll, hlv⟩ := leftL_get (b := b) hq
  have hlf := left_sem k k2 ho
  obtain ⟨hz, hfl⟩ := hoc.first
  have e0 : iadrS' 1 (.p (.sl k 1 (rowsC b.makers))) (.p (pi 0)) = some (.p (.ptr [pis b.makers[0]] 0)) := iadr_map (f := fun h => [pis h]) (kd := k) (sz := 1) hz
  have em2 := iadr_map (f := fun h => [pis h]) (kd := k) (sz := 1) hm
  obtain ⟨hrow, hrx⟩ := hoc.row hm
  have hjl : q < b.makers[m].length := by omega
  obtain ⟨k1, k3, k4⟩ := hoc.mk hm hq
  have hval := mk_get hm hjl
  rw [k4] at hval
  have hand : binS false .and (.p (pi (seenN b q : Nat))) (.p (pi (mkN b m q : Nat))) = some (.p (pi (ownN b m q : Nat))) := by
    unfold ownN
    rw [Nat.and_comm]
    exact bin_andN (by have := seen_le b q; omega) (by omega)
  have hfx := hoc.fix.1
  have hne := needs_eq (b := b) (m := m)
  have hpe := poss_eq (b := b) (m := m)
  obtain ⟨x, e, y, g, hN, hC2, hcase⟩ : ∃ x e y g : Int, Sem1 23 [.agg (bookC k k2 b), pi m] (.tup [pi x, pi e]) ∧ Sem1 25 [.agg (bookC k k2 b), pi m, pi q] (.tup [pi y, pi g]) ∧
      ((e = 52 ∧ g = 52 ∧ y = 0) ∨ (e = 4 ∧ g = 4 ∧ y = 0) ∨ (e = 0 ∧ b.repairs < x ∧ g = 4 ∧ y = 0) ∨ (e = 0 ∧ x ≤ b.repairs ∧ g = 0 ∧ y = if ownN b m q = 0 then 2 else if (fixN b).testBit q = false ∧ x < b.repairs then 1 else 0)) := by
    cases hr0 : rightB b
    · exact ⟨0, 52, 0, 52, Needs_no k k2 ho hr0 hm, Changed_no k k2 ho hr0 hm hq, .inl ⟨rfl, rfl, rfl⟩⟩
    · have hN := Needs_ok k k2 ho hr0 hm
      have hCh := Changed_ok k k2 ho hr0 hm hq
      rw [hne] at hN
      cases hf : freeB b m
      · rw [hf, if_neg (fun h => by cases h.2)] at hN
        have : possB b m = false := by
          rw [Bool.eq_false_iff]
          intro h
          have := (hpe.1 h).2.1
          rw [hf] at this
          cases this
        rw [this, if_neg (by decide)] at hCh
        exact ⟨0, 4, 0, 4, hN, hCh, .inr (.inl ⟨rfl, rfl, rfl⟩)⟩
      · rw [hf, hr0, if_pos ⟨rfl, rfl⟩] at hN
        by_cases hle : (zeros b m : Int) ≤ b.repairs
        · have hp : possB b m = true := hpe.2 ⟨hr0, hf, hle⟩
          rw [hp, if_pos rfl, verdict_eq hp hq] at hCh
          exact ⟨zeros b m, 0, _, 0, hN, hCh, .inr (.inr (.inr ⟨rfl, hle, rfl, rfl⟩))⟩
        · have : possB b m = false := by
            rw [Bool.eq_false_iff]
            intro h
            exact hle (hpe.1 h).2.2
          rw [this, if_neg (by decide)] at hCh
          exact ⟨zeros b m, 0, 0, 4, hN, hCh, .inr (.inr (.inl ⟨rfl, by omega, rfl, rfl⟩))⟩
  refine semC_of_exec' mixed Try.func8 (by kernel_rfl) (by kernel_rfl) ac8_ok 2 rfl (by decide) [(.tmp 4)] (by kernel_rfl) ?_
  intro hr C hC hI
  unfold ac8
  simp only [go_sem, Nat.reduceBEq, Nat.reduceAdd]
  refine call_pure2 hC (sound_sem k k2 b) rfl (PVleL_refl _) ?_
  rintro r rfl
  simp only [go_sem, Nat.reduceBEq, Nat.reduceAdd, eq_true ho, List.length_map, iadr2_0, iadr2_1, e0, hfl, decide_true, Bool.false_eq_true]
  refine call_pure2 hC (Round_sem n b.makers.length) rfl (PVleL_refl _) ?_
  rintro r rfl
  simp only [go_sem, Nat.reduceBEq, em]
  refine call_pure2 hC (Round_sem p (nK b)) rfl (PVleL_refl _) ?_
  rintro r rfl
  simp only [go_sem, Nat.reduceBEq, eq]
  refine call_pure2 hC (hlf) rfl (PVleL_refl _) ?_
  rintro r rfl
  simp only [go_sem, Nat.reduceBEq, Nat.reduceAdd]
  refine call_pure2 hC (hN) rfl (PVleL_refl _) ?_
  rintro r rfl
  simp only [go_sem, Nat.reduceBEq, Nat.reduceAdd]
  refine call_pure2 hC (hC2) rfl (PVleL_refl _) ?_
  rintro r rfl
  simp only [go_sem, Nat.reduceBEq]
  rcases hcase with ⟨rfl, rfl, rfl⟩ | ⟨rfl, rfl, rfl⟩ | ⟨rfl, hlt, rfl, rfl⟩ | ⟨rfl, hle, rfl, hy⟩
  · simp only [go_sem, decide_true, decide_false, not_true_eq_false, not_false_eq_true, false_implies, true_implies, Int.reduceEq]
    refine call_pure2 hC (marked_sem) rfl (PVleL_refl _) ?_
    rintro r rfl
    simp only [go_sem, Nat.reduceBEq]
    exact retQ_one rfl rfl
  · simp only [go_sem, decide_true, decide_false, not_true_eq_false, not_false_eq_true, false_implies, true_implies, Int.reduceEq]
    refine call_pure2 hC (marked_sem) rfl (PVleL_refl _) ?_
    rintro r rfl
    simp only [go_sem, Nat.reduceBEq]
    exact retQ_one rfl rfl
  · simp only [go_sem, eq_true hlt, decide_true, decide_false, not_true_eq_false, not_false_eq_true, false_implies, true_implies, Int.reduceEq]
    refine call_pure2 hC (marked_sem) rfl (PVleL_refl _) ?_
    rintro r rfl
    simp only [go_sem, Nat.reduceBEq]
    exact retQ_one rfl rfl
  · simp only [go_sem, Nat.reduceBEq, eq_false (show ¬ b.repairs < x by omega), decide_eq_false (show ¬ b.repairs < x by omega), iadr_pis hll, hlv, em2, iadr_pis hjl, hval, hand, decide_true, decide_false, not_true_eq_false, not_false_eq_true, false_implies, true_implies, Int.reduceEq]
    refine ⟨fun h0 => ⟨fun _ => ?_, fun h => absurd (by rw [hy, if_pos (by omega)]) h⟩, fun h0 => ?_⟩
    · refine call_pure2 hC (marked_sem) rfl (PVleL_refl _) ?_
      rintro r rfl
      simp only [go_sem, Nat.reduceBEq]
      exact retQ_one rfl rfl
    rw [if_neg (by omega)] at hy
    rw [hfx]
    refine call_pure2 hC (Of_sem (fixN b : Nat) q (by omega)) rfl (PVleL_refl _) ?_
    rintro r rfl
    simp only [go_sem, Nat.reduceBEq, of_bit (s := fixN b) (i := q) (by omega)]
    cases hb : (fixN b).testBit q
    · rw [hb] at hy
      by_cases hlt : x < b.repairs
      · rw [if_pos ⟨rfl, hlt⟩] at hy
        subst hy
        simp only [go_sem, Nat.reduceBEq, eq_true hlt, decide_true]
        refine call_pure2 hC (marked_sem) rfl (PVleL_refl _) ?_
        rintro r rfl
        simp only [go_sem, Nat.reduceBEq]
        exact retQ_one rfl rfl
      · rw [if_neg (fun h => hlt h.2)] at hy
        subst hy
        simp only [go_sem, Nat.reduceBEq, eq_false hlt, decide_true, decide_false]
        refine call_pure2 hC (marked_sem) rfl (PVleL_refl _) ?_
        rintro r rfl
        simp only [go_sem, Nat.reduceBEq]
        exact retQ_one rfl rfl
    · rw [hb, if_neg (fun h => by cases h.1)] at hy
      subst hy
      simp only [go_sem, Nat.reduceBEq, decide_true]
      refine call_pure2 hC (marked_sem) rfl (PVleL_refl _) ?_
      rintro r rfl
      simp only [go_sem, Nat.reduceBEq]
      exact retQ_one rfl rfl
set_option maxRecDepth 100000 in
theorem Changed_row {l0 l1 : List PV} (T0 : Ty Try.prog 10 25 l0) (T1 : Ty Try.prog 10 26 l1) : SemC Try.prog 8 [argPV Try.prog 25 l0, argPV Try.prog 26 l1] (fun r => r = pb true) := by
  obtain ⟨b, rfl⟩ := ty_book T0
  obtain ⟨n0, n1, rfl⟩ := ty_two T1
  rw [argStruct Try.underlying25, argArray Try.underlying26]
  exact Changed_law .sh .sh b n0 n1
end Go.Proofs.Ythaplmohhbdfeaa.Mk
namespace Go.Proofs.Ythaplmohhbdfeaa
open Go.Proofs.Ythaplmohhbdfeaa Go.ChangeShapes Go.WideShapes Go.ChangeAt Go.RowKit Go.Deep

set_option maxRecDepth 100000 in
theorem makerChanged_lifted (os : Os) (started : os.Started) (H : Type) (enc : TypeId × Value → H) :
    ReturnsInHanded {} Try.checked os 8 .any (Rows.makerChangedSpec.pre6 enc Try.prog Try.f8 Rows.makerChangedRow.domain false) (Rows.makerChangedSpec.post enc Try.prog Try.f8 false true false false) := by
  refine returnsInHanded_of_change_sized (C := Try.checked) ownKnobs started (by kernel_rfl) Try.func8
    (ChangeSpec.witness6 (enc := enc) (C := Try.checked) false ⟨#[], #[.agg #[.slice none 0 0, .slice none 0 0, .int .i64 0, .int .i64 0], .agg #[.int .i64 0, .int .i64 0]], []⟩ 8 (by kernel_rfl) (by kernel_rfl) (by kernel_rfl) (by kernel_rfl)) ?_
  intro W base args ds gs before hval0 hW hcnd hsz0 _
  have hval : ∀ (j : Nat) t v, Try.f8.params[j]? = some t → args[j]? = some v → Value.okWide Try.prog W .any base t v := hval0
  have hsz : (DataW.weightsEach Try.prog (Try.f8.params.toList ++ Rows.makerChangedSpec.plain.varTypes Try.prog) (ds ++ gs)).all (· ≤ reachBytes) = true := hsz0
  have hW' := hW
  obtain ⟨p, q, hA0, hV, rfl, hfz, hnd⟩ := hW
  have hA : DataW.TrodAll enc Try.prog W 0 (fun _ => true) true Try.f8.params.toList args.toList ds p := hA0
  rw [Try.params8] at hA hval hsz
  obtain ⟨v0, vs0, d0, ds0, p0, q0, hargs, rfl, rfl, h0, r0⟩ := trodAll_cons hA
  obtain ⟨v1, vs1, d1, ds1, p1, q1, rfl, rfl, rfl, h1, r1⟩ := trodAll_cons r0
  obtain ⟨rfl, rfl, rfl⟩ := trodAll_nil r1
  obtain rfl : args = #[v0, v1] := by cases args; simp_all
  obtain ⟨rfl, rfl⟩ := trodVars_none hV
  have lt0 : ∀ x ∈ p0, x.block < W.heap.size := by obtain ⟨m, hm⟩ := h0; exact DataW.trod_lt m _ _ _ hm
  have lt1 : ∀ x ∈ p1, x.block < W.heap.size := by obtain ⟨m, hm⟩ := h1; exact DataW.trod_lt m _ _ _ hm
  have z0 : SizedP Try.prog 25 d0 := sizedP_each hsz (j := 0) rfl rfl
  obtain ⟨l0, T0, R0⟩ := rd_arg 10 (by kernel_rfl) (hval 0 25 v0 rfl rfl) h0 z0
  have z1 : SizedP Try.prog 26 d1 := sizedP_each hsz (j := 1) rfl rfl
  obtain ⟨l1, T1, R1⟩ := rd_arg 10 (by kernel_rfl) (hval 1 26 v1 rfl rfl) h1 z1
  clear hA0 hval0 hsz0
  refine (law_calls (Mk.Changed_row T0 T1) (argsP_cons R0 (argsP_cons R1 argsP_nil))).mono fun e W' ⟨he, bel⟩ => ?_
  subst he
  exact ⟨_, rfl, _, _, _, [], _, [], hW', trodAll_mk1 (shut_bool Try.underlying4 _), (trodAll_cons_mk (Below.trod laidOut (by kernel_rfl) (of_decide_eq_true (by kernel_rfl)) h0 bel lt0) (trodAll_cons_mk (Below.trod laidOut (by kernel_rfl) (of_decide_eq_true (by kernel_rfl)) h1 bel lt1) trodAll_mk0)), rfl, bel.frame _, fun h => by cases h⟩

theorem makerChanged_holds : Rows.MakerChangedSaid :=
  OpenClaim.holds_of_wide 8 Try.f8 rfl rfl rfl rfl rfl rfl rfl ⟨rfl, rfl, rfl, rfl, rfl⟩ rfl rfl rfl rfl rfl (by kernel_rfl) Try.func8 (by kernel_rfl)
    (of_decide_eq_true (by kernel_rfl)) (by unfold Func.isWrapper; first | (rw [if_pos (by decide +kernel)]; kernel_rfl) | (rw [if_neg (by decide +kernel)]; exact ⟨rfl, rfl⟩))
    (fun os started H enc _ => makerChanged_lifted os started H enc)
end Go.Proofs.Ythaplmohhbdfeaa
