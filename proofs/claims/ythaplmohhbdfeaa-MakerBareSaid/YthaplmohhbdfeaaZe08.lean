/- MakerBare without marks all makers are possible, without changes; all values are, if repairs can change a kind, and else those of the makers; for every book and every number; no condition. Law: MakerBare. Mathematics of maker: a book without marks. -/
import Derived.Test.YthaplmohhbdfeaaGa15
import Derived.Test.YthaplmohhbdfeaaZe06
import Derived.Test.YthaplmohhbdfeaaZe07
import Derived.Test.YthaplmohhbdfeaaGa16
namespace Go.Proofs.Ythaplmohhbdfeaa.Mk
open Go.RowKit Ls
def allN (b : MBook) (q j : Nat) : Nat := (List.range j).foldl (fun s m => s ||| mkN b m q) 0
theorem allN_next (b : MBook) (q j : Nat) : allN b q (j + 1) = allN b q j ||| mkN b j q := by
  unfold allN
  rw [List.range_succ, List.foldl_append]
  rfl
theorem allN_bit {b : MBook} {q j i : Nat} : (allN b q j).testBit i = true ↔ ∃ m, m < j ∧ (mkN b m q).testBit i = true := by
  unfold allN
  rw [fold_or]
  constructor
  · rintro (h | ⟨t, ht, h⟩)
    · simp at h
    · exact ⟨t, List.mem_range.1 ht, h⟩
  · rintro ⟨m, hm, h⟩
    exact .inr ⟨m, List.mem_range.2 hm, h⟩
theorem lt32_of_bits {x : Nat} (h : ∀ i, x.testBit i = true → i < 5) : x < 32 :=
  Nat.lt_pow_two_of_testBit (n := 5) x fun i hi => by
    rw [Bool.eq_false_iff]
    intro e
    have := h i e
    omega
theorem lt5 {x i : Nat} (h : x < 32) (hb : x.testBit i = true) : i < 5 := bit_lt (n := 5) h hb
theorem allN_lt {b : MBook} (h : okC b) {q j : Nat} (hq : q < nK b) (hj : j ≤ b.makers.length) : allN b q j < 32 := by
  refine lt32_of_bits fun i hi => ?_
  obtain ⟨m, hm, hb⟩ := allN_bit.1 hi
  have := h.mk (m := m) (by omega) hq
  exact lt5 (by omega) hb
theorem filt_none (n : Nat) : ((List.range n).filter fun _ => false) = [] := List.filter_eq_nil_iff.2 (by simp)
theorem bare_ok {b : MBook} (h : okC b) : okC (unseenB b) := h.unseen [] (by simp)
theorem bare_own {b : MBook} (h : okC b) {m k : Nat} (hm : m < b.makers.length) (hk : k < nK b) : ownN (unseenB b) m k = mkN b m k := mk_31 h hm hk
theorem bare_poss {b : MBook} (h : okC b) {m : Nat} (hm : m < b.makers.length) : possB (unseenB b) m = true :=
  all_seen (bare_ok h) (fun k _ => seen_unseen b k) hm
theorem bare_right (b : MBook) : rightB (unseenB b) = true := List.all_eq_true.2 fun k _ => by rw [seen_unseen]; rfl
theorem bare_zero {b : MBook} (h : okC b) {m k : Nat} (hm : m < b.makers.length) (hk : k < nK b) : zeroB (unseenB b) m k = false := by
  have := (h.mk hm hk).1
  refine decide_eq_false ?_
  rw [bare_own h hm hk]
  omega
theorem bare_zeros {b : MBook} (h : okC b) {m : Nat} (hm : m < b.makers.length) : zeros (unseenB b) m = 0 := by
  unfold zeros
  rw [List.length_eq_zero_iff, List.filter_eq_nil_iff]
  intro k hk
  rw [bare_zero h hm (List.mem_range.1 hk)]
  decide
theorem bare_needs {b : MBook} (h : okC b) {m : Nat} (hm : m < b.makers.length) : needsO (unseenB b) m = some 0 := by
  obtain ⟨h1, h2, -⟩ := poss_eq.1 (bare_poss h hm)
  rw [needs_eq, if_pos ⟨h1, h2⟩, bare_zeros h hm]
theorem bare_who {b : MBook} (h : okC b) : whoL (unseenB b) = List.range b.makers.length := by
  unfold whoL
  exact List.filter_eq_self.2 fun m hm => bare_poss h (List.mem_range.1 hm)
theorem bare_wrong {b : MBook} (h : okC b) : wrongI (unseenB b) = [] := by
  refine (wrong_nil (bare_ok h) (by simp [unseenB])).2 ?_
  rw [bare_who h]
  have := h.1
  exact fun e => by
    have := congrArg List.length e
    rw [List.length_range, List.length_nil] at this
    omega
def bareN (b : MBook) (q : Nat) : Nat := if 0 < b.repairs ∧ (fixN b).testBit q = false then 31 else allN b q b.makers.length
theorem bare_can {b : MBook} (h : okC b) {q i : Nat} (hq : q < nK b) (hi : i < 5) : (canN (unseenB b) q).testBit i = (bareN b q).testBit i := by
  rw [Bool.eq_iff_iff, can_bit]
  have h1 := h.1
  have hr0 := bare_right b
  unfold bareN
  split
  · rename_i hc
    constructor
    · intro _
      rw [show (31 : Nat) = 2 ^ 5 - 1 by decide, Nat.testBit_two_pow_sub_one]
      exact decide_eq_true hi
    · intro hb
      obtain ⟨c, hlt, ht, hbit⟩ := truth_of (b := unseenB b) (m := 0) (p := fun k => decide (k = q)) hr0 (fun k hk hz => by
        rw [bare_zero h (by omega) hk] at hz
        cases hz) (fun k _ hp => by
        rw [of_decide_eq_true hp]
        exact hc.2) (by
        have := filt_one (n := nK b) (k := q) hq (p := fun _ => false) rfl
        simp only [Bool.false_or, filt_none, List.length_nil] at this
        show (((List.range (nK b)).filter fun k => decide (k = q)).length : Int) ≤ b.repairs
        rw [this]
        omega)
      refine ⟨0, c, by show 0 < b.makers.length; omega, mem_truths.2 ⟨hlt, ht⟩, ?_⟩
      unfold valN
      rw [hbit q hq, decide_eq_true rfl, if_pos rfl, seen_unseen]
      exact hb
  · rename_i hc
    rw [allN_bit]
    constructor
    · rintro ⟨m, c, hm, hct, hb⟩
      obtain ⟨-, ht⟩ := mem_truths.1 hct
      refine ⟨m, hm, ?_⟩
      have hcq : c.testBit q = false := by
        rw [Bool.eq_false_iff]
        intro hcq
        refine hc ⟨?_, ht.fix q hcq⟩
        have h3 := ht.cnt
        have h4 : 1 ≤ cntN c (nK b) := by
          unfold cntN
          exact List.length_pos_iff.2 fun e => by
            have : q ∈ (List.range (nK b)).filter c.testBit := List.mem_filter.2 ⟨List.mem_range.2 hq, hcq⟩
            rw [e] at this
            cases this
        have h5 : (cntN c (nK b) : Int) ≤ b.repairs := h3
        omega
      unfold valN at hb
      rw [hcq, if_neg (by decide)] at hb
      exact (own_sub hb).2
    · rintro ⟨m, hm, hb⟩
      obtain ⟨c, hlt, ht, hbit⟩ := truth_of (b := unseenB b) (m := m) (p := fun _ => false) hr0 (fun k hk hz => by
        rw [bare_zero h hm hk] at hz
        cases hz) (fun _ _ hp => by cases hp) (by
        rw [filt_none]
        exact h.2.2.2.2.1.1)
      refine ⟨m, c, hm, mem_truths.2 ⟨hlt, ht⟩, ?_⟩
      unfold valN
      rw [hbit q hq, if_neg (by decide), bare_own h hm hq]
      exact hb
theorem bare_values {b : MBook} (h : okC b) {q : Nat} (hq : q < nK b) : natL (valuesL (unseenB b) q) = listI (bareN b q) 5 := by
  unfold natL valuesL listI
  refine congrArg _ (List.filter_congr fun i hi => ?_)
  rw [of_bit (by have := List.mem_range.1 hi; omega)]
  exact bare_can h hq (List.mem_range.1 hi)
end Go.Proofs.Ythaplmohhbdfeaa.Mk
namespace Go.Proofs.Ythaplmohhbdfeaa.Mk
open Go.RowKit Ls
def ac13 : AC := (AC.seq (AC.ops [(AOp.mk (some 2) (AK.box 4 (AX.t 0)) none 0 false true), (AOp.mk (some 4) (AK.mv (AX.c (PV.val (Value.bool false)))) none 1 false true)]) (AC.seq (AC.seq (AC.ops [(AOp.mk (some 17) (AK.ld (some 4) (AX.t 2)) none 0 false true), (AOp.mk (some 18) (AK.call 36 [(AX.t 17)]) none 1 false true), (AOp.mk (some 19) (AK.un UnOp.not (AX.t 18)) none 2 false true)]) (AC.cond (AX.t 19) (AC.seq (AC.ops [(AOp.mk (some 20) (AK.call 27 []) none 0 false true), (AOp.mk (some 4) (AK.mv (AX.t 20)) none 1 false true)]) AC.ret) AC.skip)) (AC.seq (AC.tree (AT.op (AOp.mk (some 21) (AK.ld (some 4) (AX.t 2)) none 0 true false) (AT.op (AOp.mk (some 22) (AK.mv (AX.t 1)) none 1 true false) (AT.op (AOp.mk (some 23) (AK.fadr 0 (AX.t 2)) none 2 true false) (AT.op (AOp.mk (some 24) (AK.ld none (AX.t 23)) none 3 true false) (AT.op (AOp.mk (some 25) (AK.iadrS 1 (AX.t 24) (AX.c (PV.val (Value.int IntKind.i64 0)))) none 4 true false) (AT.op (AOp.mk (some 26) (AK.ld none (AX.t 25)) none 5 true false) (AT.op (AOp.mk (some 27) (AK.len (AX.t 26)) none 6 true false) (AT.fk (AOp.mk (some 28) (AK.call 37 [(AX.t 22), (AX.t 27)]) none 7 false false) (AOp.mk (some 5) (AK.new (PV.agg [(PV.sl SK.full 0 []), (PV.sl SK.full 0 []), (PV.val (Value.int IntKind.i64 0)), (PV.val (Value.int IntKind.i64 0))])) none 8 false false) (AT.op (AOp.mk (some 5) (AK.new (PV.agg [(PV.sl SK.full 0 []), (PV.sl SK.full 0 []), (PV.val (Value.int IntKind.i64 0)), (PV.val (Value.int IntKind.i64 0))])) none 8 false false) (AT.op (AOp.mk none (AK.st 4 (AX.t 5) (AX.t 21)) none 9 false true) (AT.op (AOp.mk (some 6) (AK.mv (AX.t 28)) none 10 true false) AT.fin))) (AT.op (AOp.mk (some 28) (AK.call 37 [(AX.t 22), (AX.t 27)]) none 7 false false) (AT.op (AOp.mk none (AK.st 4 (AX.t 5) (AX.t 21)) none 9 false true) (AT.op (AOp.mk (some 6) (AK.mv (AX.t 28)) none 10 true false) AT.fin)))))))))))) (AC.seq (AC.ops [(AOp.mk (some 29) (AK.fadr 1 (AX.t 5)) none 0 false true), (AOp.mk none (AK.st 1 (AX.t 29) (AX.c (PV.sl SK.full 0 []))) none 1 false true)]) (AC.seq (AC.ops [(AOp.mk (some 31) (AK.ld (some 4) (AX.t 5)) none 0 false true), (AOp.mk (some 32) (AK.call 20 [(AX.t 31)]) none 1 false true), (AOp.mk (some 30) (AK.mv (AX.t 32)) none 2 false true), (AOp.mk (some 33) (AK.ext (AX.t 30) 0) none 3 false true), (AOp.mk (some 34) (AK.ext (AX.t 30) 1) none 4 false true), (AOp.mk (some 7) (AK.mv (AX.t 33)) none 5 false true), (AOp.mk (some 8) (AK.mv (AX.t 34)) none 6 false true)]) (AC.seq (AC.ops [(AOp.mk (some 36) (AK.ld (some 4) (AX.t 5)) none 0 false true), (AOp.mk (some 37) (AK.mv (AX.t 6)) none 1 false true), (AOp.mk (some 38) (AK.call 28 [(AX.t 36), (AX.t 37)]) none 2 false true), (AOp.mk (some 35) (AK.mv (AX.t 38)) none 3 false true), (AOp.mk (some 39) (AK.ext (AX.t 35) 0) none 4 false true), (AOp.mk (some 40) (AK.ext (AX.t 35) 1) none 5 false true), (AOp.mk (some 9) (AK.mv (AX.t 39)) none 6 false true), (AOp.mk (some 10) (AK.mv (AX.t 40)) none 7 false true)]) (AC.seq (AC.ops [(AOp.mk (some 42) (AK.ld (some 4) (AX.t 5)) none 0 false true), (AOp.mk (some 43) (AK.call 34 [(AX.t 42)]) none 1 false true), (AOp.mk (some 41) (AK.mv (AX.t 43)) none 2 false true), (AOp.mk (some 44) (AK.ext (AX.t 41) 0) none 3 false true), (AOp.mk (some 45) (AK.ext (AX.t 41) 1) none 4 false true), (AOp.mk (some 11) (AK.mv (AX.t 44)) none 5 false true), (AOp.mk (some 12) (AK.mv (AX.t 45)) none 6 false true)]) (AC.seq (AC.ops [(AOp.mk (some 13) (AK.mv (AX.c (PV.val (Value.int IntKind.i64 0)))) none 0 false true)]) (AC.seq (AC.seq (AC.ops [(AOp.mk (some 14) (AK.mv (AX.c (PV.val (Value.int IntKind.i64 0)))) none 0 false true)]) (AC.block 0 (AC.loop (AC.seq (AC.seq (AC.ops [(AOp.mk (some 46) (AK.mv (AX.t 14)) none 0 false true), (AOp.mk (some 47) (AK.fadr 0 (AX.t 2)) none 1 false true), (AOp.mk (some 48) (AK.ld none (AX.t 47)) none 2 false true), (AOp.mk (some 49) (AK.len (AX.t 48)) none 3 false true), (AOp.mk (some 50) (AK.bin false BinOp.lss (AX.t 46) (AX.t 49)) none 4 false true)]) (AC.cond (AX.t 50) AC.skip (AC.exit 0))) (AC.seq (AC.block 1 (AC.seq (AC.ops [(AOp.mk (some 53) (AK.mv (AX.t 13)) none 0 false true), (AOp.mk (some 54) (AK.fadr 0 (AX.t 2)) none 1 false true), (AOp.mk (some 55) (AK.ld none (AX.t 54)) none 2 false true), (AOp.mk (some 56) (AK.mv (AX.t 14)) none 3 false true), (AOp.mk (some 57) (AK.iadrS 1 (AX.t 55) (AX.t 56)) none 4 false true), (AOp.mk (some 58) (AK.ld none (AX.t 57)) none 5 false true), (AOp.mk (some 59) (AK.mv (AX.t 6)) none 6 false true), (AOp.mk (some 60) (AK.iadrS 1 (AX.t 58) (AX.t 59)) none 7 false true), (AOp.mk (some 61) (AK.ld none (AX.t 60)) none 8 false true), (AOp.mk (some 62) (AK.bin false BinOp.or (AX.t 53) (AX.t 61)) none 9 false true), (AOp.mk (some 13) (AK.mv (AX.t 62)) none 10 false true)]) (AC.seq (AC.ops [(AOp.mk (some 64) (AK.ld (some 4) (AX.t 5)) none 0 false true), (AOp.mk (some 65) (AK.mv (AX.t 14)) none 1 false true), (AOp.mk (some 66) (AK.call 23 [(AX.t 64), (AX.t 65)]) none 2 false true), (AOp.mk (some 63) (AK.mv (AX.t 66)) none 3 false true), (AOp.mk (some 67) (AK.ext (AX.t 63) 0) none 4 false true), (AOp.mk (some 68) (AK.ext (AX.t 63) 1) none 5 false true), (AOp.mk (some 15) (AK.mv (AX.t 67)) none 6 false true), (AOp.mk (some 16) (AK.mv (AX.t 68)) none 7 false true)]) (AC.seq (AC.ops [(AOp.mk (some 69) (AK.mv (AX.t 16)) none 0 false true), (AOp.mk (some 70) (AK.bin false BinOp.neq (AX.t 69) (AX.c (PV.val (Value.int IntKind.i64 0)))) none 1 false true), (AOp.mk (some 71) (AK.mv (AX.t 70)) none 2 false true), (AOp.mk (some 72) (AK.mv (AX.t 15)) (some (71, false)) 3 false true), (AOp.mk (some 73) (AK.bin false BinOp.neq (AX.t 72) (AX.c (PV.val (Value.int IntKind.i64 0)))) (some (71, false)) 4 false true), (AOp.mk (some 74) (AK.pick (AX.t 71) (AX.c (PV.val (Value.bool true))) (AX.t 73)) none 5 false true)]) (AC.cond (AX.t 74) (AC.seq (AC.ops [(AOp.mk (some 4) (AK.mv (AX.c (PV.val (Value.bool false)))) none 0 false true)]) AC.ret) AC.skip))))) (AC.ops [(AOp.mk (some 51) (AK.mv (AX.t 14)) none 0 false true), (AOp.mk (some 52) (AK.bin false BinOp.add (AX.t 51) (AX.c (PV.val (Value.int IntKind.i64 1)))) none 1 false true), (AOp.mk (some 14) (AK.mv (AX.t 52)) none 2 false true)])))))) (AC.seq (AC.seq (AC.ops [(AOp.mk (some 75) (AK.fadr 2 (AX.t 2)) none 0 false true), (AOp.mk (some 76) (AK.ld none (AX.t 75)) none 1 false true), (AOp.mk (some 77) (AK.bin false BinOp.gtr (AX.t 76) (AX.c (PV.val (Value.int IntKind.i64 0)))) none 2 false true), (AOp.mk (some 78) (AK.mv (AX.t 77)) none 3 false true), (AOp.mk (some 79) (AK.fadr 3 (AX.t 2)) (some (78, true)) 4 false true), (AOp.mk (some 80) (AK.ld none (AX.t 79)) (some (78, true)) 5 false true), (AOp.mk (some 81) (AK.mv (AX.t 6)) (some (78, true)) 6 false true), (AOp.mk (some 82) (AK.call 44 [(AX.t 80), (AX.t 81)]) (some (78, true)) 7 false true), (AOp.mk (some 83) (AK.un UnOp.not (AX.t 82)) (some (78, true)) 8 false true), (AOp.mk (some 84) (AK.pick (AX.t 78) (AX.t 83) (AX.c (PV.val (Value.bool false)))) none 9 false true)]) (AC.cond (AX.t 84) (AC.ops [(AOp.mk (some 13) (AK.mv (AX.c (PV.val (Value.int IntKind.i64 31)))) none 0 false true)]) AC.skip)) (AC.seq (AC.ops [(AOp.mk (some 85) (AK.mv (AX.t 8)) none 0 false true), (AOp.mk (some 86) (AK.bin false BinOp.eql (AX.t 85) (AX.c (PV.val (Value.int IntKind.i64 0)))) none 1 false true), (AOp.mk (some 87) (AK.mv (AX.t 86)) none 2 false true), (AOp.mk (some 88) (AK.mv (AX.t 10)) (some (87, true)) 3 false true), (AOp.mk (some 89) (AK.bin false BinOp.eql (AX.t 88) (AX.c (PV.val (Value.int IntKind.i64 0)))) (some (87, true)) 4 false true), (AOp.mk (some 90) (AK.pick (AX.t 87) (AX.t 89) (AX.c (PV.val (Value.bool false)))) none 5 false true), (AOp.mk (some 91) (AK.mv (AX.t 90)) none 6 false true), (AOp.mk (some 92) (AK.mv (AX.t 12)) (some (91, true)) 7 false true), (AOp.mk (some 93) (AK.bin false BinOp.eql (AX.t 92) (AX.c (PV.val (Value.int IntKind.i64 0)))) (some (91, true)) 8 false true), (AOp.mk (some 94) (AK.pick (AX.t 91) (AX.t 93) (AX.c (PV.val (Value.bool false)))) none 9 false true), (AOp.mk (some 95) (AK.mv (AX.t 94)) none 10 false true), (AOp.mk (some 96) (AK.mv (AX.t 7)) (some (95, true)) 11 false true), (AOp.mk (some 97) (AK.len (AX.t 96)) (some (95, true)) 12 false true), (AOp.mk (some 98) (AK.fadr 0 (AX.t 2)) (some (95, true)) 13 false true), (AOp.mk (some 99) (AK.ld none (AX.t 98)) (some (95, true)) 14 false true), (AOp.mk (some 100) (AK.len (AX.t 99)) (some (95, true)) 15 false true), (AOp.mk (some 101) (AK.bin false BinOp.eql (AX.t 97) (AX.t 100)) (some (95, true)) 16 false true), (AOp.mk (some 102) (AK.pick (AX.t 95) (AX.t 101) (AX.c (PV.val (Value.bool false)))) none 17 false true), (AOp.mk (some 103) (AK.mv (AX.t 102)) none 18 false true), (AOp.mk (some 104) (AK.mv (AX.t 9)) (some (103, true)) 19 false true), (AOp.mk (some 105) (AK.mv (AX.t 13)) (some (103, true)) 20 false true), (AOp.mk (some 106) (AK.call 42 [(AX.t 105), (AX.c (PV.val (Value.int IntKind.i64 5)))]) (some (103, true)) 21 false true), (AOp.mk (some 107) (AK.call 22 [(AX.t 104), (AX.t 106)]) (some (103, true)) 22 false true), (AOp.mk (some 108) (AK.pick (AX.t 103) (AX.t 107) (AX.c (PV.val (Value.bool false)))) none 23 false true), (AOp.mk (some 109) (AK.mv (AX.t 108)) none 24 false true), (AOp.mk (some 110) (AK.mv (AX.t 11)) (some (109, true)) 25 false true), (AOp.mk (some 111) (AK.len (AX.t 110)) (some (109, true)) 26 false true), (AOp.mk (some 112) (AK.bin false BinOp.eql (AX.t 111) (AX.c (PV.val (Value.int IntKind.i64 0)))) (some (109, true)) 27 false true), (AOp.mk (some 113) (AK.pick (AX.t 109) (AX.t 112) (AX.c (PV.val (Value.bool false)))) none 28 false true), (AOp.mk (some 114) (AK.mv (AX.t 113)) none 29 false true), (AOp.mk (some 115) (AK.call 27 []) (some (114, true)) 30 false true), (AOp.mk (some 116) (AK.pick (AX.t 114) (AX.t 115) (AX.c (PV.val (Value.bool false)))) none 31 false true), (AOp.mk (some 4) (AK.mv (AX.t 116)) none 32 false true)]) AC.ret)))))))))))
theorem ac13_ok : cCode Try.prog (fun _ => false) Try.f13.ntmps (Try.f13.body.getD .skip) = some ac13 := by kernel_rfl
theorem nil_le (k : SK) (b : MBook) : PVleL [.agg [.sl k 1 (rowsC b.makers), .sl .full 0 [], pi b.repairs, pi b.fixed]] [.agg (bookC k .sh (unseenB b))] :=
  ⟨PVle.agg ⟨PVle.refl _, PVle.nil _ _ _, PVle.refl _, PVle.refl _, trivial⟩, trivial⟩
theorem nil_le2 (k : SK) (b : MBook) (n : Int) : PVleL [.agg [.sl k 1 (rowsC b.makers), .sl .full 0 [], pi b.repairs, pi b.fixed], pi n] [.agg (bookC k .sh (unseenB b)), pi n] :=
  ⟨(nil_le k b).1, PVle.refl _, trivial⟩
set_option maxRecDepth 100000 in
set_option maxHeartbeats 2000000 in
theorem Bare_law (k k2 : SK) (b : MBook) (n : Int) : Sem1 13 [.agg (bookC k k2 b), pi n] (pb true) := by
  by_cases ho : okBook b
  rotate_left
  · refine semC_of_exec' mixed Try.func13 (by kernel_rfl) (by kernel_rfl) ac13_ok 2 rfl (by decide) [(.tmp 4)] (by kernel_rfl) ?_
    intro hr C hC hI
    unfold ac13
    simp only [go_sem, Nat.reduceBEq, Nat.reduceAdd]
    refine call_pure2 hC (sound_sem k k2 b) rfl (PVleL_refl _) ?_
    rintro r rfl
    simp only [go_sem, Nat.reduceBEq, eq_false ho, decide_false]
    refine call_pure2 hC (marked_sem) rfl (PVleL_refl _) ?_
    rintro r rfl
    simp only [go_sem, Nat.reduceBEq]
    exact retQ_one rfl rfl
  have hoc := ho.1
  have h1 := hoc.1
  have h2 := hoc.2.1
  have hox : okBook (unseenB b) := ⟨bare_ok hoc, by simp [unseenB]⟩
  have hr := bare_right b
  obtain ⟨q, eq, hq⟩ := rnd_kind hoc n
  obtain ⟨hz, hfl⟩ := hoc.first
  have e0 : iadrS' 1 (.p (.sl k 1 (rowsC b.makers))) (.p (pi 0)) = some (.p (.ptr [pis b.makers[0]] 0)) := iadr_map (f := fun h => [pis h]) (kd := k) (sz := 1) hz
  have hWho := Who_ok k .sh hox hr
  rw [bare_who hoc] at hWho
  have hVal := Values_ok k .sh hox hr (q := q) hq
  rw [bare_values hoc hq] at hVal
  have hWr := Wrong_ok k .sh hox
  rw [bare_wrong hoc] at hWr
  have hfx := hoc.fix.1
  have hNe : ∀ m, m < b.makers.length → Sem1 23 [.agg (bookC k .sh (unseenB b)), pi m] (.tup [pi 0, pi 0]) := fun m hm => by
    have := Needs_ok k .sh hox hr (m := m) hm
    rw [bare_needs hoc hm] at this
    exact this
  have hbn : bareN b q = if 0 < b.repairs ∧ (fixN b).testBit q = false then 31 else allN b q b.makers.length := rfl
  obtain ⟨B, hB⟩ : ∃ B, bareN b q = B := ⟨_, rfl⟩
  rw [hB] at hVal hbn
  have hL5 : Sem1 42 [pi (B : Int), pi 5] (pis (listI (B : Int) 5)) := List_sem (B : Int) 5 (by decide)
  refine semC_of_exec' mixed Try.func13 (by kernel_rfl) (by kernel_rfl) ac13_ok 2 rfl (by decide) [(.tmp 4)] (by kernel_rfl) ?_
  intro hr C hC hI
  unfold ac13
  simp only [go_sem, Nat.reduceBEq, Nat.reduceAdd]
  refine call_pure2 hC (sound_sem k k2 b) rfl (PVleL_refl _) ?_
  rintro r rfl
  simp only [go_sem, Nat.reduceBEq, Nat.reduceAdd, eq_true ho, List.length_map, e0, hfl, decide_true, Bool.false_eq_true]
  refine ⟨?_, ?_⟩
  · skip
    refine call_pure2 hC (Round_sem n (nK b)) rfl (PVleL_refl _) ?_
    rintro r rfl
    simp only [go_sem, Nat.reduceBEq, Nat.reduceAdd, Nat.reduceLeDiff, eq, putCells, gs_newA, gs_stA, stG_loc, stGB_cells, List.map_cons, List.map_nil, true_or, true_and]
    refine call_pure2 hC hWho rfl (nil_le ..) ?_
    rintro _ rfl
    simp only [go_sem, Nat.reduceBEq, Nat.reduceAdd]
    refine call_pure2 hC hVal rfl (nil_le2 ..) ?_
    rintro _ rfl
    simp only [go_sem, Nat.reduceBEq, Nat.reduceAdd]
    refine call_pure2 hC hWr rfl (nil_le ..) ?_
    rintro _ rfl
    simp only [go_sem, Nat.reduceBEq]
    refine loop_k b.makers.length (fun _ => True) [2, 5, 6, 7, 8, 9, 10, 11, 12] (fun j => [(13, .p (pi (allN b q j : Nat))), (14, .p (pi j))]) trivial (by simp [loAll, look, AV.lo]) ⟨by simp [loBlk, AV.lo, AV.lo.loL], by simp, by simp⟩ (by simp [allN, wkT, look, AV.lo]) ?_
    rintro j ⟨hj, -⟩
    simp only [go_sem, Nat.reduceBEq, List.length_map]
    refine ⟨fun c5 => ?_, fun c5 => ?_⟩
    · have hj2 : j < b.makers.length := by omega
      have em2 := iadr_map (f := fun h => [pis h]) (kd := k) (sz := 1) hj2
      obtain ⟨hrow, hrx⟩ := hoc.row hj2
      have hjl : q < b.makers[j].length := by omega
      obtain ⟨k1, k3, k4⟩ := hoc.mk hj2 hq
      have hval := mk_get hj2 hjl
      rw [k4] at hval
      have hor : binS false .or (.p (pi (allN b q j : Nat))) (.p (pi (mkN b j q : Nat))) = some (.p (pi (allN b q (j + 1) : Nat))) := by
        rw [allN_next]
        exact bin_orN (allN_lt hoc hq (by omega)) (by omega)
      simp only [go_sem, Nat.reduceBEq, Nat.reduceAdd, em2, iadr_pis hjl, hval, hor]
      refine call_pure2 hC (hNe j hj2) rfl (nil_le2 ..) ?_
      rintro _ rfl
      simp only [go_sem, Nat.reduceBEq, wrap_succ (k := j) (by omega), decide_false, not_true_eq_false]
      exact ⟨⟨j + 1, hj2, trivial⟩, by simp only; omega, by simp [Wk, wkT, wkL, look, AV.lo, AV.lo.loL, ABlk.toZ]⟩
    · have hjn : j = b.makers.length := by omega
      subst hjn
      refine ⟨fun d5 => ?_, fun d5 => ?_⟩
      · rw [hfx]
        refine call_pure2 hC (Of_sem (fixN b : Nat) q (by omega)) rfl (PVleL_refl _) ?_
        rintro r rfl
        simp only [go_sem, Nat.reduceBEq, of_bit (s := fixN b) (i := q) (by omega)]
        cases hb : (fixN b).testBit q
        · rw [if_pos ⟨d5, hb⟩] at hbn
          have h31 : (31 : Int) = (B : Int) := by omega
          simp only [go_sem, Nat.reduceBEq, h31, List.length_map, natL_len, List.length_range, decide_true]
          refine call_pure2 hC (hL5) rfl (PVleL_refl _) ?_
          rintro r rfl
          simp only [go_sem, Nat.reduceBEq]
          refine call_pure2 hC (Equal_sem (listI (B : Int) 5) (listI (B : Int) 5)) rfl (PVleL_refl _) ?_
          rintro r rfl
          simp only [go_sem, Nat.reduceBEq, List.map_nil, List.length_nil, Int.natCast_zero, decide_true]
          refine call_pure2 hC (marked_sem) rfl (PVleL_refl _) ?_
          rintro r rfl
          simp only [go_sem, Nat.reduceBEq]
          exact retQ_one rfl rfl
        · rw [if_neg (fun h => by rw [hb] at h; cases h.2)] at hbn
          rw [← hbn]
          simp only [go_sem, Nat.reduceBEq, List.length_map, natL_len, List.length_range, decide_true]
          refine call_pure2 hC (hL5) rfl (PVleL_refl _) ?_
          rintro r rfl
          simp only [go_sem, Nat.reduceBEq]
          refine call_pure2 hC (Equal_sem (listI (B : Int) 5) (listI (B : Int) 5)) rfl (PVleL_refl _) ?_
          rintro r rfl
          simp only [go_sem, Nat.reduceBEq, List.map_nil, List.length_nil, Int.natCast_zero, decide_true]
          refine call_pure2 hC (marked_sem) rfl (PVleL_refl _) ?_
          rintro r rfl
          simp only [go_sem, Nat.reduceBEq]
          exact retQ_one rfl rfl
      · rw [if_neg (fun h => d5 h.1)] at hbn
        rw [← hbn]
        simp only [go_sem, natL_len, List.length_range, decide_true, not_true_eq_false, false_implies, true_implies]
        refine call_pure2 hC (hL5) rfl (PVleL_refl _) ?_
        rintro r rfl
        simp only [go_sem, Nat.reduceBEq]
        refine call_pure2 hC (Equal_sem (listI (B : Int) 5) (listI (B : Int) 5)) rfl (PVleL_refl _) ?_
        rintro r rfl
        simp only [go_sem, Nat.reduceBEq, List.map_nil, List.length_nil, Int.natCast_zero, decide_true]
        refine call_pure2 hC (marked_sem) rfl (PVleL_refl _) ?_
        rintro r rfl
        simp only [go_sem, Nat.reduceBEq]
        exact retQ_one rfl rfl
  · simp only [go_sem, Nat.reduceBEq, gs_newA, gs_stA, List.map_cons, List.map_nil]
    refine call_pure2 hC (Round_sem n (nK b)) rfl (PVleL_refl _) ?_
    rintro r rfl
    simp only [go_sem, Nat.reduceBEq, Nat.reduceAdd, Nat.reduceLeDiff, eq, putCells, stG_loc, stGB_cells, List.map_cons, List.map_nil, true_or, true_and]
    refine call_pure2 hC hWho rfl (nil_le ..) ?_
    rintro _ rfl
    simp only [go_sem, Nat.reduceBEq, Nat.reduceAdd]
    refine call_pure2 hC hVal rfl (nil_le2 ..) ?_
    rintro _ rfl
    simp only [go_sem, Nat.reduceBEq, Nat.reduceAdd]
    refine call_pure2 hC hWr rfl (nil_le ..) ?_
    rintro _ rfl
    simp only [go_sem, Nat.reduceBEq]
    refine loop_k b.makers.length (fun _ => True) [2, 5, 6, 7, 8, 9, 10, 11, 12] (fun j => [(13, .p (pi (allN b q j : Nat))), (14, .p (pi j))]) trivial (by simp [loAll, look, AV.lo]) ⟨by simp [loBlk, AV.lo, AV.lo.loL], by simp, by simp⟩ (by simp [allN, wkT, look, AV.lo]) ?_
    rintro j ⟨hj, -⟩
    simp only [go_sem, Nat.reduceBEq, List.length_map]
    refine ⟨fun c5 => ?_, fun c5 => ?_⟩
    · have hj2 : j < b.makers.length := by omega
      have em2 := iadr_map (f := fun h => [pis h]) (kd := k) (sz := 1) hj2
      obtain ⟨hrow, hrx⟩ := hoc.row hj2
      have hjl : q < b.makers[j].length := by omega
      obtain ⟨k1, k3, k4⟩ := hoc.mk hj2 hq
      have hval := mk_get hj2 hjl
      rw [k4] at hval
      have hor : binS false .or (.p (pi (allN b q j : Nat))) (.p (pi (mkN b j q : Nat))) = some (.p (pi (allN b q (j + 1) : Nat))) := by
        rw [allN_next]
        exact bin_orN (allN_lt hoc hq (by omega)) (by omega)
      simp only [go_sem, Nat.reduceBEq, Nat.reduceAdd, em2, iadr_pis hjl, hval, hor]
      refine call_pure2 hC (hNe j hj2) rfl (nil_le2 ..) ?_
      rintro _ rfl
      simp only [go_sem, Nat.reduceBEq, wrap_succ (k := j) (by omega), decide_false, not_true_eq_false]
      exact ⟨⟨j + 1, hj2, trivial⟩, by simp only; omega, by simp [Wk, wkT, wkL, look, AV.lo, AV.lo.loL, ABlk.toZ]⟩
    · have hjn : j = b.makers.length := by omega
      subst hjn
      refine ⟨fun d5 => ?_, fun d5 => ?_⟩
      · rw [hfx]
        refine call_pure2 hC (Of_sem (fixN b : Nat) q (by omega)) rfl (PVleL_refl _) ?_
        rintro r rfl
        simp only [go_sem, Nat.reduceBEq, of_bit (s := fixN b) (i := q) (by omega)]
        cases hb : (fixN b).testBit q
        · rw [if_pos ⟨d5, hb⟩] at hbn
          have h31 : (31 : Int) = (B : Int) := by omega
          simp only [go_sem, Nat.reduceBEq, h31, List.length_map, natL_len, List.length_range, decide_true]
          refine call_pure2 hC (hL5) rfl (PVleL_refl _) ?_
          rintro r rfl
          simp only [go_sem, Nat.reduceBEq]
          refine call_pure2 hC (Equal_sem (listI (B : Int) 5) (listI (B : Int) 5)) rfl (PVleL_refl _) ?_
          rintro r rfl
          simp only [go_sem, Nat.reduceBEq, List.map_nil, List.length_nil, Int.natCast_zero, decide_true]
          refine call_pure2 hC (marked_sem) rfl (PVleL_refl _) ?_
          rintro r rfl
          simp only [go_sem, Nat.reduceBEq]
          exact retQ_one rfl rfl
        · rw [if_neg (fun h => by rw [hb] at h; cases h.2)] at hbn
          rw [← hbn]
          simp only [go_sem, Nat.reduceBEq, List.length_map, natL_len, List.length_range, decide_true]
          refine call_pure2 hC (hL5) rfl (PVleL_refl _) ?_
          rintro r rfl
          simp only [go_sem, Nat.reduceBEq]
          refine call_pure2 hC (Equal_sem (listI (B : Int) 5) (listI (B : Int) 5)) rfl (PVleL_refl _) ?_
          rintro r rfl
          simp only [go_sem, Nat.reduceBEq, List.map_nil, List.length_nil, Int.natCast_zero, decide_true]
          refine call_pure2 hC (marked_sem) rfl (PVleL_refl _) ?_
          rintro r rfl
          simp only [go_sem, Nat.reduceBEq]
          exact retQ_one rfl rfl
      · rw [if_neg (fun h => d5 h.1)] at hbn
        rw [← hbn]
        simp only [go_sem, natL_len, List.length_range, decide_true, not_true_eq_false, false_implies, true_implies]
        refine call_pure2 hC (hL5) rfl (PVleL_refl _) ?_
        rintro r rfl
        simp only [go_sem, Nat.reduceBEq]
        refine call_pure2 hC (Equal_sem (listI (B : Int) 5) (listI (B : Int) 5)) rfl (PVleL_refl _) ?_
        rintro r rfl
        simp only [go_sem, Nat.reduceBEq, List.map_nil, List.length_nil, Int.natCast_zero, decide_true]
        refine call_pure2 hC (marked_sem) rfl (PVleL_refl _) ?_
        rintro r rfl
        simp only [go_sem, Nat.reduceBEq]
        exact retQ_one rfl rfl
set_option maxRecDepth 100000 in
theorem Bare_row {l0 l1 : List PV} (T0 : Ty Try.prog 10 25 l0) (T1 : Ty Try.prog 10 3 l1) : SemC Try.prog 13 [argPV Try.prog 25 l0, argPV Try.prog 3 l1] (fun r => r = pb true) := by
  obtain ⟨b, rfl⟩ := ty_book T0
  obtain ⟨n, rfl⟩ := tyInt uInt T1
  rw [argStruct Try.underlying25, argInt uInt]
  exact Bare_law .sh .sh b n
end Go.Proofs.Ythaplmohhbdfeaa.Mk
namespace Go.Proofs.Ythaplmohhbdfeaa
open Go.Proofs.Ythaplmohhbdfeaa Go.ChangeShapes Go.WideShapes Go.ChangeAt Go.RowKit Go.Deep

set_option maxRecDepth 100000 in
theorem makerBare_lifted (os : Os) (started : os.Started) (H : Type) (enc : TypeId × Value → H) :
    ReturnsInHanded {} Try.checked os 13 .any (Rows.makerBareSpec.pre6 enc Try.prog Try.f13 Rows.makerBareRow.domain false) (Rows.makerBareSpec.post enc Try.prog Try.f13 false true false false) := by
  refine returnsInHanded_of_change_sized (C := Try.checked) ownKnobs started (by kernel_rfl) Try.func13
    (ChangeSpec.witness6 (enc := enc) (C := Try.checked) false ⟨#[], #[.agg #[.slice none 0 0, .slice none 0 0, .int .i64 0, .int .i64 0], .int .i64 0], []⟩ 8 (by kernel_rfl) (by kernel_rfl) (by kernel_rfl) (by kernel_rfl)) ?_
  intro W base args ds gs before hval0 hW hcnd hsz0 _
  have hval : ∀ (j : Nat) t v, Try.f13.params[j]? = some t → args[j]? = some v → Value.okWide Try.prog W .any base t v := hval0
  have hsz : (DataW.weightsEach Try.prog (Try.f13.params.toList ++ Rows.makerBareSpec.plain.varTypes Try.prog) (ds ++ gs)).all (· ≤ reachBytes) = true := hsz0
  have hW' := hW
  obtain ⟨p, q, hA0, hV, rfl, hfz, hnd⟩ := hW
  have hA : DataW.TrodAll enc Try.prog W 0 (fun _ => true) true Try.f13.params.toList args.toList ds p := hA0
  rw [Try.params13] at hA hval hsz
  obtain ⟨v0, vs0, d0, ds0, p0, q0, hargs, rfl, rfl, h0, r0⟩ := trodAll_cons hA
  obtain ⟨v1, vs1, d1, ds1, p1, q1, rfl, rfl, rfl, h1, r1⟩ := trodAll_cons r0
  obtain ⟨rfl, rfl, rfl⟩ := trodAll_nil r1
  obtain rfl : args = #[v0, v1] := by cases args; simp_all
  obtain ⟨rfl, rfl⟩ := trodVars_none hV
  have lt0 : ∀ x ∈ p0, x.block < W.heap.size := by obtain ⟨m, hm⟩ := h0; exact DataW.trod_lt m _ _ _ hm
  have lt1 : ∀ x ∈ p1, x.block < W.heap.size := by obtain ⟨m, hm⟩ := h1; exact DataW.trod_lt m _ _ _ hm
  have z0 : SizedP Try.prog 25 d0 := sizedP_each hsz (j := 0) rfl rfl
  obtain ⟨l0, T0, R0⟩ := rd_arg 10 (by kernel_rfl) (hval 0 25 v0 rfl rfl) h0 z0
  have z1 : SizedP Try.prog 3 d1 := sizedP_each hsz (j := 1) rfl rfl
  obtain ⟨l1, T1, R1⟩ := rd_arg 10 (by kernel_rfl) (hval 1 3 v1 rfl rfl) h1 z1
  clear hA0 hval0 hsz0
  refine (law_calls (Mk.Bare_row T0 T1) (argsP_cons R0 (argsP_cons R1 argsP_nil))).mono fun e W' ⟨he, bel⟩ => ?_
  subst he
  exact ⟨_, rfl, _, _, _, [], _, [], hW', trodAll_mk1 (shut_bool Try.underlying4 _), (trodAll_cons_mk (Below.trod laidOut (by kernel_rfl) (of_decide_eq_true (by kernel_rfl)) h0 bel lt0) (trodAll_cons_mk (Below.trod laidOut (by kernel_rfl) (of_decide_eq_true (by kernel_rfl)) h1 bel lt1) trodAll_mk0)), rfl, bel.frame _, fun h => by cases h⟩

theorem makerBare_holds : Rows.MakerBareSaid :=
  OpenClaim.holds_of_wide 13 Try.f13 rfl rfl rfl rfl rfl rfl rfl ⟨rfl, rfl, rfl, rfl, rfl⟩ rfl rfl rfl rfl rfl (by kernel_rfl) Try.func13 (by kernel_rfl)
    (of_decide_eq_true (by kernel_rfl)) (by unfold Func.isWrapper; first | (rw [if_pos (by decide +kernel)]; kernel_rfl) | (rw [if_neg (by decide +kernel)]; exact ⟨rfl, rfl⟩))
    (fun os started H enc _ => makerBare_lifted os started H enc)
end Go.Proofs.Ythaplmohhbdfeaa
