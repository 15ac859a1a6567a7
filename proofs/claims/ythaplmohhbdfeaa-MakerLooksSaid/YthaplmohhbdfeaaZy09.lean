/- Contracts of the reference of maker: which books are valid. -/
import Derived.Test.YthaplmohhbdfeaaZy08
namespace Go.Proofs.Ythaplmohhbdfeaa.Mk
open Go.RowKit Ls
def ac19 : AC := (AC.seq (AC.ops [(AOp.mk (some 1) (AK.box 4 (AX.t 0)) none 0 false true), (AOp.mk (some 2) (AK.mv (AX.c (PV.val (Value.int IntKind.i64 0)))) none 1 false true)]) (AC.seq (AC.ops [(AOp.mk (some 7) (AK.fadr 0 (AX.t 1)) none 0 false true), (AOp.mk (some 8) (AK.ld none (AX.t 7)) none 1 false true), (AOp.mk (some 9) (AK.len (AX.t 8)) none 2 false true), (AOp.mk (some 10) (AK.call 43 [(AX.t 9), (AX.c (PV.val (Value.int IntKind.i64 1))), (AX.c (PV.val (Value.int IntKind.i64 5)))]) none 3 false true), (AOp.mk (some 11) (AK.mv (AX.t 10)) none 4 false true), (AOp.mk (some 12) (AK.fadr 1 (AX.t 1)) (some (11, true)) 5 false true), (AOp.mk (some 13) (AK.ld none (AX.t 12)) (some (11, true)) 6 false true), (AOp.mk (some 14) (AK.len (AX.t 13)) (some (11, true)) 7 false true), (AOp.mk (some 15) (AK.bin false BinOp.leq (AX.t 14) (AX.c (PV.val (Value.int IntKind.i64 8)))) (some (11, true)) 8 false true), (AOp.mk (some 16) (AK.pick (AX.t 11) (AX.t 15) (AX.c (PV.val (Value.bool false)))) none 9 false true), (AOp.mk (some 3) (AK.mv (AX.t 16)) none 10 false true)]) (AC.seq (AC.ops [(AOp.mk (some 17) (AK.mv (AX.t 3)) none 0 true true), (AOp.mk (some 18) (AK.mv (AX.t 17)) none 1 true true), (AOp.mk (some 19) (AK.ld (some 4) (AX.t 1)) (some (18, true)) 2 true true), (AOp.mk (some 20) (AK.call 67 [(AX.t 19)]) (some (18, true)) 3 false true), (AOp.mk (some 21) (AK.call 43 [(AX.t 20), (AX.c (PV.val (Value.int IntKind.i64 1))), (AX.c (PV.val (Value.int IntKind.i64 6)))]) (some (18, true)) 4 false true), (AOp.mk (some 22) (AK.pick (AX.t 18) (AX.t 21) (AX.c (PV.val (Value.bool false)))) none 5 true true), (AOp.mk (some 23) (AK.mv (AX.t 22)) none 6 true true), (AOp.mk (some 24) (AK.fadr 2 (AX.t 1)) (some (23, true)) 7 true false), (AOp.mk (some 25) (AK.ld none (AX.t 24)) (some (23, true)) 8 true false), (AOp.mk (some 26) (AK.ld (some 4) (AX.t 1)) (some (23, true)) 9 true false), (AOp.mk (some 27) (AK.call 67 [(AX.t 26)]) (some (23, true)) 10 false false), (AOp.mk (some 28) (AK.call 43 [(AX.t 25), (AX.c (PV.val (Value.int IntKind.i64 0))), (AX.t 27)]) (some (23, true)) 11 false true), (AOp.mk (some 29) (AK.pick (AX.t 23) (AX.t 28) (AX.c (PV.val (Value.bool false)))) none 12 true true), (AOp.mk (some 30) (AK.mv (AX.t 29)) none 13 true true), (AOp.mk (some 31) (AK.fadr 3 (AX.t 1)) (some (30, true)) 14 true false), (AOp.mk (some 32) (AK.ld none (AX.t 31)) (some (30, true)) 15 true false), (AOp.mk (some 33) (AK.ld (some 4) (AX.t 1)) (some (30, true)) 16 true false), (AOp.mk (some 34) (AK.call 67 [(AX.t 33)]) (some (30, true)) 17 false false), (AOp.mk (some 35) (AK.bin false BinOp.shl (AX.c (PV.val (Value.int IntKind.i64 1))) (AX.t 34)) (some (30, true)) 18 true false), (AOp.mk (some 36) (AK.bin false BinOp.sub (AX.t 35) (AX.c (PV.val (Value.int IntKind.i64 1)))) (some (30, true)) 19 true false), (AOp.mk (some 37) (AK.call 43 [(AX.t 32), (AX.c (PV.val (Value.int IntKind.i64 0))), (AX.t 36)]) (some (30, true)) 20 false true), (AOp.mk (some 38) (AK.pick (AX.t 30) (AX.t 37) (AX.c (PV.val (Value.bool false)))) none 21 true true), (AOp.mk (some 3) (AK.mv (AX.t 38)) none 22 true true)]) (AC.seq (AC.seq (AC.ops [(AOp.mk (some 4) (AK.mv (AX.c (PV.val (Value.int IntKind.i64 0)))) none 0 false true)]) (AC.block 0 (AC.loop (AC.seq (AC.seq (AC.ops [(AOp.mk (some 39) (AK.mv (AX.t 3)) none 0 false true), (AOp.mk (some 40) (AK.mv (AX.t 39)) none 1 false true), (AOp.mk (some 41) (AK.mv (AX.t 4)) (some (40, true)) 2 false true), (AOp.mk (some 42) (AK.fadr 0 (AX.t 1)) (some (40, true)) 3 false true), (AOp.mk (some 43) (AK.ld none (AX.t 42)) (some (40, true)) 4 false true), (AOp.mk (some 44) (AK.len (AX.t 43)) (some (40, true)) 5 false true), (AOp.mk (some 45) (AK.bin false BinOp.lss (AX.t 41) (AX.t 44)) (some (40, true)) 6 false true), (AOp.mk (some 46) (AK.pick (AX.t 40) (AX.t 45) (AX.c (PV.val (Value.bool false)))) none 7 false true)]) (AC.cond (AX.t 46) AC.skip (AC.exit 0))) (AC.seq (AC.block 1 (AC.seq (AC.ops [(AOp.mk (some 49) (AK.fadr 0 (AX.t 1)) none 0 true false), (AOp.mk (some 50) (AK.ld none (AX.t 49)) none 1 true false), (AOp.mk (some 51) (AK.mv (AX.t 4)) none 2 true false), (AOp.mk (some 52) (AK.iadrS 1 (AX.t 50) (AX.t 51)) none 3 true false), (AOp.mk (some 53) (AK.ld none (AX.t 52)) none 4 true false), (AOp.mk (some 54) (AK.len (AX.t 53)) none 5 true false), (AOp.mk (some 55) (AK.ld (some 4) (AX.t 1)) none 6 true false), (AOp.mk (some 56) (AK.call 67 [(AX.t 55)]) none 7 false false), (AOp.mk (some 57) (AK.bin false BinOp.eql (AX.t 54) (AX.t 56)) none 8 true true), (AOp.mk (some 3) (AK.mv (AX.t 57)) none 9 true true)]) (AC.seq (AC.ops [(AOp.mk (some 5) (AK.mv (AX.c (PV.val (Value.int IntKind.i64 0)))) none 0 false true)]) (AC.block 2 (AC.loop (AC.seq (AC.seq (AC.ops [(AOp.mk (some 58) (AK.mv (AX.t 3)) none 0 false true), (AOp.mk (some 59) (AK.mv (AX.t 58)) none 1 false true), (AOp.mk (some 60) (AK.mv (AX.t 5)) (some (59, true)) 2 false true), (AOp.mk (some 61) (AK.ld (some 4) (AX.t 1)) (some (59, true)) 3 false true), (AOp.mk (some 62) (AK.call 67 [(AX.t 61)]) (some (59, true)) 4 false true), (AOp.mk (some 63) (AK.bin false BinOp.lss (AX.t 60) (AX.t 62)) (some (59, true)) 5 false true), (AOp.mk (some 64) (AK.pick (AX.t 59) (AX.t 63) (AX.c (PV.val (Value.bool false)))) none 6 false true)]) (AC.cond (AX.t 64) AC.skip (AC.exit 2))) (AC.seq (AC.block 3 (AC.ops [(AOp.mk (some 67) (AK.fadr 0 (AX.t 1)) none 0 false true), (AOp.mk (some 68) (AK.ld none (AX.t 67)) none 1 false true), (AOp.mk (some 69) (AK.mv (AX.t 4)) none 2 false true), (AOp.mk (some 70) (AK.iadrS 1 (AX.t 68) (AX.t 69)) none 3 false true), (AOp.mk (some 71) (AK.ld none (AX.t 70)) none 4 false true), (AOp.mk (some 72) (AK.mv (AX.t 5)) none 5 false true), (AOp.mk (some 73) (AK.iadrS 1 (AX.t 71) (AX.t 72)) none 6 false true), (AOp.mk (some 74) (AK.ld none (AX.t 73)) none 7 false true), (AOp.mk (some 75) (AK.call 43 [(AX.t 74), (AX.c (PV.val (Value.int IntKind.i64 1))), (AX.c (PV.val (Value.int IntKind.i64 31)))]) none 8 false true), (AOp.mk (some 3) (AK.mv (AX.t 75)) none 9 false true)])) (AC.ops [(AOp.mk (some 65) (AK.mv (AX.t 5)) none 0 false true), (AOp.mk (some 66) (AK.bin false BinOp.add (AX.t 65) (AX.c (PV.val (Value.int IntKind.i64 1)))) none 1 false true), (AOp.mk (some 5) (AK.mv (AX.t 66)) none 2 false true)])))))))) (AC.ops [(AOp.mk (some 47) (AK.mv (AX.t 4)) none 0 false true), (AOp.mk (some 48) (AK.bin false BinOp.add (AX.t 47) (AX.c (PV.val (Value.int IntKind.i64 1)))) none 1 false true), (AOp.mk (some 4) (AK.mv (AX.t 48)) none 2 false true)])))))) (AC.seq (AC.seq (AC.ops [(AOp.mk (some 6) (AK.mv (AX.c (PV.val (Value.int IntKind.i64 0)))) none 0 false true)]) (AC.block 4 (AC.loop (AC.seq (AC.seq (AC.ops [(AOp.mk (some 76) (AK.mv (AX.t 3)) none 0 false true), (AOp.mk (some 77) (AK.mv (AX.t 76)) none 1 false true), (AOp.mk (some 78) (AK.mv (AX.t 6)) (some (77, true)) 2 false true), (AOp.mk (some 79) (AK.fadr 1 (AX.t 1)) (some (77, true)) 3 false true), (AOp.mk (some 80) (AK.ld none (AX.t 79)) (some (77, true)) 4 false true), (AOp.mk (some 81) (AK.len (AX.t 80)) (some (77, true)) 5 false true), (AOp.mk (some 82) (AK.bin false BinOp.lss (AX.t 78) (AX.t 81)) (some (77, true)) 6 false true), (AOp.mk (some 83) (AK.pick (AX.t 77) (AX.t 82) (AX.c (PV.val (Value.bool false)))) none 7 false true)]) (AC.cond (AX.t 83) AC.skip (AC.exit 4))) (AC.seq (AC.block 5 (AC.ops [(AOp.mk (some 86) (AK.ld (some 4) (AX.t 1)) none 0 true false), (AOp.mk (some 87) (AK.fadr 1 (AX.t 1)) none 1 true false), (AOp.mk (some 88) (AK.ld none (AX.t 87)) none 2 true false), (AOp.mk (some 89) (AK.mv (AX.t 6)) none 3 true false), (AOp.mk (some 90) (AK.iadrS 2 (AX.t 88) (AX.t 89)) none 4 true false), (AOp.mk (some 91) (AK.fadr 0 (AX.t 90)) none 5 true false), (AOp.mk (some 92) (AK.ld none (AX.t 91)) none 6 true false), (AOp.mk (some 93) (AK.call 68 [(AX.t 86), (AX.t 92)]) none 7 false true), (AOp.mk (some 94) (AK.mv (AX.t 93)) none 8 true true), (AOp.mk (some 95) (AK.fadr 1 (AX.t 1)) (some (94, true)) 9 true true), (AOp.mk (some 96) (AK.ld none (AX.t 95)) (some (94, true)) 10 true true), (AOp.mk (some 97) (AK.mv (AX.t 6)) (some (94, true)) 11 true false), (AOp.mk (some 98) (AK.iadrS 2 (AX.t 96) (AX.t 97)) (some (94, true)) 12 true true), (AOp.mk (some 99) (AK.fadr 1 (AX.t 98)) (some (94, true)) 13 true true), (AOp.mk (some 100) (AK.ld none (AX.t 99)) (some (94, true)) 14 true true), (AOp.mk (some 101) (AK.call 43 [(AX.t 100), (AX.c (PV.val (Value.int IntKind.i64 1))), (AX.c (PV.val (Value.int IntKind.i64 31)))]) (some (94, true)) 15 false true), (AOp.mk (some 102) (AK.pick (AX.t 94) (AX.t 101) (AX.c (PV.val (Value.bool false)))) none 16 true true), (AOp.mk (some 3) (AK.mv (AX.t 102)) none 17 true true)])) (AC.ops [(AOp.mk (some 84) (AK.mv (AX.t 6)) none 0 false true), (AOp.mk (some 85) (AK.bin false BinOp.add (AX.t 84) (AX.c (PV.val (Value.int IntKind.i64 1)))) none 1 false true), (AOp.mk (some 6) (AK.mv (AX.t 85)) none 2 false true)])))))) (AC.seq (AC.seq (AC.ops [(AOp.mk (some 103) (AK.mv (AX.t 3)) none 0 false true), (AOp.mk (some 104) (AK.un UnOp.not (AX.t 103)) none 1 false true)]) (AC.cond (AX.t 104) (AC.seq (AC.ops [(AOp.mk (some 2) (AK.mv (AX.c (PV.val (Value.int IntKind.i64 50)))) none 0 false true)]) AC.ret) AC.skip)) (AC.seq (AC.ops [(AOp.mk (some 2) (AK.mv (AX.c (PV.val (Value.int IntKind.i64 0)))) none 0 false true)]) AC.ret)))))))
theorem ac19_ok : cCode Try.prog (fun _ => false) Try.f19.ntmps (Try.f19.body.getD .skip) = some ac19 := by kernel_rfl
theorem rkinds0_sem (k k2 : SK) {b : MBook} (hz : 0 < b.makers.length) : Sem1 67 [.agg (bookC k k2 b)] (pi (nK b)) := by
  have hfl : b.makers[0].length = nK b := by
    unfold nK
    rw [List.getD_eq_getElem?_getD, List.getElem?_eq_getElem hz]
    rfl
  have e0 : iadrS' 1 (.p (.sl k 1 (rowsC b.makers))) (.p (pi 0)) = some (.p (.ptr [pis b.makers[0]] 0)) := iadr_map (f := fun h => [pis h]) (kd := k) (sz := 1) hz
  refine semC_of_exec' mixed Try.func67 (by kernel_rfl) (by kernel_rfl) ac67_ok 1 rfl (by decide) [(.tmp 2)] (by kernel_rfl) ?_
  intro hr C hC hI
  unfold ac67
  simp only [go_sem, Nat.reduceBEq, Nat.reduceAdd, e0, List.length_map, hfl]
  exact retQ_one rfl rfl
theorem risKind0_sem (k k2 : SK) {b : MBook} (hz : 0 < b.makers.length) (h6 : nK b ≤ 6) (n : Int) : Sem1 68 [.agg (bookC k k2 b), pi n] (pb (okK b n)) := by
  refine semC_of_exec' mixed Try.func68 (by kernel_rfl) (by kernel_rfl) ac68_ok 2 rfl (by decide) [(.tmp 4)] (by kernel_rfl) ?_
  intro hr C hC hI
  unfold ac68
  simp only [go_sem, Nat.reduceBEq, Nat.reduceAdd]
  refine call_pure2 hC (rkinds0_sem k k2 hz) rfl (PVleL_refl _) ?_
  rintro r rfl
  simp only [go_sem, Nat.reduceBEq, wrap_id (n := (nK b : Int) - 1) (by omega) (by omega)]
  refine call_pure2 hC (In_sem n 0 ((nK b : Int) - 1)) rfl (PVleL_refl _) ?_
  rintro r rfl
  simp only [go_sem, Nat.reduceBEq]
  refine retQ_one rfl (congrArg pb (decide_eq_decide.2 ?_))
  omega
def okW (b : MBook) (r : List Int) : Prop := r.length = nK b ∧ ∀ x ∈ r, 1 ≤ x ∧ x ≤ 31
instance (b : MBook) (r : List Int) : Decidable (okW b r) := by unfold okW; exact inferInstance
def rowsF (b : MBook) (i : Nat) : Bool := (b.makers.take i).all fun r => decide (okW b r)
def rowF (b : MBook) (r : List Int) (j : Nat) : Bool := decide (r.length = nK b) && (r.take j).all fun x => decide (1 ≤ x ∧ x ≤ 31)
def marksF (b : MBook) (j : Nat) : Bool := (b.seen.take j).all fun m => okK b m.1 && decide (1 ≤ m.2 ∧ m.2 ≤ 31)
theorem rowsF_next {b : MBook} {i : Nat} (h : i < b.makers.length) : rowsF b (i + 1) = (rowsF b i && decide (okW b b.makers[i])) := by
  unfold rowsF
  rw [List.take_succ_eq_append_getElem h, List.all_append]
  simp
theorem rowF_next {b : MBook} {r : List Int} {j : Nat} (h : j < r.length) : rowF b r (j + 1) = (rowF b r j && decide (1 ≤ r[j] ∧ r[j] ≤ 31)) := by
  unfold rowF
  rw [List.take_succ_eq_append_getElem h, List.all_append, Bool.and_assoc]
  simp
theorem rowF_end {b : MBook} {r : List Int} : rowF b r r.length = decide (okW b r) := by
  unfold rowF
  rw [List.take_length, Bool.eq_iff_iff, Bool.and_eq_true, decide_eq_true_eq, decide_eq_true_eq, List.all_eq_true]
  exact and_congr_right fun _ => forall_congr' fun x => imp_congr_right fun _ => decide_eq_true_iff
theorem rowF_no {b : MBook} {r : List Int} {j : Nat} (h : rowF b r j = false) : decide (okW b r) = false := by
  refine decide_eq_false fun ho => ?_
  have : rowF b r j = true := by
    unfold rowF
    rw [Bool.and_eq_true, decide_eq_true_eq, List.all_eq_true]
    exact ⟨ho.1, fun x hx => decide_eq_true (ho.2 x (List.mem_of_mem_take hx))⟩
  rw [this] at h
  cases h
theorem marksF_next {b : MBook} {j : Nat} (h : j < b.seen.length) : marksF b (j + 1) = (marksF b j && (okK b b.seen[j].1 && decide (1 ≤ b.seen[j].2 ∧ b.seen[j].2 ≤ 31))) := by
  unfold marksF
  rw [List.take_succ_eq_append_getElem h, List.all_append]
  simp
theorem rows_iff {b : MBook} : rowsF b b.makers.length = true ↔ okRows b := by
  unfold rowsF
  rw [List.take_length, List.all_eq_true]
  exact forall_congr' fun x => imp_congr_right fun _ => decide_eq_true_iff
theorem marks_iff {b : MBook} : marksF b b.seen.length = true ↔ okSeen b := by
  unfold marksF okSeen okK
  rw [List.take_length, List.all_eq_true]
  simp
theorem marks_no {b : MBook} {j : Nat} (h : marksF b j = false) : ¬ okSeen b := fun ho => by
  have h3 := marks_iff.2 ho
  have : marksF b j = true := by
    unfold marksF at h3 ⊢
    rw [List.take_length, List.all_eq_true] at h3
    exact List.all_eq_true.2 fun r hr => h3 r (List.mem_of_mem_take hr)
  rw [this] at h
  cases h
set_option maxRecDepth 100000 in
set_option maxHeartbeats 2000000 in
theorem rCheck_sem (k k2 : SK) (b : MBook) : Sem1 19 [.agg (bookC k k2 b)] (pi (if okBook b then 0 else 50)) := by
  have hp : ((2 : Int) ^ nK b) = ((2 ^ nK b : Nat) : Int) := by norm_cast
  by_cases a1 : (1 : Int) ≤ b.makers.length ∧ (b.makers.length : Int) ≤ 5
  rotate_left
  · have hno : ¬ okBook b := fun h => a1 (by have := h.1.1; omega)
    refine semC_of_exec' mixed Try.func19 (by kernel_rfl) (by kernel_rfl) ac19_ok 1 rfl (by decide) [(.tmp 2)] (by kernel_rfl) ?_
    intro hr C hC hI
    unfold ac19
    simp only [go_sem, Nat.reduceBEq, Nat.reduceAdd, List.length_map]
    refine call_pure2 hC (In_sem ..) rfl (PVleL_refl _) ?_
    rintro r rfl
    simp only [go_sem, Nat.reduceBEq, decide_eq_false a1]
    refine loop_k 0 (fun _ => True) [1] (fun i => [(3, .p (pb false)), (4, .p (pi 0))]) trivial rfl ⟨rfl, by simp, by simp⟩ (by simp [wkT, look, AV.lo]) ?_
    rintro i -
    simp only [go_sem, Nat.reduceBEq]
    refine loop_k 0 (fun _ => True) [1] (fun i => [(3, .p (pb false)), (6, .p (pi 0))]) trivial rfl ⟨rfl, by simp, by simp⟩ (by simp [wkT, look, AV.lo]) ?_
    rintro i -
    simp only [go_sem, Nat.reduceBEq]
    exact retQ_one rfl (by rw [if_neg hno])
  have hz : 0 < b.makers.length := by omega
  have hK := rkinds0_sem k k2 hz
  by_cases a2 : (b.seen.length : Int) ≤ 8
  rotate_left
  · have hno : ¬ okBook b := fun h => a2 (by have := h.2; omega)
    refine semC_of_exec' mixed Try.func19 (by kernel_rfl) (by kernel_rfl) ac19_ok 1 rfl (by decide) [(.tmp 2)] (by kernel_rfl) ?_
    intro hr C hC hI
    unfold ac19
    simp only [go_sem, Nat.reduceBEq, Nat.reduceAdd, List.length_map]
    refine call_pure2 hC (In_sem ..) rfl (PVleL_refl _) ?_
    rintro r rfl
    simp only [go_sem, Nat.reduceBEq, decide_eq_true a1, decide_eq_false a2, List.length_map]
    refine loop_k 0 (fun _ => True) [1] (fun i => [(3, .p (pb false)), (4, .p (pi 0))]) trivial rfl ⟨rfl, by simp, by simp⟩ (by simp [wkT, look, AV.lo]) ?_
    rintro i -
    simp only [go_sem, Nat.reduceBEq]
    refine loop_k 0 (fun _ => True) [1] (fun i => [(3, .p (pb false)), (6, .p (pi 0))]) trivial rfl ⟨rfl, by simp, by simp⟩ (by simp [wkT, look, AV.lo]) ?_
    rintro i -
    simp only [go_sem, Nat.reduceBEq]
    exact retQ_one rfl (by rw [if_neg hno])
  by_cases a3 : (1 : Int) ≤ (nK b : Int) ∧ (nK b : Int) ≤ 6
  rotate_left
  · have hno : ¬ okBook b := fun h => a3 (by have := h.1.2.1; omega)
    refine semC_of_exec' mixed Try.func19 (by kernel_rfl) (by kernel_rfl) ac19_ok 1 rfl (by decide) [(.tmp 2)] (by kernel_rfl) ?_
    intro hr C hC hI
    unfold ac19
    simp only [go_sem, Nat.reduceBEq, Nat.reduceAdd, List.length_map]
    refine call_pure2 hC (In_sem ..) rfl (PVleL_refl _) ?_
    rintro r rfl
    simp only [go_sem, Nat.reduceBEq, Nat.reduceAdd, decide_eq_true a1, decide_eq_true a2, List.length_map]
    refine call_pure2 hC (hK) rfl (PVleL_refl _) ?_
    rintro r rfl
    simp only [go_sem, Nat.reduceBEq]
    refine call_pure2 hC (In_sem ..) rfl (PVleL_refl _) ?_
    rintro r rfl
    simp only [go_sem, Nat.reduceBEq, decide_eq_false a3]
    refine loop_k 0 (fun _ => True) [1] (fun i => [(3, .p (pb false)), (4, .p (pi 0))]) trivial rfl ⟨rfl, by simp, by simp⟩ (by simp [wkT, look, AV.lo]) ?_
    rintro i -
    simp only [go_sem, Nat.reduceBEq]
    refine loop_k 0 (fun _ => True) [1] (fun i => [(3, .p (pb false)), (6, .p (pi 0))]) trivial rfl ⟨rfl, by simp, by simp⟩ (by simp [wkT, look, AV.lo]) ?_
    rintro i -
    simp only [go_sem, Nat.reduceBEq]
    exact retQ_one rfl (by rw [if_neg hno])
  by_cases a4 : (0 : Int) ≤ b.repairs ∧ b.repairs ≤ (nK b : Int)
  rotate_left
  · have hno : ¬ okBook b := fun h => a4 h.1.2.2.2.2.1
    refine semC_of_exec' mixed Try.func19 (by kernel_rfl) (by kernel_rfl) ac19_ok 1 rfl (by decide) [(.tmp 2)] (by kernel_rfl) ?_
    intro hr C hC hI
    unfold ac19
    simp only [go_sem, Nat.reduceBEq, Nat.reduceAdd, List.length_map]
    refine call_pure2 hC (In_sem ..) rfl (PVleL_refl _) ?_
    rintro r rfl
    simp only [go_sem, Nat.reduceBEq, Nat.reduceAdd, decide_eq_true a1, decide_eq_true a2, List.length_map]
    refine call_pure2 hC (hK) rfl (PVleL_refl _) ?_
    rintro r rfl
    simp only [go_sem, Nat.reduceBEq]
    refine call_pure2 hC (In_sem ..) rfl (PVleL_refl _) ?_
    rintro r rfl
    simp only [go_sem, Nat.reduceBEq, Nat.reduceAdd, decide_eq_true a3, Bool.false_eq_true]
    refine call_pure2 hC (hK) rfl (PVleL_refl _) ?_
    rintro r rfl
    simp only [go_sem, Nat.reduceBEq]
    refine call_pure2 hC (In_sem ..) rfl (PVleL_refl _) ?_
    rintro r rfl
    simp only [go_sem, Nat.reduceBEq, decide_eq_false a4]
    refine loop_k 0 (fun _ => True) [1] (fun i => [(3, .p (pb false)), (4, .p (pi 0))]) trivial rfl ⟨rfl, by simp, by simp⟩ (by simp [wkT, look, AV.lo]) ?_
    rintro i -
    simp only [go_sem, Nat.reduceBEq]
    refine loop_k 0 (fun _ => True) [1] (fun i => [(3, .p (pb false)), (6, .p (pi 0))]) trivial rfl ⟨rfl, by simp, by simp⟩ (by simp [wkT, look, AV.lo]) ?_
    rintro i -
    simp only [go_sem, Nat.reduceBEq]
    exact retQ_one rfl (by rw [if_neg hno])
  by_cases a5 : (0 : Int) ≤ b.fixed ∧ b.fixed ≤ ((2 ^ nK b : Nat) : Int) - 1
  rotate_left
  · have hno : ¬ okBook b := fun h => a5 (by have := h.1.2.2.2.2.2; omega)
    refine semC_of_exec' mixed Try.func19 (by kernel_rfl) (by kernel_rfl) ac19_ok 1 rfl (by decide) [(.tmp 2)] (by kernel_rfl) ?_
    intro hr C hC hI
    unfold ac19
    simp only [go_sem, Nat.reduceBEq, Nat.reduceAdd, List.length_map]
    refine call_pure2 hC (In_sem ..) rfl (PVleL_refl _) ?_
    rintro r rfl
    simp only [go_sem, Nat.reduceBEq, Nat.reduceAdd, decide_eq_true a1, decide_eq_true a2, List.length_map]
    refine call_pure2 hC (hK) rfl (PVleL_refl _) ?_
    rintro r rfl
    simp only [go_sem, Nat.reduceBEq]
    refine call_pure2 hC (In_sem ..) rfl (PVleL_refl _) ?_
    rintro r rfl
    simp only [go_sem, Nat.reduceBEq, Nat.reduceAdd, decide_eq_true a3, Bool.false_eq_true]
    refine call_pure2 hC (hK) rfl (PVleL_refl _) ?_
    rintro r rfl
    simp only [go_sem, Nat.reduceBEq]
    refine call_pure2 hC (In_sem ..) rfl (PVleL_refl _) ?_
    rintro r rfl
    simp only [go_sem, Nat.reduceBEq, Nat.reduceAdd, decide_eq_true a4, Bool.false_eq_true]
    refine call_pure2 hC (hK) rfl (PVleL_refl _) ?_
    rintro r rfl
    simp only [go_sem, Nat.reduceBEq, bin_shl (show ¬ (nK b : Int) < 0 by omega), shl6 (m := nK b) (by omega), shl6m (m := nK b) (by omega)]
    refine call_pure2 hC (In_sem ..) rfl (PVleL_refl _) ?_
    rintro r rfl
    simp only [go_sem, Nat.reduceBEq, decide_eq_false a5]
    refine loop_k 0 (fun _ => True) [1] (fun i => [(3, .p (pb false)), (4, .p (pi 0))]) trivial rfl ⟨rfl, by simp, by simp⟩ (by simp [wkT, look, AV.lo]) ?_
    rintro i -
    simp only [go_sem, Nat.reduceBEq]
    refine loop_k 0 (fun _ => True) [1] (fun i => [(3, .p (pb false)), (6, .p (pi 0))]) trivial rfl ⟨rfl, by simp, by simp⟩ (by simp [wkT, look, AV.lo]) ?_
    rintro i -
    simp only [go_sem, Nat.reduceBEq]
    exact retQ_one rfl (by rw [if_neg hno])
  refine semC_of_exec' mixed Try.func19 (by kernel_rfl) (by kernel_rfl) ac19_ok 1 rfl (by decide) [(.tmp 2)] (by kernel_rfl) ?_
  intro hr C hC hI
  unfold ac19
  simp only [go_sem, Nat.reduceBEq, Nat.reduceAdd, List.length_map]
  refine call_pure2 hC (In_sem ..) rfl (PVleL_refl _) ?_
  rintro r rfl
  simp only [go_sem, Nat.reduceBEq, Nat.reduceAdd, decide_eq_true a1, decide_eq_true a2, List.length_map]
  refine call_pure2 hC (hK) rfl (PVleL_refl _) ?_
  rintro r rfl
  simp only [go_sem, Nat.reduceBEq]
  refine call_pure2 hC (In_sem ..) rfl (PVleL_refl _) ?_
  rintro r rfl
  simp only [go_sem, Nat.reduceBEq, Nat.reduceAdd, decide_eq_true a3, Bool.false_eq_true]
  refine call_pure2 hC (hK) rfl (PVleL_refl _) ?_
  rintro r rfl
  simp only [go_sem, Nat.reduceBEq]
  refine call_pure2 hC (In_sem ..) rfl (PVleL_refl _) ?_
  rintro r rfl
  simp only [go_sem, Nat.reduceBEq, Nat.reduceAdd, decide_eq_true a4, Bool.false_eq_true]
  refine call_pure2 hC (hK) rfl (PVleL_refl _) ?_
  rintro r rfl
  simp only [go_sem, Nat.reduceBEq, bin_shl (show ¬ (nK b : Int) < 0 by omega), shl6 (m := nK b) (by omega), shl6m (m := nK b) (by omega)]
  refine call_pure2 hC (In_sem ..) rfl (PVleL_refl _) ?_
  rintro r rfl
  simp only [go_sem, Nat.reduceBEq, decide_eq_true a5]
  refine loop_g (α := Nat × Bool) (fun a => a.1 ≤ b.makers.length ∧ a.2 = rowsF b a.1 ∧ (a.2 = false → 0 < a.1)) (fun a => b.makers.length - a.1) [1] (fun a => [(3, .p (pb a.2)), (4, .p (pi a.1))]) (fun _ => [.cells ((bookC k k2 b).map .p)]) (fun _ => []) (0, true) ⟨by omega, rfl, fun h => by cases h⟩ (by simp [Wk, wkT, wkL, look, AV.lo, AV.lo.loL, upS_eq, keepS_nil, keepS_cons]) ?_
  rintro ⟨i, ok⟩ ⟨hi, hok, -⟩
  replace hi : i ≤ b.makers.length := hi
  replace hok : ok = rowsF b i := hok
  cases ok
  · have hno : ¬ okBook b := fun h => by
      have h3 := rows_iff.2 h.1.2.2.1
      have : rowsF b i = true := by
        unfold rowsF at h3 ⊢
        rw [List.take_length, List.all_eq_true] at h3
        exact List.all_eq_true.2 fun r hr => h3 r (List.mem_of_mem_take hr)
      rw [this] at hok
      cases hok
    simp only [go_sem, Nat.reduceBEq]
    refine loop_k 0 (fun _ => True) [1] (fun i => [(3, .p (pb false)), (6, .p (pi 0))]) trivial rfl ⟨rfl, by simp, by simp⟩ (by simp [wkT, look, AV.lo]) ?_
    rintro i -
    simp only [go_sem, Nat.reduceBEq]
    exact retQ_one rfl (by rw [if_neg hno])
  · simp only [go_sem, Nat.reduceBEq, List.length_map]
    refine ⟨fun c5 => ?_, fun c5 => ?_⟩
    · have hi2 : i < b.makers.length := by omega
      have hrn := rowsF_next hi2
      rw [← hok, Bool.true_and] at hrn
      have ei := iadr_map (f := fun h => [pis h]) (kd := k) (sz := 1) hi2
      obtain ⟨row, erow⟩ : ∃ row, b.makers[i] = row := ⟨_, rfl⟩
      rw [erow] at hrn ei
      have hd : decide ((row.length : Int) = (nK b : Int)) = decide (row.length = nK b) := decide_eq_decide.2 (by omega)
      simp only [go_sem, Nat.reduceBEq, Nat.reduceAdd, ei, List.length_map]
      refine call_pure2 hC (hK) rfl (PVleL_refl _) ?_
      rintro r rfl
      simp only [go_sem, Nat.reduceBEq, hd]
      refine loop_g (α := Nat × Bool) (fun a => a.1 ≤ nK b ∧ a.2 = rowF b row a.1) (fun a => nK b - a.1) [1, 4] (fun a => [(3, .p (pb a.2)), (5, .p (pi a.1))]) (fun _ => [.cells ((bookC k k2 b).map .p)]) (fun _ => []) (0, decide (row.length = nK b)) ⟨by omega, by simp [rowF]⟩ (by simp [Wk, wkT, wkL, look, AV.lo, AV.lo.loL, upS_eq, keepS_nil, keepS_cons]) ?_
      rintro ⟨j, fl⟩ ⟨hj, hfl⟩
      replace hj : j ≤ nK b := hj
      replace hfl : fl = rowF b row j := hfl
      cases fl
      · rw [rowF_no hfl.symm] at hrn
        simp only [go_sem, Nat.reduceBEq, wrap_succ (k := i) (by omega)]
        exact ⟨⟨(i + 1, false), hi2, hrn.symm, fun _ => Nat.succ_pos i⟩, by simp only; omega, by simp [Wk, wkT, wkL, look, AV.lo, AV.lo.loL, ABlk.toZ]⟩
      · have hrl : row.length = nK b := by
          unfold rowF at hfl
          have := (Bool.and_eq_true _ _ ▸ hfl.symm : _ ∧ _).1
          exact of_decide_eq_true this
        simp only [go_sem, Nat.reduceBEq, Nat.reduceAdd]
        refine call_pure2 hC (hK) rfl (PVleL_refl _) ?_
        rintro r rfl
        simp only [go_sem, Nat.reduceBEq]
        refine ⟨fun d5 => ?_, fun d5 => ?_⟩
        · have hjl : j < row.length := by omega
          have hnx := rowF_next (b := b) hjl
          rw [← hfl, Bool.true_and] at hnx
          simp only [go_sem, Nat.reduceBEq, ei, iadr_pis hjl]
          refine call_pure2 hC (In_sem ..) rfl (PVleL_refl _) ?_
          rintro r rfl
          simp only [go_sem, Nat.reduceBEq, wrap_succ (k := j) (by omega)]
          exact ⟨⟨(j + 1, decide (1 ≤ row[j] ∧ row[j] ≤ 31)), by omega, hnx.symm⟩, by simp only; omega, by simp [Wk, wkT, wkL, look, AV.lo, AV.lo.loL, ABlk.toZ]⟩
        · have hjn : j = row.length := by omega
          rw [hjn, rowF_end] at hfl
          rw [← hfl] at hrn
          simp only [go_sem, wrap_succ (k := i) (by omega)]
          exact ⟨⟨(i + 1, true), hi2, hrn.symm, fun h => by cases h⟩, by simp only; omega, by simp [Wk, wkT, wkL, look, AV.lo, AV.lo.loL, ABlk.toZ]⟩
    · have hin : i = b.makers.length := by omega
      subst hin
      have h3 := rows_iff.1 hok.symm
      refine loop_g (α := Nat × Bool) (fun a => a.1 ≤ b.seen.length ∧ a.2 = marksF b a.1) (fun a => b.seen.length - a.1) [1] (fun a => [(3, .p (pb a.2)), (6, .p (pi a.1))]) (fun _ => [.cells ((bookC k k2 b).map .p)]) (fun _ => []) (0, true) ⟨by omega, rfl⟩ (by simp [Wk, wkT, wkL, look, AV.lo, AV.lo.loL, upS_eq, keepS_nil, keepS_cons]) ?_
      rintro ⟨j, fl⟩ ⟨hj, hfl⟩
      replace hj : j ≤ b.seen.length := hj
      replace hfl : fl = marksF b j := hfl
      cases fl
      · have hno : ¬ okBook b := fun h => marks_no hfl.symm h.1.2.2.2.1
        simp only [go_sem, Nat.reduceBEq]
        exact retQ_one rfl (by rw [if_neg hno])
      · simp only [go_sem, Nat.reduceBEq, Nat.reduceAdd, List.length_map]
        refine ⟨fun d5 => ?_, fun d5 => ?_⟩
        · have hj2 : j < b.seen.length := by omega
          have hnx := marksF_next hj2
          rw [← hfl, Bool.true_and] at hnx
          have ej := iadr_map (f := fun m : Int × Int => [pi m.1, pi m.2]) (kd := k2) (sz := 2) hj2
          obtain ⟨z, hz2⟩ : ∃ z, okK b b.seen[j].1 = z := ⟨_, rfl⟩
          rw [hz2] at hnx
          have hIK := risKind0_sem k k2 hz (by omega) b.seen[j].1
          rw [hz2] at hIK
          simp only [go_sem, Nat.reduceBEq, ej]
          refine call_pure2 hC (hIK) rfl (PVleL_refl _) ?_
          rintro r rfl
          simp only [go_sem, Nat.reduceBEq]
          cases z
          · simp only [go_sem, Nat.reduceBEq, wrap_succ (k := j) (by omega)]
            exact ⟨⟨(j + 1, false), hj2, hnx.symm⟩, by simp only; omega, by simp [Wk, wkT, wkL, look, AV.lo, AV.lo.loL, ABlk.toZ]⟩
          · simp only [go_sem, Nat.reduceBEq, ej]
            refine call_pure2 hC (In_sem ..) rfl (PVleL_refl _) ?_
            rintro r rfl
            simp only [go_sem, Nat.reduceBEq, wrap_succ (k := j) (by omega)]
            exact ⟨⟨(j + 1, decide (1 ≤ b.seen[j].2 ∧ b.seen[j].2 ≤ 31)), hj2, hnx.symm⟩, by simp only; omega, by simp [Wk, wkT, wkL, look, AV.lo, AV.lo.loL, ABlk.toZ]⟩
        · have hjn : j = b.seen.length := by omega
          subst hjn
          have h4 := marks_iff.1 hfl.symm
          have hyes : okBook b := ⟨⟨by omega, by omega, h3, h4, a4, by omega⟩, by omega⟩
          exact retQ_one rfl (by rw [if_pos hyes])
end Go.Proofs.Ythaplmohhbdfeaa.Mk
