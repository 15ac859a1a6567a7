/- Contracts of the reference of maker: which books are valid. Mathematics of mend: what can have been changed; all truths. Mathematics of mend: costs, shares, spans. Mathematics of mend: whose horse it can be for a bill; the job of which the most is lost. -/
import Derived.Test.YtlcpplkbmlmmbaaGreatPays04
import Derived.Test.YtlcpplkbmlmmbaaGreatGa16
namespace Go.Proofs.YtlcpplkbmlmmbaaGreat.Mk
open Go.RowKit Ls
def ac59 : AC := (AC.seq (AC.ops [(AOp.mk (some 1) (AK.box 4 (AX.t 0)) none 0 false true), (AOp.mk (some 2) (AK.mv (AX.c (PV.val (Value.int IntKind.i64 0)))) none 1 false true)]) (AC.seq (AC.ops [(AOp.mk (some 7) (AK.fadr 0 (AX.t 1)) none 0 false true), (AOp.mk (some 8) (AK.ld none (AX.t 7)) none 1 false true), (AOp.mk (some 9) (AK.len (AX.t 8)) none 2 false true), (AOp.mk (some 10) (AK.call 60 [(AX.t 9), (AX.c (PV.val (Value.int IntKind.i64 1))), (AX.c (PV.val (Value.int IntKind.i64 5)))]) none 3 false true), (AOp.mk (some 11) (AK.mv (AX.t 10)) none 4 false true), (AOp.mk (some 12) (AK.fadr 1 (AX.t 1)) (some (11, true)) 5 false true), (AOp.mk (some 13) (AK.ld none (AX.t 12)) (some (11, true)) 6 false true), (AOp.mk (some 14) (AK.len (AX.t 13)) (some (11, true)) 7 false true), (AOp.mk (some 15) (AK.bin false BinOp.leq (AX.t 14) (AX.c (PV.val (Value.int IntKind.i64 8)))) (some (11, true)) 8 false true), (AOp.mk (some 16) (AK.pick (AX.t 11) (AX.t 15) (AX.c (PV.val (Value.bool false)))) none 9 false true), (AOp.mk (some 3) (AK.mv (AX.t 16)) none 10 false true)]) (AC.seq (AC.ops [(AOp.mk (some 17) (AK.mv (AX.t 3)) none 0 true true), (AOp.mk (some 18) (AK.mv (AX.t 17)) none 1 true true), (AOp.mk (some 19) (AK.ld (some 4) (AX.t 1)) (some (18, true)) 2 true true), (AOp.mk (some 20) (AK.call 96 [(AX.t 19)]) (some (18, true)) 3 false true), (AOp.mk (some 21) (AK.call 60 [(AX.t 20), (AX.c (PV.val (Value.int IntKind.i64 1))), (AX.c (PV.val (Value.int IntKind.i64 6)))]) (some (18, true)) 4 false true), (AOp.mk (some 22) (AK.pick (AX.t 18) (AX.t 21) (AX.c (PV.val (Value.bool false)))) none 5 true true), (AOp.mk (some 23) (AK.mv (AX.t 22)) none 6 true true), (AOp.mk (some 24) (AK.fadr 2 (AX.t 1)) (some (23, true)) 7 true false), (AOp.mk (some 25) (AK.ld none (AX.t 24)) (some (23, true)) 8 true false), (AOp.mk (some 26) (AK.ld (some 4) (AX.t 1)) (some (23, true)) 9 true false), (AOp.mk (some 27) (AK.call 96 [(AX.t 26)]) (some (23, true)) 10 false false), (AOp.mk (some 28) (AK.call 60 [(AX.t 25), (AX.c (PV.val (Value.int IntKind.i64 0))), (AX.t 27)]) (some (23, true)) 11 false true), (AOp.mk (some 29) (AK.pick (AX.t 23) (AX.t 28) (AX.c (PV.val (Value.bool false)))) none 12 true true), (AOp.mk (some 30) (AK.mv (AX.t 29)) none 13 true true), (AOp.mk (some 31) (AK.fadr 3 (AX.t 1)) (some (30, true)) 14 true false), (AOp.mk (some 32) (AK.ld none (AX.t 31)) (some (30, true)) 15 true false), (AOp.mk (some 33) (AK.ld (some 4) (AX.t 1)) (some (30, true)) 16 true false), (AOp.mk (some 34) (AK.call 96 [(AX.t 33)]) (some (30, true)) 17 false false), (AOp.mk (some 35) (AK.bin false BinOp.shl (AX.c (PV.val (Value.int IntKind.i64 1))) (AX.t 34)) (some (30, true)) 18 true false), (AOp.mk (some 36) (AK.bin false BinOp.sub (AX.t 35) (AX.c (PV.val (Value.int IntKind.i64 1)))) (some (30, true)) 19 true false), (AOp.mk (some 37) (AK.call 60 [(AX.t 32), (AX.c (PV.val (Value.int IntKind.i64 0))), (AX.t 36)]) (some (30, true)) 20 false true), (AOp.mk (some 38) (AK.pick (AX.t 30) (AX.t 37) (AX.c (PV.val (Value.bool false)))) none 21 true true), (AOp.mk (some 3) (AK.mv (AX.t 38)) none 22 true true)]) (AC.seq (AC.seq (AC.ops [(AOp.mk (some 4) (AK.mv (AX.c (PV.val (Value.int IntKind.i64 0)))) none 0 false true)]) (AC.block 0 (AC.loop (AC.seq (AC.seq (AC.ops [(AOp.mk (some 39) (AK.mv (AX.t 3)) none 0 false true), (AOp.mk (some 40) (AK.mv (AX.t 39)) none 1 false true), (AOp.mk (some 41) (AK.mv (AX.t 4)) (some (40, true)) 2 false true), (AOp.mk (some 42) (AK.fadr 0 (AX.t 1)) (some (40, true)) 3 false true), (AOp.mk (some 43) (AK.ld none (AX.t 42)) (some (40, true)) 4 false true), (AOp.mk (some 44) (AK.len (AX.t 43)) (some (40, true)) 5 false true), (AOp.mk (some 45) (AK.bin false BinOp.lss (AX.t 41) (AX.t 44)) (some (40, true)) 6 false true), (AOp.mk (some 46) (AK.pick (AX.t 40) (AX.t 45) (AX.c (PV.val (Value.bool false)))) none 7 false true)]) (AC.cond (AX.t 46) AC.skip (AC.exit 0))) (AC.seq (AC.block 1 (AC.seq (AC.ops [(AOp.mk (some 49) (AK.fadr 0 (AX.t 1)) none 0 true false), (AOp.mk (some 50) (AK.ld none (AX.t 49)) none 1 true false), (AOp.mk (some 51) (AK.mv (AX.t 4)) none 2 true false), (AOp.mk (some 52) (AK.iadrS 1 (AX.t 50) (AX.t 51)) none 3 true false), (AOp.mk (some 53) (AK.ld none (AX.t 52)) none 4 true false), (AOp.mk (some 54) (AK.len (AX.t 53)) none 5 true false), (AOp.mk (some 55) (AK.ld (some 4) (AX.t 1)) none 6 true false), (AOp.mk (some 56) (AK.call 96 [(AX.t 55)]) none 7 false false), (AOp.mk (some 57) (AK.bin false BinOp.eql (AX.t 54) (AX.t 56)) none 8 true true), (AOp.mk (some 3) (AK.mv (AX.t 57)) none 9 true true)]) (AC.seq (AC.ops [(AOp.mk (some 5) (AK.mv (AX.c (PV.val (Value.int IntKind.i64 0)))) none 0 false true)]) (AC.block 2 (AC.loop (AC.seq (AC.seq (AC.ops [(AOp.mk (some 58) (AK.mv (AX.t 3)) none 0 false true), (AOp.mk (some 59) (AK.mv (AX.t 58)) none 1 false true), (AOp.mk (some 60) (AK.mv (AX.t 5)) (some (59, true)) 2 false true), (AOp.mk (some 61) (AK.ld (some 4) (AX.t 1)) (some (59, true)) 3 false true), (AOp.mk (some 62) (AK.call 96 [(AX.t 61)]) (some (59, true)) 4 false true), (AOp.mk (some 63) (AK.bin false BinOp.lss (AX.t 60) (AX.t 62)) (some (59, true)) 5 false true), (AOp.mk (some 64) (AK.pick (AX.t 59) (AX.t 63) (AX.c (PV.val (Value.bool false)))) none 6 false true)]) (AC.cond (AX.t 64) AC.skip (AC.exit 2))) (AC.seq (AC.block 3 (AC.ops [(AOp.mk (some 67) (AK.fadr 0 (AX.t 1)) none 0 false true), (AOp.mk (some 68) (AK.ld none (AX.t 67)) none 1 false true), (AOp.mk (some 69) (AK.mv (AX.t 4)) none 2 false true), (AOp.mk (some 70) (AK.iadrS 1 (AX.t 68) (AX.t 69)) none 3 false true), (AOp.mk (some 71) (AK.ld none (AX.t 70)) none 4 false true), (AOp.mk (some 72) (AK.mv (AX.t 5)) none 5 false true), (AOp.mk (some 73) (AK.iadrS 1 (AX.t 71) (AX.t 72)) none 6 false true), (AOp.mk (some 74) (AK.ld none (AX.t 73)) none 7 false true), (AOp.mk (some 75) (AK.call 60 [(AX.t 74), (AX.c (PV.val (Value.int IntKind.i64 1))), (AX.c (PV.val (Value.int IntKind.i64 31)))]) none 8 false true), (AOp.mk (some 3) (AK.mv (AX.t 75)) none 9 false true)])) (AC.ops [(AOp.mk (some 65) (AK.mv (AX.t 5)) none 0 false true), (AOp.mk (some 66) (AK.bin false BinOp.add (AX.t 65) (AX.c (PV.val (Value.int IntKind.i64 1)))) none 1 false true), (AOp.mk (some 5) (AK.mv (AX.t 66)) none 2 false true)])))))))) (AC.ops [(AOp.mk (some 47) (AK.mv (AX.t 4)) none 0 false true), (AOp.mk (some 48) (AK.bin false BinOp.add (AX.t 47) (AX.c (PV.val (Value.int IntKind.i64 1)))) none 1 false true), (AOp.mk (some 4) (AK.mv (AX.t 48)) none 2 false true)])))))) (AC.seq (AC.seq (AC.ops [(AOp.mk (some 6) (AK.mv (AX.c (PV.val (Value.int IntKind.i64 0)))) none 0 false true)]) (AC.block 4 (AC.loop (AC.seq (AC.seq (AC.ops [(AOp.mk (some 76) (AK.mv (AX.t 3)) none 0 false true), (AOp.mk (some 77) (AK.mv (AX.t 76)) none 1 false true), (AOp.mk (some 78) (AK.mv (AX.t 6)) (some (77, true)) 2 false true), (AOp.mk (some 79) (AK.fadr 1 (AX.t 1)) (some (77, true)) 3 false true), (AOp.mk (some 80) (AK.ld none (AX.t 79)) (some (77, true)) 4 false true), (AOp.mk (some 81) (AK.len (AX.t 80)) (some (77, true)) 5 false true), (AOp.mk (some 82) (AK.bin false BinOp.lss (AX.t 78) (AX.t 81)) (some (77, true)) 6 false true), (AOp.mk (some 83) (AK.pick (AX.t 77) (AX.t 82) (AX.c (PV.val (Value.bool false)))) none 7 false true)]) (AC.cond (AX.t 83) AC.skip (AC.exit 4))) (AC.seq (AC.block 5 (AC.ops [(AOp.mk (some 86) (AK.ld (some 4) (AX.t 1)) none 0 true false), (AOp.mk (some 87) (AK.fadr 1 (AX.t 1)) none 1 true false), (AOp.mk (some 88) (AK.ld none (AX.t 87)) none 2 true false), (AOp.mk (some 89) (AK.mv (AX.t 6)) none 3 true false), (AOp.mk (some 90) (AK.iadrS 2 (AX.t 88) (AX.t 89)) none 4 true false), (AOp.mk (some 91) (AK.fadr 0 (AX.t 90)) none 5 true false), (AOp.mk (some 92) (AK.ld none (AX.t 91)) none 6 true false), (AOp.mk (some 93) (AK.call 97 [(AX.t 86), (AX.t 92)]) none 7 false true), (AOp.mk (some 94) (AK.mv (AX.t 93)) none 8 true true), (AOp.mk (some 95) (AK.fadr 1 (AX.t 1)) (some (94, true)) 9 true true), (AOp.mk (some 96) (AK.ld none (AX.t 95)) (some (94, true)) 10 true true), (AOp.mk (some 97) (AK.mv (AX.t 6)) (some (94, true)) 11 true false), (AOp.mk (some 98) (AK.iadrS 2 (AX.t 96) (AX.t 97)) (some (94, true)) 12 true true), (AOp.mk (some 99) (AK.fadr 1 (AX.t 98)) (some (94, true)) 13 true true), (AOp.mk (some 100) (AK.ld none (AX.t 99)) (some (94, true)) 14 true true), (AOp.mk (some 101) (AK.call 60 [(AX.t 100), (AX.c (PV.val (Value.int IntKind.i64 1))), (AX.c (PV.val (Value.int IntKind.i64 31)))]) (some (94, true)) 15 false true), (AOp.mk (some 102) (AK.pick (AX.t 94) (AX.t 101) (AX.c (PV.val (Value.bool false)))) none 16 true true), (AOp.mk (some 3) (AK.mv (AX.t 102)) none 17 true true)])) (AC.ops [(AOp.mk (some 84) (AK.mv (AX.t 6)) none 0 false true), (AOp.mk (some 85) (AK.bin false BinOp.add (AX.t 84) (AX.c (PV.val (Value.int IntKind.i64 1)))) none 1 false true), (AOp.mk (some 6) (AK.mv (AX.t 85)) none 2 false true)])))))) (AC.seq (AC.seq (AC.ops [(AOp.mk (some 103) (AK.mv (AX.t 3)) none 0 false true), (AOp.mk (some 104) (AK.un UnOp.not (AX.t 103)) none 1 false true)]) (AC.cond (AX.t 104) (AC.seq (AC.ops [(AOp.mk (some 2) (AK.mv (AX.c (PV.val (Value.int IntKind.i64 50)))) none 0 false true)]) AC.ret) AC.skip)) (AC.seq (AC.ops [(AOp.mk (some 2) (AK.mv (AX.c (PV.val (Value.int IntKind.i64 0)))) none 0 false true)]) AC.ret)))))))
theorem ac59_ok : cCode Tryz.prog (fun _ => false) Tryz.f59.ntmps (Tryz.f59.body.getD .skip) = some ac59 := by kernel_rfl
theorem rkinds0_sem (k k2 : SK) {b : MBook} (hz : 0 < b.makers.length) : Sem1 96 [.agg (bookC k k2 b)] (pi (nK b)) := by
  have hfl : b.makers[0].length = nK b := by
    unfold nK
    rw [List.getD_eq_getElem?_getD, List.getElem?_eq_getElem hz]
    rfl
  have e0 : iadrS' 1 (.p (.sl k 1 (rowsC b.makers))) (.p (pi 0)) = some (.p (.ptr [pis b.makers[0]] 0)) := iadr_map (f := fun h => [pis h]) (kd := k) (sz := 1) hz
  refine semC_of_exec' mixed Tryz.func96 (by kernel_rfl) (by kernel_rfl) ac96_ok 1 rfl (by decide) [(.tmp 2)] (by kernel_rfl) ?_
  intro hr C hC hI
  unfold ac96
  simp only [go_sem, Nat.reduceBEq, Nat.reduceAdd, e0, List.length_map, hfl]
  exact retQ_one rfl rfl
theorem risKind0_sem (k k2 : SK) {b : MBook} (hz : 0 < b.makers.length) (h6 : nK b ≤ 6) (n : Int) : Sem1 97 [.agg (bookC k k2 b), pi n] (pb (okK b n)) := by
  refine semC_of_exec' mixed Tryz.func97 (by kernel_rfl) (by kernel_rfl) ac97_ok 2 rfl (by decide) [(.tmp 4)] (by kernel_rfl) ?_
  intro hr C hC hI
  unfold ac97
  simp only [go_sem, Nat.reduceBEq, Nat.reduceAdd]
  refine call_pure2 hC (rkinds0_sem k k2 hz) rfl (PVleL_refl _) ?_
  rintro r rfl
  simp only [go_sem, Nat.reduceBEq, wrap_id (n := (nK b : Int) - 1) (by omega) (by omega)]
  refine call_pure2 hC (In_sem n 0 ((nK b : Int) - 1)) rfl (PVleL_refl _) ?_
  rintro r rfl
  simp only [go_sem, Nat.reduceBEq]
  refine retQ_one rfl (congrArg pb (decide_eq_decide.2 ?_))
  omega
def okW (b : MBook) (r : List Int) : Prop := r.length = nK b ∧ ∀ x ∈ r, 1 ≤ x ∧ x ≤ 31
instance (b : MBook) (r : List Int) : Decidable (okW b r) := by unfold okW; exact inferInstance
def rowsF (b : MBook) (i : Nat) : Bool := (b.makers.take i).all fun r => decide (okW b r)
def rowF (b : MBook) (r : List Int) (j : Nat) : Bool := decide (r.length = nK b) && (r.take j).all fun x => decide (1 ≤ x ∧ x ≤ 31)
def marksF (b : MBook) (j : Nat) : Bool := (b.seen.take j).all fun m => okK b m.1 && decide (1 ≤ m.2 ∧ m.2 ≤ 31)
theorem rowsF_next {b : MBook} {i : Nat} (h : i < b.makers.length) : rowsF b (i + 1) = (rowsF b i && decide (okW b b.makers[i])) := by
  unfold rowsF
  rw [List.take_succ_eq_append_getElem h, List.all_append]
  simp
theorem rowF_next {b : MBook} {r : List Int} {j : Nat} (h : j < r.length) : rowF b r (j + 1) = (rowF b r j && decide (1 ≤ r[j] ∧ r[j] ≤ 31)) := by
  unfold rowF
  rw [List.take_succ_eq_append_getElem h, List.all_append, Bool.and_assoc]
  simp
theorem rowF_end {b : MBook} {r : List Int} : rowF b r r.length = decide (okW b r) := by
  unfold rowF
  rw [List.take_length, Bool.eq_iff_iff, Bool.and_eq_true, decide_eq_true_eq, decide_eq_true_eq, List.all_eq_true]
  exact and_congr_right fun _ => forall_congr' fun x => imp_congr_right fun _ => decide_eq_true_iff
theorem rowF_no {b : MBook} {r : List Int} {j : Nat} (h : rowF b r j = false) : decide (okW b r) = false := by
  refine decide_eq_false fun ho => ?_
  have : rowF b r j = true := by
    unfold rowF
    rw [Bool.and_eq_true, decide_eq_true_eq, List.all_eq_true]
    exact ⟨ho.1, fun x hx => decide_eq_true (ho.2 x (List.mem_of_mem_take hx))⟩
  rw [this] at h
  cases h
theorem marksF_next {b : MBook} {j : Nat} (h : j < b.seen.length) : marksF b (j + 1) = (marksF b j && (okK b b.seen[j].1 && decide (1 ≤ b.seen[j].2 ∧ b.seen[j].2 ≤ 31))) := by
  unfold marksF
  rw [List.take_succ_eq_append_getElem h, List.all_append]
  simp
theorem rows_iff {b : MBook} : rowsF b b.makers.length = true ↔ okRows b := by
  unfold rowsF
  rw [List.take_length, List.all_eq_true]
  exact forall_congr' fun x => imp_congr_right fun _ => decide_eq_true_iff
theorem marks_iff {b : MBook} : marksF b b.seen.length = true ↔ okSeen b := by
  unfold marksF okSeen okK
  rw [List.take_length, List.all_eq_true]
  simp
theorem marks_no {b : MBook} {j : Nat} (h : marksF b j = false) : ¬ okSeen b := fun ho => by
  have h3 := marks_iff.2 ho
  have : marksF b j = true := by
    unfold marksF at h3 ⊢
    rw [List.take_length, List.all_eq_true] at h3
    exact List.all_eq_true.2 fun r hr => h3 r (List.mem_of_mem_take hr)
  rw [this] at h
  cases h
set_option maxRecDepth 100000 in
set_option maxHeartbeats 2000000 in
theorem rCheck_sem (k k2 : SK) (b : MBook) : Sem1 59 [.agg (bookC k k2 b)] (pi (if okBook b then 0 else 50)) := by
  have hp : ((2 : Int) ^ nK b) = ((2 ^ nK b : Nat) : Int) := by norm_cast
  by_cases a1 : (1 : Int) ≤ b.makers.length ∧ (b.makers.length : Int) ≤ 5
  rotate_left
  · have hno : ¬ okBook b := fun h => a1 (by have := h.1.1; omega)
    refine semC_of_exec' mixed Tryz.func59 (by kernel_rfl) (by kernel_rfl) ac59_ok 1 rfl (by decide) [(.tmp 2)] (by kernel_rfl) ?_
    intro hr C hC hI
    unfold ac59
    simp only [go_sem, Nat.reduceBEq, Nat.reduceAdd, List.length_map]
    refine call_pure2 hC (In_sem ..) rfl (PVleL_refl _) ?_
    rintro r rfl
    simp only [go_sem, Nat.reduceBEq, decide_eq_false a1]
    refine loop_k 0 (fun _ => True) [1] (fun i => [(3, .p (pb false)), (4, .p (pi 0))]) trivial rfl ⟨rfl, by simp, by simp⟩ (by simp [wkT, look, AV.lo]) ?_
    rintro i -
    simp only [go_sem, Nat.reduceBEq]
    refine loop_k 0 (fun _ => True) [1] (fun i => [(3, .p (pb false)), (6, .p (pi 0))]) trivial rfl ⟨rfl, by simp, by simp⟩ (by simp [wkT, look, AV.lo]) ?_
    rintro i -
    simp only [go_sem, Nat.reduceBEq]
    exact retQ_one rfl (by rw [if_neg hno])
  have hz : 0 < b.makers.length := by omega
  have hK := rkinds0_sem k k2 hz
  by_cases a2 : (b.seen.length : Int) ≤ 8
  rotate_left
  · have hno : ¬ okBook b := fun h => a2 (by have := h.2; omega)
    refine semC_of_exec' mixed Tryz.func59 (by kernel_rfl) (by kernel_rfl) ac59_ok 1 rfl (by decide) [(.tmp 2)] (by kernel_rfl) ?_
    intro hr C hC hI
    unfold ac59
    simp only [go_sem, Nat.reduceBEq, Nat.reduceAdd, List.length_map]
    refine call_pure2 hC (In_sem ..) rfl (PVleL_refl _) ?_
    rintro r rfl
    simp only [go_sem, Nat.reduceBEq, decide_eq_true a1, decide_eq_false a2, List.length_map]
    refine loop_k 0 (fun _ => True) [1] (fun i => [(3, .p (pb false)), (4, .p (pi 0))]) trivial rfl ⟨rfl, by simp, by simp⟩ (by simp [wkT, look, AV.lo]) ?_
    rintro i -
    simp only [go_sem, Nat.reduceBEq]
    refine loop_k 0 (fun _ => True) [1] (fun i => [(3, .p (pb false)), (6, .p (pi 0))]) trivial rfl ⟨rfl, by simp, by simp⟩ (by simp [wkT, look, AV.lo]) ?_
    rintro i -
    simp only [go_sem, Nat.reduceBEq]
    exact retQ_one rfl (by rw [if_neg hno])
  by_cases a3 : (1 : Int) ≤ (nK b : Int) ∧ (nK b : Int) ≤ 6
  rotate_left
  · have hno : ¬ okBook b := fun h => a3 (by have := h.1.2.1; omega)
    refine semC_of_exec' mixed Tryz.func59 (by kernel_rfl) (by kernel_rfl) ac59_ok 1 rfl (by decide) [(.tmp 2)] (by kernel_rfl) ?_
    intro hr C hC hI
    unfold ac59
    simp only [go_sem, Nat.reduceBEq, Nat.reduceAdd, List.length_map]
    refine call_pure2 hC (In_sem ..) rfl (PVleL_refl _) ?_
    rintro r rfl
    simp only [go_sem, Nat.reduceBEq, Nat.reduceAdd, decide_eq_true a1, decide_eq_true a2, List.length_map]
    refine call_pure2 hC (hK) rfl (PVleL_refl _) ?_
    rintro r rfl
    simp only [go_sem, Nat.reduceBEq]
    refine call_pure2 hC (In_sem ..) rfl (PVleL_refl _) ?_
    rintro r rfl
    simp only [go_sem, Nat.reduceBEq, decide_eq_false a3]
    refine loop_k 0 (fun _ => True) [1] (fun i => [(3, .p (pb false)), (4, .p (pi 0))]) trivial rfl ⟨rfl, by simp, by simp⟩ (by simp [wkT, look, AV.lo]) ?_
    rintro i -
    simp only [go_sem, Nat.reduceBEq]
    refine loop_k 0 (fun _ => True) [1] (fun i => [(3, .p (pb false)), (6, .p (pi 0))]) trivial rfl ⟨rfl, by simp, by simp⟩ (by simp [wkT, look, AV.lo]) ?_
    rintro i -
    simp only [go_sem, Nat.reduceBEq]
    exact retQ_one rfl (by rw [if_neg hno])
  by_cases a4 : (0 : Int) ≤ b.repairs ∧ b.repairs ≤ (nK b : Int)
  rotate_left
  · have hno : ¬ okBook b := fun h => a4 h.1.2.2.2.2.1
    refine semC_of_exec' mixed Tryz.func59 (by kernel_rfl) (by kernel_rfl) ac59_ok 1 rfl (by decide) [(.tmp 2)] (by kernel_rfl) ?_
    intro hr C hC hI
    unfold ac59
    simp only [go_sem, Nat.reduceBEq, Nat.reduceAdd, List.length_map]
    refine call_pure2 hC (In_sem ..) rfl (PVleL_refl _) ?_
    rintro r rfl
    simp only [go_sem, Nat.reduceBEq, Nat.reduceAdd, decide_eq_true a1, decide_eq_true a2, List.length_map]
    refine call_pure2 hC (hK) rfl (PVleL_refl _) ?_
    rintro r rfl
    simp only [go_sem, Nat.reduceBEq]
    refine call_pure2 hC (In_sem ..) rfl (PVleL_refl _) ?_
    rintro r rfl
    simp only [go_sem, Nat.reduceBEq, Nat.reduceAdd, decide_eq_true a3, Bool.false_eq_true]
    refine call_pure2 hC (hK) rfl (PVleL_refl _) ?_
    rintro r rfl
    simp only [go_sem, Nat.reduceBEq]
    refine call_pure2 hC (In_sem ..) rfl (PVleL_refl _) ?_
    rintro r rfl
    simp only [go_sem, Nat.reduceBEq, decide_eq_false a4]
    refine loop_k 0 (fun _ => True) [1] (fun i => [(3, .p (pb false)), (4, .p (pi 0))]) trivial rfl ⟨rfl, by simp, by simp⟩ (by simp [wkT, look, AV.lo]) ?_
    rintro i -
    simp only [go_sem, Nat.reduceBEq]
    refine loop_k 0 (fun _ => True) [1] (fun i => [(3, .p (pb false)), (6, .p (pi 0))]) trivial rfl ⟨rfl, by simp, by simp⟩ (by simp [wkT, look, AV.lo]) ?_
    rintro i -
    simp only [go_sem, Nat.reduceBEq]
    exact retQ_one rfl (by rw [if_neg hno])
  by_cases a5 : (0 : Int) ≤ b.fixed ∧ b.fixed ≤ ((2 ^ nK b : Nat) : Int) - 1
  rotate_left
  · have hno : ¬ okBook b := fun h => a5 (by have := h.1.2.2.2.2.2; omega)
    refine semC_of_exec' mixed Tryz.func59 (by kernel_rfl) (by kernel_rfl) ac59_ok 1 rfl (by decide) [(.tmp 2)] (by kernel_rfl) ?_
    intro hr C hC hI
    unfold ac59
    simp only [go_sem, Nat.reduceBEq, Nat.reduceAdd, List.length_map]
    refine call_pure2 hC (In_sem ..) rfl (PVleL_refl _) ?_
    rintro r rfl
    simp only [go_sem, Nat.reduceBEq, Nat.reduceAdd, decide_eq_true a1, decide_eq_true a2, List.length_map]
    refine call_pure2 hC (hK) rfl (PVleL_refl _) ?_
    rintro r rfl
    simp only [go_sem, Nat.reduceBEq]
    refine call_pure2 hC (In_sem ..) rfl (PVleL_refl _) ?_
    rintro r rfl
    simp only [go_sem, Nat.reduceBEq, Nat.reduceAdd, decide_eq_true a3, Bool.false_eq_true]
    refine call_pure2 hC (hK) rfl (PVleL_refl _) ?_
    rintro r rfl
    simp only [go_sem, Nat.reduceBEq]
    refine call_pure2 hC (In_sem ..) rfl (PVleL_refl _) ?_
    rintro r rfl
    simp only [go_sem, Nat.reduceBEq, Nat.reduceAdd, decide_eq_true a4, Bool.false_eq_true]
    refine call_pure2 hC (hK) rfl (PVleL_refl _) ?_
    rintro r rfl
    simp only [go_sem, Nat.reduceBEq, bin_shl (show ¬ (nK b : Int) < 0 by omega), shl6 (m := nK b) (by omega), shl6m (m := nK b) (by omega)]
    refine call_pure2 hC (In_sem ..) rfl (PVleL_refl _) ?_
    rintro r rfl
    simp only [go_sem, Nat.reduceBEq, decide_eq_false a5]
    refine loop_k 0 (fun _ => True) [1] (fun i => [(3, .p (pb false)), (4, .p (pi 0))]) trivial rfl ⟨rfl, by simp, by simp⟩ (by simp [wkT, look, AV.lo]) ?_
    rintro i -
    simp only [go_sem, Nat.reduceBEq]
    refine loop_k 0 (fun _ => True) [1] (fun i => [(3, .p (pb false)), (6, .p (pi 0))]) trivial rfl ⟨rfl, by simp, by simp⟩ (by simp [wkT, look, AV.lo]) ?_
    rintro i -
    simp only [go_sem, Nat.reduceBEq]
    exact retQ_one rfl (by rw [if_neg hno])
  refine semC_of_exec' mixed Tryz.func59 (by kernel_rfl) (by kernel_rfl) ac59_ok 1 rfl (by decide) [(.tmp 2)] (by kernel_rfl) ?_
  intro hr C hC hI
  unfold ac59
  simp only [go_sem, Nat.reduceBEq, Nat.reduceAdd, List.length_map]
  refine call_pure2 hC (In_sem ..) rfl (PVleL_refl _) ?_
  rintro r rfl
  simp only [go_sem, Nat.reduceBEq, Nat.reduceAdd, decide_eq_true a1, decide_eq_true a2, List.length_map]
  refine call_pure2 hC (hK) rfl (PVleL_refl _) ?_
  rintro r rfl
  simp only [go_sem, Nat.reduceBEq]
  refine call_pure2 hC (In_sem ..) rfl (PVleL_refl _) ?_
  rintro r rfl
  simp only [go_sem, Nat.reduceBEq, Nat.reduceAdd, decide_eq_true a3, Bool.false_eq_true]
  refine call_pure2 hC (hK) rfl (PVleL_refl _) ?_
  rintro r rfl
  simp only [go_sem, Nat.reduceBEq]
  refine call_pure2 hC (In_sem ..) rfl (PVleL_refl _) ?_
  rintro r rfl
  simp only [go_sem, Nat.reduceBEq, Nat.reduceAdd, decide_eq_true a4, Bool.false_eq_true]
  refine call_pure2 hC (hK) rfl (PVleL_refl _) ?_
  rintro r rfl
  simp only [go_sem, Nat.reduceBEq, bin_shl (show ¬ (nK b : Int) < 0 by omega), shl6 (m := nK b) (by omega), shl6m (m := nK b) (by omega)]
  refine call_pure2 hC (In_sem ..) rfl (PVleL_refl _) ?_
  rintro r rfl
  simp only [go_sem, Nat.reduceBEq, decide_eq_true a5]
  refine loop_g (α := Nat × Bool) (fun a => a.1 ≤ b.makers.length ∧ a.2 = rowsF b a.1 ∧ (a.2 = false → 0 < a.1)) (fun a => b.makers.length - a.1) [1] (fun a => [(3, .p (pb a.2)), (4, .p (pi a.1))]) (fun _ => [.cells ((bookC k k2 b).map .p)]) (fun _ => []) (0, true) ⟨by omega, rfl, fun h => by cases h⟩ (by simp [Wk, wkT, wkL, look, AV.lo, AV.lo.loL, upS_eq, keepS_nil, keepS_cons]) ?_
  rintro ⟨i, ok⟩ ⟨hi, hok, -⟩
  replace hi : i ≤ b.makers.length := hi
  replace hok : ok = rowsF b i := hok
  cases ok
  · have hno : ¬ okBook b := fun h => by
      have h3 := rows_iff.2 h.1.2.2.1
      have : rowsF b i = true := by
        unfold rowsF at h3 ⊢
        rw [List.take_length, List.all_eq_true] at h3
        exact List.all_eq_true.2 fun r hr => h3 r (List.mem_of_mem_take hr)
      rw [this] at hok
      cases hok
    simp only [go_sem, Nat.reduceBEq]
    refine loop_k 0 (fun _ => True) [1] (fun i => [(3, .p (pb false)), (6, .p (pi 0))]) trivial rfl ⟨rfl, by simp, by simp⟩ (by simp [wkT, look, AV.lo]) ?_
    rintro i -
    simp only [go_sem, Nat.reduceBEq]
    exact retQ_one rfl (by rw [if_neg hno])
  · simp only [go_sem, Nat.reduceBEq, List.length_map]
    refine ⟨fun c5 => ?_, fun c5 => ?_⟩
    · have hi2 : i < b.makers.length := by omega
      have hrn := rowsF_next hi2
      rw [← hok, Bool.true_and] at hrn
      have ei := iadr_map (f := fun h => [pis h]) (kd := k) (sz := 1) hi2
      obtain ⟨row, erow⟩ : ∃ row, b.makers[i] = row := ⟨_, rfl⟩
      rw [erow] at hrn ei
      have hd : decide ((row.length : Int) = (nK b : Int)) = decide (row.length = nK b) := decide_eq_decide.2 (by omega)
      simp only [go_sem, Nat.reduceBEq, Nat.reduceAdd, ei, List.length_map]
      refine call_pure2 hC (hK) rfl (PVleL_refl _) ?_
      rintro r rfl
      simp only [go_sem, Nat.reduceBEq, hd]
      refine loop_g (α := Nat × Bool) (fun a => a.1 ≤ nK b ∧ a.2 = rowF b row a.1) (fun a => nK b - a.1) [1, 4] (fun a => [(3, .p (pb a.2)), (5, .p (pi a.1))]) (fun _ => [.cells ((bookC k k2 b).map .p)]) (fun _ => []) (0, decide (row.length = nK b)) ⟨by omega, by simp [rowF]⟩ (by simp [Wk, wkT, wkL, look, AV.lo, AV.lo.loL, upS_eq, keepS_nil, keepS_cons]) ?_
      rintro ⟨j, fl⟩ ⟨hj, hfl⟩
      replace hj : j ≤ nK b := hj
      replace hfl : fl = rowF b row j := hfl
      cases fl
      · rw [rowF_no hfl.symm] at hrn
        simp only [go_sem, Nat.reduceBEq, wrap_succ (k := i) (by omega)]
        exact ⟨⟨(i + 1, false), hi2, hrn.symm, fun _ => Nat.succ_pos i⟩, by simp only; omega, by simp [Wk, wkT, wkL, look, AV.lo, AV.lo.loL, ABlk.toZ]⟩
      · have hrl : row.length = nK b := by
          unfold rowF at hfl
          have := (Bool.and_eq_true _ _ ▸ hfl.symm : _ ∧ _).1
          exact of_decide_eq_true this
        simp only [go_sem, Nat.reduceBEq, Nat.reduceAdd]
        refine call_pure2 hC (hK) rfl (PVleL_refl _) ?_
        rintro r rfl
        simp only [go_sem, Nat.reduceBEq]
        refine ⟨fun d5 => ?_, fun d5 => ?_⟩
        · have hjl : j < row.length := by omega
          have hnx := rowF_next (b := b) hjl
          rw [← hfl, Bool.true_and] at hnx
          simp only [go_sem, Nat.reduceBEq, ei, iadr_pis hjl]
          refine call_pure2 hC (In_sem ..) rfl (PVleL_refl _) ?_
          rintro r rfl
          simp only [go_sem, Nat.reduceBEq, wrap_succ (k := j) (by omega)]
          exact ⟨⟨(j + 1, decide (1 ≤ row[j] ∧ row[j] ≤ 31)), by omega, hnx.symm⟩, by simp only; omega, by simp [Wk, wkT, wkL, look, AV.lo, AV.lo.loL, ABlk.toZ]⟩
        · have hjn : j = row.length := by omega
          rw [hjn, rowF_end] at hfl
          rw [← hfl] at hrn
          simp only [go_sem, wrap_succ (k := i) (by omega)]
          exact ⟨⟨(i + 1, true), hi2, hrn.symm, fun h => by cases h⟩, by simp only; omega, by simp [Wk, wkT, wkL, look, AV.lo, AV.lo.loL, ABlk.toZ]⟩
    · have hin : i = b.makers.length := by omega
      subst hin
      have h3 := rows_iff.1 hok.symm
      refine loop_g (α := Nat × Bool) (fun a => a.1 ≤ b.seen.length ∧ a.2 = marksF b a.1) (fun a => b.seen.length - a.1) [1] (fun a => [(3, .p (pb a.2)), (6, .p (pi a.1))]) (fun _ => [.cells ((bookC k k2 b).map .p)]) (fun _ => []) (0, true) ⟨by omega, rfl⟩ (by simp [Wk, wkT, wkL, look, AV.lo, AV.lo.loL, upS_eq, keepS_nil, keepS_cons]) ?_
      rintro ⟨j, fl⟩ ⟨hj, hfl⟩
      replace hj : j ≤ b.seen.length := hj
      replace hfl : fl = marksF b j := hfl
      cases fl
      · have hno : ¬ okBook b := fun h => marks_no hfl.symm h.1.2.2.2.1
        simp only [go_sem, Nat.reduceBEq]
        exact retQ_one rfl (by rw [if_neg hno])
      · simp only [go_sem, Nat.reduceBEq, Nat.reduceAdd, List.length_map]
        refine ⟨fun d5 => ?_, fun d5 => ?_⟩
        · have hj2 : j < b.seen.length := by omega
          have hnx := marksF_next hj2
          rw [← hfl, Bool.true_and] at hnx
          have ej := iadr_map (f := fun m : Int × Int => [pi m.1, pi m.2]) (kd := k2) (sz := 2) hj2
          obtain ⟨z, hz2⟩ : ∃ z, okK b b.seen[j].1 = z := ⟨_, rfl⟩
          rw [hz2] at hnx
          have hIK := risKind0_sem k k2 hz (by omega) b.seen[j].1
          rw [hz2] at hIK
          simp only [go_sem, Nat.reduceBEq, ej]
          refine call_pure2 hC (hIK) rfl (PVleL_refl _) ?_
          rintro r rfl
          simp only [go_sem, Nat.reduceBEq]
          cases z
          · simp only [go_sem, Nat.reduceBEq, wrap_succ (k := j) (by omega)]
            exact ⟨⟨(j + 1, false), hj2, hnx.symm⟩, by simp only; omega, by simp [Wk, wkT, wkL, look, AV.lo, AV.lo.loL, ABlk.toZ]⟩
          · simp only [go_sem, Nat.reduceBEq, ej]
            refine call_pure2 hC (In_sem ..) rfl (PVleL_refl _) ?_
            rintro r rfl
            simp only [go_sem, Nat.reduceBEq, wrap_succ (k := j) (by omega)]
            exact ⟨⟨(j + 1, decide (1 ≤ b.seen[j].2 ∧ b.seen[j].2 ≤ 31)), hj2, hnx.symm⟩, by simp only; omega, by simp [Wk, wkT, wkL, look, AV.lo, AV.lo.loL, ABlk.toZ]⟩
        · have hjn : j = b.seen.length := by omega
          subst hjn
          have h4 := marks_iff.1 hfl.symm
          have hyes : okBook b := ⟨⟨by omega, by omega, h3, h4, a4, by omega⟩, by omega⟩
          exact retQ_one rfl (by rw [if_pos hyes])
end Go.Proofs.YtlcpplkbmlmmbaaGreat.Mk
namespace Go.Proofs.YtlcpplkbmlmmbaaGreat.Mk.Me
open Go.RowKit Ls
def setP (p : Nat → Bool) (n : Nat) : Nat := (List.range n).foldl (fun s k => if p k then s ||| 2 ^ k else s) 0
theorem setP_next (p : Nat → Bool) (n : Nat) : setP p (n + 1) = if p n then setP p n ||| 2 ^ n else setP p n := by
  unfold setP
  rw [List.range_succ, List.foldl_append]
  rfl
theorem bit_pow (k i : Nat) : (2 ^ k).testBit i = decide (k = i) := Nat.testBit_two_pow
theorem or_bit (s k i : Nat) : (s ||| 2 ^ k).testBit i = (s.testBit i || decide (k = i)) := by rw [Nat.testBit_or, bit_pow]
theorem setP_bit (p : Nat → Bool) (i : Nat) : ∀ n, (setP p n).testBit i = (decide (i < n) && p i)
  | 0 => by simp [setP]
  | n + 1 => by
    rw [setP_next]
    have ih := setP_bit p i n
    by_cases e : n = i
    · subst e
      cases hp : p n
      · rw [if_neg (by decide), ih]
        simp [hp]
      · rw [if_pos rfl, or_bit, ih]
        simp
    · have h2 : decide (i < n + 1) = decide (i < n) := decide_eq_decide.2 (by omega)
      split
      · rw [or_bit, ih, h2, decide_eq_false e, Bool.or_false]
      · rw [ih, h2]
theorem setP_lt (p : Nat → Bool) (n : Nat) : setP p n < 2 ^ n := by
  refine Nat.lt_of_not_le fun h => ?_
  have h0 : setP p n ≠ 0 := fun e => by rw [e] at h; have := Nat.two_pow_pos n; omega
  obtain ⟨i, hi, hb⟩ := Nat.exists_ge_and_testBit_of_ge_two_pow h
  rw [setP_bit] at hb
  simp at hb
  omega
def chg2 (can : Nat) (rep : Int) (K : Nat) : Nat → Nat → List Nat
  | 0, _ => []
  | r + 1, t => (if can.testBit (K - (r + 1)) && !t.testBit (K - (r + 1)) && decide ((cntN (t ||| 2 ^ (K - (r + 1))) 6 : Int) ≤ rep) then (t ||| 2 ^ (K - (r + 1))) :: chg2 can rep K r (t ||| 2 ^ (K - (r + 1))) else []) ++ chg2 can rep K r t
theorem cnt_mono {s t n : Nat} (h : ∀ i, s.testBit i = true → t.testBit i = true) : cntN s n ≤ cntN t n := filt_le fun k _ hk => h k hk
theorem or_old {s k : Nat} (h : s.testBit k = true) : s ||| 2 ^ k = s := by
  refine Nat.eq_of_testBit_eq fun i => ?_
  rw [or_bit]
  by_cases e : k = i
  · subst e
    rw [h]
    rfl
  · rw [decide_eq_false e, Bool.or_false]
theorem mem_chg {can : Nat} {rep : Int} {K : Nat} : ∀ (r : Nat) (t s : Nat), r ≤ K → (s ∈ t :: chg2 can rep K r t ↔ (∀ i, t.testBit i = true → s.testBit i = true) ∧ (∀ i, s.testBit i = true → t.testBit i = true ∨ (K - r ≤ i ∧ i < K ∧ can.testBit i = true)) ∧ (s = t ∨ (cntN s 6 : Int) ≤ rep))
  | 0, t, s, _ => by
    rw [chg2, List.mem_singleton]
    constructor
    · rintro rfl
      exact ⟨fun _ h => h, fun _ h => .inl h, .inl rfl⟩
    · rintro ⟨h1, h2, -⟩
      refine Nat.eq_of_testBit_eq fun i => ?_
      rw [Bool.eq_iff_iff]
      refine ⟨fun h => ?_, h1 i⟩
      rcases h2 i h with h | ⟨h3, h4, -⟩
      · exact h
      · omega
  | r + 1, t, s, hr => by
    obtain ⟨q, hq⟩ : ∃ q, q = K - (r + 1) := ⟨_, rfl⟩
    have ih1 := mem_chg (can := can) (rep := rep) (K := K) r (t ||| 2 ^ q) s (by omega)
    have ih2 := mem_chg (can := can) (rep := rep) (K := K) r t s (by omega)
    have e : s ∈ t :: chg2 can rep K (r + 1) t ↔ ((can.testBit q && !t.testBit q && decide ((cntN (t ||| 2 ^ q) 6 : Int) ≤ rep)) = true ∧ s ∈ (t ||| 2 ^ q) :: chg2 can rep K r (t ||| 2 ^ q)) ∨ s ∈ t :: chg2 can rep K r t := by
      rw [chg2, ← hq]
      cases (can.testBit q && !t.testBit q && decide ((cntN (t ||| 2 ^ q) 6 : Int) ≤ rep))
      · simp
      · simp only [if_true, List.mem_cons, List.mem_append, true_and]
        constructor
        · rintro (h | (h | h) | h)
          · exact .inr (.inl h)
          · exact .inl (.inl h)
          · exact .inl (.inr h)
          · exact .inr (.inr h)
        · rintro ((h | h) | h | h)
          · exact .inr (.inl (.inl h))
          · exact .inr (.inl (.inr h))
          · exact .inl h
          · exact .inr (.inr h)
    rw [e, ih1, ih2]
    simp only [Bool.and_eq_true, Bool.not_eq_true', decide_eq_true_eq]
    constructor
    · rintro (⟨⟨⟨hc, hn⟩, hk⟩, h1, h2, h3⟩ | ⟨h1, h2, h3⟩)
      · refine ⟨fun i hi => h1 i (by rw [or_bit, hi]; rfl), fun i hi => ?_, .inr ?_⟩
        · rcases h2 i hi with h | ⟨h4, h5, h6⟩
          · rw [or_bit, Bool.or_eq_true, decide_eq_true_eq] at h
            rcases h with h | rfl
            · exact .inl h
            · exact .inr ⟨by omega, by omega, hc⟩
          · exact .inr ⟨by omega, h5, h6⟩
        · rcases h3 with rfl | h3
          · exact hk
          · exact h3
      · refine ⟨h1, fun i hi => ?_, h3⟩
        rcases h2 i hi with h | ⟨h4, h5, h6⟩
        · exact .inl h
        · exact .inr ⟨by omega, h5, h6⟩
    · rintro ⟨h1, h2, h3⟩
      by_cases hs : s.testBit q = true ∧ t.testBit q = false
      · obtain ⟨hs1, hs2⟩ := hs
        have hne : s ≠ t := fun e => by rw [e, hs2] at hs1; cases hs1
        have hcnt := h3.resolve_left hne
        have hsub : ∀ i, (t ||| 2 ^ q).testBit i = true → s.testBit i = true := fun i hi => by
          rw [or_bit, Bool.or_eq_true, decide_eq_true_eq] at hi
          rcases hi with hi | rfl
          · exact h1 i hi
          · exact hs1
        have hcan : can.testBit q = true := by
          rcases h2 q hs1 with h | ⟨-, -, h⟩
          · rw [hs2] at h; cases h
          · exact h
        refine .inl ⟨⟨⟨hcan, hs2⟩, ?_⟩, hsub, fun i hi => ?_, .inr hcnt⟩
        · have := cnt_mono (n := 6) hsub
          omega
        · rw [or_bit]
          by_cases e : q = i
          · exact .inl (by simp [e])
          · rcases h2 i hi with h | ⟨h4, h5, h6⟩
            · exact .inl (by rw [h]; rfl)
            · exact .inr ⟨by omega, h5, h6⟩
      · refine .inr ⟨h1, fun i hi => ?_, h3⟩
        rcases h2 i hi with h | ⟨h4, h5, h6⟩
        · exact .inl h
        · by_cases e : i = q
          · refine .inl ?_
            rw [e] at hi ⊢
            cases ht : t.testBit q
            · exact absurd ⟨hi, ht⟩ hs
            · rfl
          · exact .inr ⟨by omega, h5, h6⟩
theorem cnt_six {c n : Nat} (hn : n ≤ 6) (hc : c < 2 ^ n) : cntN c 6 = cntN c n := by
  unfold cntN
  rw [show (6 : Nat) = n + (6 - n) by omega, List.range_add, List.filter_append]
  have : ((List.range (6 - n)).map (n + ·)).filter c.testBit = [] := by
    rw [List.filter_eq_nil_iff]
    intro k hk
    obtain ⟨q, -, rfl⟩ := List.mem_map.1 hk
    rw [Nat.testBit_lt_two_pow (Nat.lt_of_lt_of_le hc (Nat.pow_le_pow_right (by decide) (by omega)))]
    decide
  rw [this, List.append_nil]
def canQ (b : MBook) (m q : Nat) : Bool := zeroB b m q || (!(fixN b).testBit q && decide ((zeros b m : Int) < b.repairs))
def mustS (b : MBook) (m : Nat) : Nat := setP (zeroB b m) (nK b)
def canS (b : MBook) (m : Nat) : Nat := setP (canQ b m) (nK b)
def setsL (b : MBook) (m : Nat) : List Nat := mustS b m :: chg2 (canS b m) b.repairs (nK b) (nK b) (mustS b m)
structure CSet (b : MBook) (m s : Nat) : Prop where
  must : ∀ q, q < nK b → zeroB b m q = true → s.testBit q = true
  can : ∀ q, s.testBit q = true → q < nK b ∧ canQ b m q = true
  cnt : (cntN s (nK b) : Int) ≤ b.repairs
theorem CSet.lt {b : MBook} {m s : Nat} (h : CSet b m s) : s < 2 ^ nK b := by
  refine Nat.lt_of_not_le fun h2 => ?_
  obtain ⟨i, hi, hb⟩ := Nat.exists_ge_and_testBit_of_ge_two_pow h2
  have := (h.can i hb).1
  omega
theorem sets_len (b : MBook) (m : Nat) : (setsL b m).length ≤ 2 ^ nK b := by
  have : ∀ (can : Nat) (rep : Int) (K r t : Nat), (chg2 can rep K r t).length + 1 ≤ 2 ^ r := by
    intro can rep K r
    induction r with
    | zero => intro t; simp [chg2]
    | succ r ih =>
      intro t
      have h1 := ih t
      have h2 := ih (t ||| 2 ^ (K - (r + 1)))
      rw [chg2, List.length_append, Nat.pow_succ]
      split
      · rw [List.length_cons]; omega
      · rw [List.length_nil]; omega
  have := this (canS b m) b.repairs (nK b) (nK b) (mustS b m)
  unfold setsL
  rw [List.length_cons]
  exact this
theorem sets_lt {b : MBook} {m s : Nat} (h : s ∈ setsL b m) : s < 2 ^ nK b := by
  obtain ⟨-, h2, -⟩ := (mem_chg _ _ _ (Nat.le_refl _)).1 h
  refine Nat.lt_of_not_le fun h3 => ?_
  obtain ⟨i, hi, hb⟩ := Nat.exists_ge_and_testBit_of_ge_two_pow h3
  rcases h2 i hb with h | ⟨-, h4, -⟩
  · unfold mustS at h
    rw [setP_bit, Bool.and_eq_true, decide_eq_true_eq] at h
    omega
  · omega
def ddupF {α : Type} [DecidableEq α] (acc : List α) (x : α) : List α := if x ∈ acc then acc else acc ++ [x]
def ddup {α : Type} [DecidableEq α] (l : List α) : List α := l.foldl ddupF []
theorem ddup_fold {α : Type} [DecidableEq α] : ∀ (l acc : List α), (l.foldl ddupF acc).Sublist (acc ++ l) ∧ ∀ x, x ∈ l.foldl ddupF acc ↔ x ∈ acc ∨ x ∈ l
  | [], acc => ⟨by simp, by simp⟩
  | y :: l, acc => by
    obtain ⟨h1, h2⟩ := ddup_fold l (ddupF acc y)
    rw [List.foldl_cons]
    by_cases hy : y ∈ acc
    · have e : ddupF acc y = acc := if_pos hy
      rw [e] at h1 h2 ⊢
      refine ⟨h1.trans (List.Sublist.append_left (List.sublist_cons_self ..) _), fun x => ?_⟩
      rw [h2, List.mem_cons]
      constructor
      · rintro (h | h)
        · exact .inl h
        · exact .inr (.inr h)
      · rintro (h | rfl | h)
        · exact .inl h
        · exact .inl hy
        · exact .inr h
    · have e : ddupF acc y = acc ++ [y] := if_neg hy
      rw [e] at h1 h2 ⊢
      refine ⟨by simpa using h1, fun x => ?_⟩
      rw [h2, List.mem_append, List.mem_singleton, List.mem_cons, or_assoc]
theorem ddup_mem {α : Type} [DecidableEq α] {l : List α} {x : α} : x ∈ ddup l ↔ x ∈ l := by
  unfold ddup
  rw [(ddup_fold l []).2]
  simp
theorem ddup_sub {α : Type} [DecidableEq α] (l : List α) : (ddup l).Sublist l := by
  have := (ddup_fold l []).1
  rwa [List.nil_append] at this
end Go.Proofs.YtlcpplkbmlmmbaaGreat.Mk.Me
namespace Go.Proofs.YtlcpplkbmlmmbaaGreat.Mk.Me
open Go.RowKit Ls
structure Job where
  kind : Int
  hl : Int
  hh : Int
  pl : Int
  ph : Int
  cap : Int
structure EBook where
  mb : MBook
  jobs : List Job
  rate : Int
  extra : List Int
  coins : List Int
def okJob (b : EBook) (j : Job) : Prop := (0 ≤ j.kind ∧ j.kind < (nK b.mb : Int)) ∧ (0 ≤ j.hl ∧ j.hl ≤ j.hh ∧ j.hh ≤ 20 ∧ j.hh - j.hl ≤ 3) ∧ (0 ≤ j.pl ∧ j.pl ≤ j.ph ∧ j.ph ≤ 99 ∧ j.ph - j.pl ≤ 4) ∧ (-1 ≤ j.cap ∧ j.cap ≤ 999)
instance (b : EBook) (j : Job) : Decidable (okJob b j) := by unfold okJob; exact inferInstance
def okTail : Int → List Int → Prop
  | _, [] => True
  | x, y :: l => (x + 1 ≤ y ∧ y ≤ 240) ∧ okTail y l
instance decTail : ∀ (x : Int) (l : List Int), Decidable (okTail x l)
  | _, [] => isTrue trivial
  | x, y :: l => by
    have := decTail y l
    unfold okTail
    exact inferInstance
def okCoins : List Int → Prop
  | [] => False
  | x :: l => (x :: l).length ≤ 4 ∧ x = 1 ∧ okTail x l
instance (l : List Int) : Decidable (okCoins l) := by
  cases l with
  | nil => exact isFalse fun h => h
  | cons x l => unfold okCoins; exact inferInstance
def okE (b : EBook) : Prop := okBook b.mb ∧ (1 ≤ b.jobs.length ∧ b.jobs.length ≤ 4) ∧ b.extra.length = b.mb.makers.length ∧ (∀ j ∈ b.jobs, okJob b j) ∧ (∀ x ∈ b.extra, 0 ≤ x ∧ x ≤ 50) ∧ (0 ≤ b.rate ∧ b.rate ≤ 20) ∧ okCoins b.coins
instance (b : EBook) : Decidable (okE b) := by unfold okE; exact inferInstance
def mendS (b : EBook) : Nat := b.jobs.foldl (fun s j => s ||| 2 ^ j.kind.toNat) 0
def allE (b : EBook) : List (Nat × Nat) := (whoL b.mb).flatMap fun m => (setsL b.mb m).map fun s => (m, s &&& mendS b)
def known (b : EBook) : List (Nat × Nat) := ddup (allE b)
theorem known_who {b : EBook} {t : Nat × Nat} (h : t ∈ known b) : t.1 ∈ whoL b.mb := by
  unfold known at h
  rw [ddup_mem] at h
  unfold allE at h
  obtain ⟨m, hm, h⟩ := List.mem_flatMap.1 h
  obtain ⟨c, hc, rfl⟩ := List.mem_map.1 h
  exact hm
theorem who_known {b : EBook} {m : Nat} (h : m ∈ whoL b.mb) : ∃ s, (m, s) ∈ known b := by
  refine ⟨mustS b.mb m &&& mendS b, ?_⟩
  unfold known
  rw [ddup_mem]
  unfold allE
  exact List.mem_flatMap.2 ⟨m, h, List.mem_map.2 ⟨mustS b.mb m, List.mem_cons_self .., rfl⟩⟩
theorem known_ne {b : EBook} (h : whoL b.mb ≠ []) : known b ≠ [] := by
  obtain ⟨m, l, e⟩ := List.exists_cons_of_ne_nil h
  obtain ⟨s, hs⟩ := who_known (b := b) (m := m) (by rw [e]; exact List.mem_cons_self ..)
  intro e2
  rw [e2] at hs
  exact absurd hs (by simp)
theorem allE_len {b : EBook} (ho : okC b.mb) : (allE b).length ≤ 320 := by
  have h1 := flat_len (f := fun m => (setsL b.mb m).map fun s => (m, s &&& mendS b)) (m := 64) (fun m => by
    rw [List.length_map]
    exact Nat.le_trans (sets_len b.mb m) (pow_le64 ho)) (whoL b.mb)
  have h2 := who_len b.mb
  have h3 := ho.1.2
  unfold allE
  omega
theorem known_len {b : EBook} (ho : okC b.mb) : (known b).length ≤ 320 := Nat.le_trans (ddup_sub (allE b)).length_le (allE_len ho)
def extraI (b : EBook) (t : Nat × Nat) (j : Job) : Int := if t.2.testBit j.kind.toNat then 0 else b.extra.getD t.1 0
def costI (b : EBook) (t : Nat × Nat) (j : Job) (h p : Int) : Int := h * b.rate + p + extraI b t j
def paidI (j : Job) (c : Int) : Int := if j.cap = -1 then c else min c j.cap
def shareI (w : Nat) (j : Job) (c : Int) : Int := if w = 0 then c else if w = 1 then paidI j c else c - paidI j c
def sumI (l : List Int) : Int := l.foldl (· + ·) 0
theorem sum_fold : ∀ (l : List Int) (s : Int), l.foldl (· + ·) s = s + sumI l
  | [], s => by simp [sumI]
  | x :: l, s => by
    have h1 := sum_fold l (s + x)
    have h2 := sum_fold l (0 + x)
    have h3 : sumI (x :: l) = l.foldl (· + ·) (0 + x) := rfl
    rw [List.foldl_cons, h1, h3, h2]
    omega
theorem sum_cons (x : Int) (l : List Int) : sumI (x :: l) = x + sumI l := by
  have := sum_fold l (0 + x)
  have h3 : sumI (x :: l) = l.foldl (· + ·) (0 + x) := rfl
  omega
theorem sum_app (l : List Int) (x : Int) : sumI (l ++ [x]) = sumI l + x := by
  unfold sumI
  rw [List.foldl_append]
  rfl
theorem sum_take {l : List Int} {i : Nat} (h : i < l.length) : sumI (l.take (i + 1)) = sumI (l.take i) + l[i] := by
  rw [List.take_succ_eq_append_getElem h, sum_app]
theorem sum_bound {m : Int} : ∀ {l : List Int}, (∀ x ∈ l, 0 ≤ x ∧ x ≤ m) → 0 ≤ sumI l ∧ sumI l ≤ l.length * m
  | [], _ => by simp [sumI]
  | x :: l, h => by
    have h1 := h x (List.mem_cons_self ..)
    have h2 := sum_bound (m := m) (l := l) fun y hy => h y (List.mem_cons_of_mem _ hy)
    rw [sum_cons, List.length_cons]
    have e : ((l.length + 1 : Nat) : Int) * m = l.length * m + m := by rw [Int.natCast_add, Int.add_mul]; omega
    omega
theorem paid_le {j : Job} (hj : -1 ≤ j.cap) {c : Int} (hc : 0 ≤ c) : 0 ≤ paidI j c ∧ paidI j c ≤ c := by
  unfold paidI
  split <;> omega
theorem share_le {j : Job} (hj : -1 ≤ j.cap) (w : Nat) {c : Int} (hc : 0 ≤ c) : 0 ≤ shareI w j c ∧ shareI w j c ≤ c := by
  have := paid_le hj hc
  unfold shareI
  split
  · omega
  · split <;> omega
theorem extra_le {b : EBook} (ho : okE b) (t : Nat × Nat) (j : Job) : 0 ≤ extraI b t j ∧ extraI b t j ≤ 50 := by
  unfold extraI
  split
  · omega
  · by_cases h : t.1 < b.extra.length
    · rw [List.getD_eq_getElem?_getD, List.getElem?_eq_getElem h]
      exact ho.2.2.2.2.1 _ (List.getElem_mem h)
    · rw [List.getD_eq_getElem?_getD, List.getElem?_eq_none (by omega)]
      decide
theorem mul_mono {a c r : Int} (hr : 0 ≤ r) (h : a ≤ c) : a * r ≤ c * r := Int.mul_le_mul_of_nonneg_right h hr
theorem cost_le {b : EBook} (ho : okE b) (t : Nat × Nat) (j : Job) {h p : Int} (h1 : 0 ≤ h ∧ h ≤ 20) (h2 : 0 ≤ p ∧ p ≤ 99) : (0 ≤ h * b.rate ∧ h * b.rate ≤ 400) ∧ 0 ≤ costI b t j h p ∧ costI b t j h p ≤ 549 := by
  have hr := ho.2.2.2.2.2.1
  have h3 := extra_le ho t j
  have h4 : 0 ≤ h * b.rate := Int.mul_nonneg h1.1 hr.1
  have h5 : h * b.rate ≤ 20 * 20 := Int.le_trans (mul_mono hr.1 h1.2) (by omega)
  unfold costI
  omega
def endH (lo : Bool) (j : Job) : Int := if lo then j.hl else j.hh
def endPt (lo : Bool) (j : Job) : Int := if lo then j.pl else j.ph
def eachI (lo : Bool) (b : EBook) (w : Nat) (t : Nat × Nat) (j : Job) : Int := shareI w j (costI b t j (endH lo j) (endPt lo j))
def jobsI (lo : Bool) (b : EBook) (w : Nat) (js : List Job) (t : Nat × Nat) : Int := sumI (js.map (eachI lo b w t))
def minF : List Int → Int
  | [] => 0
  | x :: l => l.foldl min x
def maxF : List Int → Int
  | [] => 0
  | x :: l => l.foldl max x
def ampl (lo : Bool) (l : List Int) : Int := if lo then minF l else maxF l
def outI (lo : Bool) (b : EBook) (w : Nat) (js : List Job) : Int := ampl lo ((known b).map (jobsI lo b w js))
end Go.Proofs.YtlcpplkbmlmmbaaGreat.Mk.Me
namespace Go.Proofs.YtlcpplkbmlmmbaaGreat.Mk.Me
open Go.RowKit Ls
def canF (b : EBook) (t : Nat × Nat) (pence : Int) : List Job → Int → Int → Bool
  | [], lo, hi => decide (lo ≤ pence ∧ pence ≤ hi)
  | j :: js, lo, hi => (List.range (j.hh - j.hl + 1).toNat).any fun (q : Nat) => canF b t pence js (lo + paidI j (costI b t j (j.hl + q) j.pl)) (hi + paidI j (costI b t j (j.hl + q) j.ph))
def canP (b : EBook) (pence : Int) (t : Nat × Nat) : Bool := canF b t pence b.jobs 0 0
def CostsOk (b : EBook) (t : Nat × Nat) : List Job → List Int → Prop
  | [], [] => True
  | j :: js, c :: cs => (∃ h p, j.hl ≤ h ∧ h ≤ j.hh ∧ j.pl ≤ p ∧ p ≤ j.ph ∧ c = costI b t j h p) ∧ CostsOk b t js cs
  | _, _ => False
def paidL : List Job → List Int → Int
  | j :: js, c :: cs => paidI j c + paidL js cs
  | _, _ => 0
def whoF (P : Nat × Nat → Bool) (acc : List Nat) (t : Nat × Nat) : List Nat := if t.1 ∉ acc ∧ P t = true then acc ++ [t.1] else acc
def whosF (P : Nat × Nat → Bool) (l : List (Nat × Nat)) : List Nat := l.foldl (whoF P) []
theorem whosF_next (P : Nat × Nat → Bool) {l : List (Nat × Nat)} {i : Nat} (h : i < l.length) : whosF P (l.take (i + 1)) = if l[i].1 ∉ whosF P (l.take i) ∧ P l[i] = true then whosF P (l.take i) ++ [l[i].1] else whosF P (l.take i) := by
  unfold whosF
  rw [foldl_take _ _ _ _ h]
  rfl
def whoseL (b : EBook) (pence : Int) : List Nat := whosF (canP b pence) (known b)
def lossI (b : EBook) (j : Job) : Int := outI false b 2 [j]
def dearF (f : Nat → Int) (n : Nat) : Nat × Int := (List.range n).foldl (fun s k => if s.2 < f k then (k, f k) else s) (0, 0)
theorem dearF_next (f : Nat → Int) (n : Nat) : dearF f (n + 1) = if (dearF f n).2 < f n then (n, f n) else dearF f n := by
  unfold dearF
  rw [List.range_succ, List.foldl_append]
  rfl
end Go.Proofs.YtlcpplkbmlmmbaaGreat.Mk.Me
