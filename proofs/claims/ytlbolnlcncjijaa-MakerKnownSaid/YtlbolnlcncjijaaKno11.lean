/- MakerKnown returns true; it takes nothing, no condition. MakerKnown: the law. MakerKnown: behind the loop. -/
import Derived.Test.YtlbolnlcncjijaaKno10
import Derived.Test.YtlbolnlcncjijaaGa17
namespace Go.Proofs.Ytlbolnlcncjijaa.Mk
open Go.RowKit Ls
set_option maxRecDepth 100000
def loneB : MBook := ⟨[[1, 3, 4], [2, 2, 4], [1, 8, 3]], [(0, 3), (1, 10), (2, 4), (0, 1)], 0, 1⟩
def strangeB : MBook := ⟨[[1, 3, 4], [2, 2, 4], [1, 8, 3]], [(0, 16)], 1, 1⟩
theorem kn_a : Sem1 17 [.agg (bookC .full .sh oddB), pi 3] (.tup [pi 0, pi 51]) := (Needs_sem .full .sh oddB 3).mono fun _ h => h.trans (by kernel_rfl)
theorem kn_c : Sem1 18 [.agg (bookC .full .sh oddB), pi 0, pi 3] (.tup [pi 0, pi 51]) := (Changed_sem .full .sh oddB 0 3).mono fun _ h => h.trans (by kernel_rfl)
theorem kn_d : Sem1 11 [.agg (bookC .full .sh oddB), pi (-1)] (.tup [pis [], pi 51]) := (Values_sem .full .sh oddB (-1)).mono fun _ h => h.trans (by kernel_rfl)
theorem kn_e : Sem1 19 [.agg (bookC .full .sh oddB), pi 0, pi 0] (.tup [pb false, pi 51]) := (Told_sem .full .sh oddB 0 0).mono fun _ h => h.trans (by kernel_rfl)
theorem kn_f : Sem1 19 [.agg (bookC .full .sh oddB), pi 0, pi 3] (.tup [pb false, pi 51]) := (Told_sem .full .sh oddB 0 3).mono fun _ h => h.trans (by kernel_rfl)
theorem kn_g : Sem1 10 [.agg (bookC .full .sh oddB)] (.tup [pis [], pi 52]) := (Who_sem .full .sh oddB).mono fun _ h => h.trans (by kernel_rfl)
theorem kn_h : Sem1 17 [.agg (bookC .full .sh oddB), pi 0] (.tup [pi 0, pi 52]) := (Needs_sem .full .sh oddB 0).mono fun _ h => h.trans (by kernel_rfl)
theorem kn_i : Sem1 18 [.agg (bookC .full .sh oddB), pi 0, pi 0] (.tup [pi 0, pi 52]) := (Changed_sem .full .sh oddB 0 0).mono fun _ h => h.trans (by kernel_rfl)
theorem kn_j : Sem1 11 [.agg (bookC .full .sh oddB), pi 0] (.tup [pis [], pi 52]) := (Values_sem .full .sh oddB 0).mono fun _ h => h.trans (by kernel_rfl)
theorem kn_k : Sem1 20 [.agg (bookC .full .sh oddB)] (.tup [pi 0, pi 52]) := (Look_sem .full .sh oddB).mono fun _ h => h.trans (by kernel_rfl)
theorem kn_l : Sem1 18 [.agg (bookC .full .full (bookB 0)), pi 2, pi 2] (.tup [pi 0, pi 4]) := (Changed_sem .full .full (bookB 0) 2 2).mono fun _ h => h.trans (by kernel_rfl)
theorem kn_m : Sem1 16 [.agg (bookC .full .sh oddB)] (.tup [pb false, pi 0]) := (Right_sem .full .sh oddB).mono fun _ h => h.trans (by kernel_rfl)
theorem kn_k0 : Sem1 18 [.agg (bookC .full .full (bookB 1)), pi 2, pi 2] (.tup [pi 2, pi 0]) := (Changed_sem .full .full (bookB 1) 2 2).mono fun _ h => h.trans (by kernel_rfl)
theorem kn_k1 : Sem1 18 [.agg (bookC .full .full (bookB 1)), pi 2, pi 1] (.tup [pi 0, pi 0]) := (Changed_sem .full .full (bookB 1) 2 1).mono fun _ h => h.trans (by kernel_rfl)
theorem kn_k2 : Sem1 18 [.agg (bookC .full .full (bookB 1)), pi 0, pi 1] (.tup [pi 1, pi 0]) := (Changed_sem .full .full (bookB 1) 0 1).mono fun _ h => h.trans (by kernel_rfl)
theorem kn_k3 : Sem1 18 [.agg (bookC .full .full (bookB 1)), pi 0, pi 0] (.tup [pi 0, pi 0]) := (Changed_sem .full .full (bookB 1) 0 0).mono fun _ h => h.trans (by kernel_rfl)
theorem kn_k4 : Sem1 18 [.agg (bookC .full .full (bookB 1)), pi 1, pi 2] (.tup [pi 1, pi 0]) := (Changed_sem .full .full (bookB 1) 1 2).mono fun _ h => h.trans (by kernel_rfl)
theorem kn_n : Sem1 17 [.agg (bookC .full .full (bookB 1)), pi 0] (.tup [pi 0, pi 0]) := (Needs_sem .full .full (bookB 1) 0).mono fun _ h => h.trans (by kernel_rfl)
theorem kn_v : Sem1 11 [.agg (bookC .full .full (bookB 1)), pi 0] (.tup [pis [0, 1], pi 0]) := (Values_sem .full .full (bookB 1) 0).mono fun _ h => h.trans (by kernel_rfl)
theorem kn_w : Sem1 11 [.agg (bookC .full .full (bookB 0)), pi 1] (.tup [pis [1], pi 0]) := (Values_sem .full .full (bookB 0) 1).mono fun _ h => h.trans (by kernel_rfl)
theorem kn_no : Sem1 19 [.agg (bookC .full .full (bookB 1)), pi 0, pi 2] (.tup [pb false, pi 0]) := (Told_sem .full .full (bookB 1) 0 2).mono fun _ h => h.trans (by kernel_rfl)
theorem kn_yes : Sem1 19 [.agg (bookC .full .full (bookB 0)), pi 0, pi 2] (.tup [pb true, pi 0]) := (Told_sem .full .full (bookB 0) 0 2).mono fun _ h => h.trans (by kernel_rfl)
theorem kn_o : Sem1 20 [.agg (bookC .full .full (bookB 1))] (.tup [pi 0, pi 0]) := (Look_sem .full .full (bookB 1)).mono fun _ h => h.trans (by kernel_rfl)
theorem kn_p : Sem1 21 [.agg (bookC .full .full (bookB 1))] (.tup [pis [], pi 0]) := (Wrong_sem .full .full (bookB 1)).mono fun _ h => h.trans (by kernel_rfl)
theorem kn_q1 (k : SK) : Sem1 20 [.agg (bookC .full k loneB)] (.tup [pi 0, pi 4]) := (Look_sem .full k loneB).mono fun _ h => h.trans (by kernel_rfl)
theorem kn_q2 (k : SK) : Sem1 10 [.agg (bookC .full k loneB)] (.tup [pis [0], pi 0]) := (Who_sem .full k loneB).mono fun _ h => h.trans (by kernel_rfl)
theorem kn_r (k : SK) : Sem1 10 [.agg (bookC .full k strangeB)] (.tup [pis [], pi 0]) := (Who_sem .full k strangeB).mono fun _ h => h.trans (by kernel_rfl)
theorem kn_r2 (k : SK) : Sem1 17 [.agg (bookC .full k strangeB), pi 0] (.tup [pi 0, pi 4]) := (Needs_sem .full k strangeB 0).mono fun _ h => h.trans (by kernel_rfl)
theorem kn_s (k : SK) : Sem1 11 [.agg (bookC .full k strangeB), pi 1] (.tup [pis [], pi 0]) := (Values_sem .full k strangeB 1).mono fun _ h => h.trans (by kernel_rfl)
theorem kn_t (k : SK) : Sem1 21 [.agg (bookC .full k strangeB)] (.tup [pis [0], pi 0]) := (Wrong_sem .full k strangeB).mono fun _ h => h.trans (by kernel_rfl)
theorem kd_0 : iadrS' 3 (AV.p (PV.sl SK.full 3 [[pi 2, pi 2, pi 2], [pi 2, pi 1, pi 0], [pi 0, pi 1, pi 1], [pi 0, pi 0, pi 0], [pi 1, pi 2, pi 1]])) (AV.p (PV.val (Value.int IntKind.i64 0))) = some (.p (.ptr [pi 2, pi 2, pi 2] 0)) := rfl
theorem kd_1 : iadrS' 3 (AV.p (PV.sl SK.full 3 [[pi 2, pi 2, pi 2], [pi 2, pi 1, pi 0], [pi 0, pi 1, pi 1], [pi 0, pi 0, pi 0], [pi 1, pi 2, pi 1]])) (AV.p (PV.val (Value.int IntKind.i64 1))) = some (.p (.ptr [pi 2, pi 1, pi 0] 0)) := rfl
theorem kd_2 : iadrS' 3 (AV.p (PV.sl SK.full 3 [[pi 2, pi 2, pi 2], [pi 2, pi 1, pi 0], [pi 0, pi 1, pi 1], [pi 0, pi 0, pi 0], [pi 1, pi 2, pi 1]])) (AV.p (PV.val (Value.int IntKind.i64 2))) = some (.p (.ptr [pi 0, pi 1, pi 1] 0)) := rfl
theorem kd_3 : iadrS' 3 (AV.p (PV.sl SK.full 3 [[pi 2, pi 2, pi 2], [pi 2, pi 1, pi 0], [pi 0, pi 1, pi 1], [pi 0, pi 0, pi 0], [pi 1, pi 2, pi 1]])) (AV.p (PV.val (Value.int IntKind.i64 3))) = some (.p (.ptr [pi 0, pi 0, pi 0] 0)) := rfl
theorem kd_4 : iadrS' 3 (AV.p (PV.sl SK.full 3 [[pi 2, pi 2, pi 2], [pi 2, pi 1, pi 0], [pi 0, pi 1, pi 1], [pi 0, pi 0, pi 0], [pi 1, pi 2, pi 1]])) (AV.p (PV.val (Value.int IntKind.i64 4))) = some (.p (.ptr [pi 1, pi 2, pi 1] 0)) := rfl
theorem ix3_0 {cs : List PV} : iadrAS 1 3 (AV.p (PV.ptr cs 0)) (AV.p (PV.val (Value.int IntKind.i64 0))) = some (.p (.ptr cs 0)) := rfl
theorem ix3_1 {cs : List PV} : iadrAS 1 3 (AV.p (PV.ptr cs 0)) (AV.p (PV.val (Value.int IntKind.i64 1))) = some (.p (.ptr cs 1)) := rfl
theorem ix3_2 {cs : List PV} : iadrAS 1 3 (AV.p (PV.ptr cs 0)) (AV.p (PV.val (Value.int IntKind.i64 2))) = some (.p (.ptr cs 2)) := rfl
set_option maxHeartbeats 8000000 in
theorem known_end {C : Con} (hC : ∀ f args rd K s, SemP Try.prog Fence.wide f args rd K s → C.call f args rd K s) (t : List (Nat × AV)) (L : List ABlk) (hL : L = List.replicate 43 .dead) (lv : List Nat) :
    exec C ac4_28 (retC Try.prog [.tmp 0] (fun r => r = pb true)) ⟨t, L, lv, some [], 0⟩ := by
  unfold ac4_28
  subst hL
  rw [show List.replicate 43 ABlk.dead = [.dead, .dead, .dead, .dead, .dead, .dead, .dead, .dead, .dead, .dead, .dead, .dead, .dead, .dead, .dead, .dead, .dead, .dead, .dead, .dead, .dead, .dead, .dead, .dead, .dead, .dead, .dead, .dead, .dead, .dead, .dead, .dead, .dead, .dead, .dead, .dead, .dead, .dead, .dead, .dead, .dead, .dead, .dead] from rfl]
  simp only [go_sem]
  refine call_pure2 hC (own_sem) rfl (PVleL_refl _) ?_
  rintro r rfl
  simp only [go_sem, Nat.reduceBEq]
  refine call_pure2 hC (kn_n) rfl (PVleL_refl _) ?_
  rintro r rfl
  simp only [go_sem, Nat.reduceBEq]
  refine call_pure2 hC (own_sem) rfl (PVleL_refl _) ?_
  rintro r rfl
  simp only [go_sem, Nat.reduceBEq]
  refine call_pure2 hC (kn_v) rfl (PVleL_refl _) ?_
  rintro r rfl
  simp only [go_sem, Nat.reduceBEq]
  refine call_pure2 hC (strict_sem) rfl (PVleL_refl _) ?_
  rintro r rfl
  simp only [go_sem, Nat.reduceBEq]
  refine call_pure2 hC (kn_w) rfl (PVleL_refl _) ?_
  rintro r rfl
  simp only [go_sem, Nat.reduceBEq]
  refine call_pure2 hC (own_sem) rfl (PVleL_refl _) ?_
  rintro r rfl
  simp only [go_sem, Nat.reduceBEq]
  refine call_pure2 hC (kn_no) rfl (PVleL_refl _) ?_
  rintro r rfl
  simp only [go_sem, Nat.reduceBEq]
  refine call_pure2 hC (strict_sem) rfl (PVleL_refl _) ?_
  rintro r rfl
  simp only [go_sem, Nat.reduceBEq]
  refine call_pure2 hC (kn_yes) rfl (PVleL_refl _) ?_
  rintro r rfl
  simp only [go_sem, Nat.reduceBEq]
  refine call_pure2 hC (own_sem) rfl (PVleL_refl _) ?_
  rintro r rfl
  simp only [go_sem, Nat.reduceBEq]
  refine call_pure2 hC (kn_o) rfl (PVleL_refl _) ?_
  rintro r rfl
  simp only [go_sem, Nat.reduceBEq]
  refine call_pure2 hC (own_sem) rfl (PVleL_refl _) ?_
  rintro r rfl
  simp only [go_sem, Nat.reduceBEq]
  refine call_pure2 hC (kn_p) rfl (PVleL_refl _) ?_
  rintro r rfl
  simp only [go_sem, Nat.reduceBEq]
  refine call_pure2 hC (strict_sem) rfl (PVleL_refl _) ?_
  rintro r rfl
  simp only [go_sem, Nat.reduceBEq, Nat.reduceAdd, bookB, putCells]
  refine call_pure2 hC (saw_sem 0 1) rfl (PVleL_refl _) ?_
  rintro r rfl
  simp only [go_sem, Nat.reduceBEq, Nat.reduceAdd, Nat.reduceLeDiff, putCells]
  intro tk _
  refine call_pure2 hC (kn_q1 (.own tk 27 2)) rfl (PVleL_refl _) ?_
  rintro r rfl
  simp only [go_sem, Nat.reduceBEq, Nat.reduceAdd]
  refine call_pure2 hC (kn_q2 (.own tk 27 2)) rfl (PVleL_refl _) ?_
  rintro r rfl
  simp only [go_sem, Nat.reduceBEq]
  refine call_pure2 hC (own_sem) rfl (PVleL_refl _) ?_
  rintro r rfl
  simp only [go_sem, Nat.reduceBEq, Nat.reduceAdd, bookB, putCells]
  refine call_pure2 hC (saw_sem 0 16) rfl (PVleL_refl _) ?_
  rintro r rfl
  simp only [go_sem, Nat.reduceBEq, Nat.reduceAdd, Nat.reduceLeDiff, putCells]
  refine call_pure2 hC (kn_r .full) rfl (PVleL_refl _) ?_
  rintro r rfl
  simp only [go_sem, Nat.reduceBEq, Nat.reduceAdd]
  refine call_pure2 hC (kn_r2 .full) rfl (PVleL_refl _) ?_
  rintro r rfl
  simp only [go_sem, Nat.reduceBEq, Nat.reduceAdd]
  refine call_pure2 hC (kn_s .full) rfl (PVleL_refl _) ?_
  rintro r rfl
  simp only [go_sem, Nat.reduceBEq, Nat.reduceAdd]
  refine call_pure2 hC (kn_t .full) rfl (PVleL_refl _) ?_
  rintro r rfl
  simp only [go_sem, Nat.reduceBEq, Nat.reduceAdd, Nat.reduceLeDiff, List.length_cons, List.length_nil, List.map_nil, List.map_cons, decide_true]
  refine call_pure2 hC (Equal_sem [0, 1] [0, 1]) rfl ⟨PVle.refl _, PVle.sh _ _ _, trivial⟩ ?_
  rintro r rfl
  simp only [go_sem, Nat.reduceBEq, List.length_cons, List.length_nil, List.map_nil, List.map_cons, decide_true]
  refine call_pure2 hC (Equal_sem [1] [1]) rfl ⟨PVle.refl _, PVle.sh _ _ _, trivial⟩ ?_
  rintro r rfl
  simp only [go_sem, Nat.reduceBEq, List.length_cons, List.length_nil, List.map_nil, List.map_cons, Int.cast_ofNat_Int, decide_true]
  refine call_pure2 hC (Equal_sem [0] [0]) rfl ⟨PVle.refl _, PVle.sh _ _ _, trivial⟩ ?_
  rintro r rfl
  simp only [go_sem, Nat.reduceBEq, List.length_cons, List.length_nil, List.map_nil, List.map_cons, Int.cast_ofNat_Int, decide_true]
  refine call_pure2 hC (Equal_sem [0] [0]) rfl ⟨PVle.refl _, PVle.sh _ _ _, trivial⟩ ?_
  rintro r rfl
  simp only [go_sem, Nat.reduceBEq, decide_true]
  refine call_pure2 hC (marked_sem) rfl (PVleL_refl _) ?_
  rintro r rfl
  simp only [go_sem, Nat.reduceBEq]
  exact retQ_one rfl rfl
set_option maxHeartbeats 8000000 in
theorem known_mid {C : Con} (hC : ∀ f args rd K s, SemP Try.prog Fence.wide f args rd K s → C.call f args rd K s) (t : List (Nat × AV)) (L : List ABlk) (hL : L = List.replicate 43 .dead) (lv : List Nat) (hlv : lv.Nodup) :
    exec C ac4_13 (retC Try.prog [.tmp 0] (fun r => r = pb true)) ⟨t, L, lv, some [], 0⟩ := by
  unfold ac4_13
  have hL2 := hL
  subst hL
  simp only [go_sem]
  refine call_pure2 hC (odd_sem) rfl (PVleL_refl _) ?_
  rintro r rfl
  simp only [go_sem, Nat.reduceBEq]
  refine call_pure2 hC (kn_a) rfl (PVleL_refl _) ?_
  rintro r rfl
  simp only [go_sem, Nat.reduceBEq]
  refine call_pure2 hC (odd_sem) rfl (PVleL_refl _) ?_
  rintro r rfl
  simp only [go_sem, Nat.reduceBEq]
  refine call_pure2 hC (kn_c) rfl (PVleL_refl _) ?_
  rintro r rfl
  simp only [go_sem, Nat.reduceBEq]
  refine call_pure2 hC (odd_sem) rfl (PVleL_refl _) ?_
  rintro r rfl
  simp only [go_sem, Nat.reduceBEq]
  refine call_pure2 hC (kn_d) rfl (PVleL_refl _) ?_
  rintro r rfl
  simp only [go_sem, Nat.reduceBEq]
  refine call_pure2 hC (odd_sem) rfl (PVleL_refl _) ?_
  rintro r rfl
  simp only [go_sem, Nat.reduceBEq]
  refine call_pure2 hC (kn_e) rfl (PVleL_refl _) ?_
  rintro r rfl
  simp only [go_sem, Nat.reduceBEq]
  refine call_pure2 hC (odd_sem) rfl (PVleL_refl _) ?_
  rintro r rfl
  simp only [go_sem, Nat.reduceBEq]
  refine call_pure2 hC (kn_f) rfl (PVleL_refl _) ?_
  rintro r rfl
  simp only [go_sem, Nat.reduceBEq]
  refine call_pure2 hC (odd_sem) rfl (PVleL_refl _) ?_
  rintro r rfl
  simp only [go_sem, Nat.reduceBEq]
  refine call_pure2 hC (kn_g) rfl (PVleL_refl _) ?_
  rintro r rfl
  simp only [go_sem, Nat.reduceBEq]
  refine call_pure2 hC (odd_sem) rfl (PVleL_refl _) ?_
  rintro r rfl
  simp only [go_sem, Nat.reduceBEq]
  refine call_pure2 hC (kn_h) rfl (PVleL_refl _) ?_
  rintro r rfl
  simp only [go_sem, Nat.reduceBEq]
  refine call_pure2 hC (odd_sem) rfl (PVleL_refl _) ?_
  rintro r rfl
  simp only [go_sem, Nat.reduceBEq]
  refine call_pure2 hC (kn_i) rfl (PVleL_refl _) ?_
  rintro r rfl
  simp only [go_sem, Nat.reduceBEq]
  refine call_pure2 hC (odd_sem) rfl (PVleL_refl _) ?_
  rintro r rfl
  simp only [go_sem, Nat.reduceBEq]
  refine call_pure2 hC (kn_j) rfl (PVleL_refl _) ?_
  rintro r rfl
  simp only [go_sem, Nat.reduceBEq]
  refine call_pure2 hC (odd_sem) rfl (PVleL_refl _) ?_
  rintro r rfl
  simp only [go_sem, Nat.reduceBEq]
  refine call_pure2 hC (kn_k) rfl (PVleL_refl _) ?_
  rintro r rfl
  simp only [go_sem, Nat.reduceBEq]
  refine call_pure2 hC (strict_sem) rfl (PVleL_refl _) ?_
  rintro r rfl
  simp only [go_sem, Nat.reduceBEq]
  refine call_pure2 hC (kn_l) rfl (PVleL_refl _) ?_
  rintro r rfl
  simp only [go_sem, Nat.reduceBEq]
  refine call_pure2 hC (odd_sem) rfl (PVleL_refl _) ?_
  rintro r rfl
  simp only [go_sem, Nat.reduceBEq]
  refine call_pure2 hC (kn_m) rfl (PVleL_refl _) ?_
  rintro r rfl
  simp only [go_sem, Nat.reduceBEq, Nat.reduceAdd, Nat.reduceLeDiff, decide_false, not_true_eq_false]
  refine loop_kl 5 (fun _ => True) [43] (fun i => [(44, .p (pi i))]) (fun _ => List.replicate 43 .dead) trivial (by simp [Wk, wkT, wkL, look, AV.lo, ABlk.toZ, upS_eq, keepS_nil, keepS_cons, hlv]) ?_
  rintro i ⟨hi, -⟩
  have hi6 : i = 0 ∨ i = 1 ∨ i = 2 ∨ i = 3 ∨ i = 4 ∨ i = 5 := by omega
  rcases hi6 with rfl | rfl | rfl | rfl | rfl | rfl
  · simp only [go_sem, Nat.reduceBEq, Nat.reduceAdd, kd_0, ix3_0, ix3_1, List.length_cons, List.length_nil, Int.cast_ofNat_Int, decide_true, Bool.false_eq_true, Int.reduceLT]
    refine call_pure2 hC (own_sem) rfl (PVleL_refl _) ?_
    rintro r rfl
    simp only [go_sem, Nat.reduceBEq]
    refine call_pure2 hC (kn_k0) rfl (PVleL_refl _) ?_
    rintro r rfl
    simp only [go_sem, Nat.reduceBEq, kd_0, ix3_2, decide_false, not_true_eq_false]
    refine ⟨⟨1, by omega, trivial⟩, by simp only; omega, ?_⟩
    simp [hlv, Wk, wkT, wkL, look, AV.lo, ABlk.toZ, show IntKind.i64.wrap 1 = 1 from rfl]
  · simp only [go_sem, Nat.reduceBEq, Nat.reduceAdd, kd_1, ix3_0, ix3_1, List.length_cons, List.length_nil, Int.cast_ofNat_Int, decide_true, Bool.false_eq_true, Int.reduceLT]
    refine call_pure2 hC (own_sem) rfl (PVleL_refl _) ?_
    rintro r rfl
    simp only [go_sem, Nat.reduceBEq]
    refine call_pure2 hC (kn_k1) rfl (PVleL_refl _) ?_
    rintro r rfl
    simp only [go_sem, Nat.reduceBEq, kd_1, ix3_2, decide_false, not_true_eq_false]
    refine ⟨⟨2, by omega, trivial⟩, by simp only; omega, ?_⟩
    simp [hlv, Wk, wkT, wkL, look, AV.lo, ABlk.toZ, show IntKind.i64.wrap 2 = 2 from rfl]
  · simp only [go_sem, Nat.reduceBEq, Nat.reduceAdd, kd_2, ix3_0, ix3_1, List.length_cons, List.length_nil, Int.cast_ofNat_Int, decide_true, Bool.false_eq_true, Int.reduceLT]
    refine call_pure2 hC (own_sem) rfl (PVleL_refl _) ?_
    rintro r rfl
    simp only [go_sem, Nat.reduceBEq]
    refine call_pure2 hC (kn_k2) rfl (PVleL_refl _) ?_
    rintro r rfl
    simp only [go_sem, Nat.reduceBEq, kd_2, ix3_2, decide_false, not_true_eq_false]
    refine ⟨⟨3, by omega, trivial⟩, by simp only; omega, ?_⟩
    simp [hlv, Wk, wkT, wkL, look, AV.lo, ABlk.toZ, show IntKind.i64.wrap 3 = 3 from rfl]
  · simp only [go_sem, Nat.reduceBEq, Nat.reduceAdd, kd_3, ix3_0, ix3_1, List.length_cons, List.length_nil, Int.cast_ofNat_Int, decide_true, Bool.false_eq_true, Int.reduceLT]
    refine call_pure2 hC (own_sem) rfl (PVleL_refl _) ?_
    rintro r rfl
    simp only [go_sem, Nat.reduceBEq]
    refine call_pure2 hC (kn_k3) rfl (PVleL_refl _) ?_
    rintro r rfl
    simp only [go_sem, Nat.reduceBEq, kd_3, ix3_2, decide_false, not_true_eq_false]
    refine ⟨⟨4, by omega, trivial⟩, by simp only; omega, ?_⟩
    simp [hlv, Wk, wkT, wkL, look, AV.lo, ABlk.toZ, show IntKind.i64.wrap 4 = 4 from rfl]
  · simp only [go_sem, Nat.reduceBEq, Nat.reduceAdd, kd_4, ix3_0, ix3_1, List.length_cons, List.length_nil, Int.cast_ofNat_Int, decide_true, Bool.false_eq_true, Int.reduceLT]
    refine call_pure2 hC (own_sem) rfl (PVleL_refl _) ?_
    rintro r rfl
    simp only [go_sem, Nat.reduceBEq]
    refine call_pure2 hC (kn_k4) rfl (PVleL_refl _) ?_
    rintro r rfl
    simp only [go_sem, Nat.reduceBEq, kd_4, ix3_2, decide_false, not_true_eq_false]
    refine ⟨⟨5, by omega, trivial⟩, by simp only; omega, ?_⟩
    simp [hlv, Wk, wkT, wkL, look, AV.lo, ABlk.toZ, show IntKind.i64.wrap 5 = 5 from rfl]
  · simp only [go_sem, Nat.reduceBEq, Nat.reduceAdd, List.length_cons, List.length_nil, Int.cast_ofNat_Int, decide_false, Int.reduceLT]
    exact known_end hC _ _ rfl _
end Go.Proofs.Ytlbolnlcncjijaa.Mk
namespace Go.Proofs.Ytlbolnlcncjijaa.Mk
open Go.RowKit Ls
theorem s3_1 {id : Nat} : iadrS' 1 (AV.sli id 3 1) (AV.p (PV.val (Value.int IntKind.i64 1))) = some (.loc id 1) := rfl
theorem s3_2 {id : Nat} : iadrS' 1 (AV.sli id 3 1) (AV.p (PV.val (Value.int IntKind.i64 2))) = some (.loc id 2) := rfl
theorem s32_0 {id : Nat} : iadrS' 2 (AV.sli id 3 2) (AV.p (PV.val (Value.int IntKind.i64 0))) = some (.loc id 0) := rfl
set_option maxRecDepth 100000 in
set_option maxHeartbeats 4000000 in
theorem Known_law : Sem1 4 [] (pb true) := by
  refine semC_of_exec' mixed Try.func4 (by kernel_rfl) (by kernel_rfl) ac4_ok 0 rfl (by decide) [(.tmp 0)] (by kernel_rfl) ?_
  intro hr C hC hI
  unfold ac4
  simp only [go_sem, Nat.reduceBEq, Nat.reduceAdd, Nat.reduceLeDiff, putCells]
  refine call_pure2 hC (own_sem) rfl (PVleL_refl _) ?_
  rintro r rfl
  simp only [go_sem]
  refine call_pure2 hC (own_sem) rfl (PVleL_refl _) ?_
  rintro r rfl
  simp only [go_sem]
  refine call_mem2 hC [] (own_semM) rfl (by decide) rfl rfl rfl rfl (by simp) ?_
  rintro r L' ys' ⟨rfl, rfl, rfl⟩ -
  rw [upd0]
  simp only [List.map_cons, List.map_nil, mAt_nil, renB_cells, AV.ren, AV.ren.renL, List.length_nil, Nat.zero_add, Nat.reduceAdd, List.nil_append]
  simp only [go_sem]
  refine call_mem2 hC [] (own_semM) rfl (by decide) rfl rfl rfl rfl (by simp) ?_
  rintro r L' ys' ⟨rfl, rfl, rfl⟩ -
  rw [upd0]
  simp only [List.map_cons, List.map_nil, mAt_nil, renB_cells, AV.ren, AV.ren.renL, List.length_cons, List.length_nil, Nat.zero_add, Nat.reduceAdd, List.nil_append, List.cons_append]
  simp only [go_sem]
  refine call_mem2 hC [] (own_semM) rfl (by decide) rfl rfl rfl rfl (by simp) ?_
  rintro r L' ys' ⟨rfl, rfl, rfl⟩ -
  rw [upd0]
  simp only [List.map_cons, List.map_nil, mAt_nil, renB_cells, AV.ren, AV.ren.renL, List.length_cons, List.length_nil, Nat.zero_add, Nat.reduceAdd, List.nil_append, List.cons_append]
  simp only [go_sem]
  refine call_mem2 hC [] (own_semM) rfl (by decide) rfl rfl rfl rfl (by simp) ?_
  rintro r L' ys' ⟨rfl, rfl, rfl⟩ -
  rw [upd0]
  simp only [List.map_cons, List.map_nil, mAt_nil, renB_cells, AV.ren, AV.ren.renL, List.length_cons, List.length_nil, Nat.zero_add, Nat.reduceAdd, List.nil_append, List.cons_append]
  simp only [go_sem]
  refine call_mem2 hC [] (own_semM) rfl (by decide) rfl rfl rfl rfl (by simp) ?_
  rintro r L' ys' ⟨rfl, rfl, rfl⟩ -
  rw [upd0]
  simp only [List.map_cons, List.map_nil, mAt_nil, renB_cells, AV.ren, AV.ren.renL, List.length_cons, List.length_nil, Nat.zero_add, Nat.reduceAdd, List.nil_append, List.cons_append]
  simp only [go_sem]
  refine call_mem2 hC [] (own_semM) rfl (by decide) rfl rfl rfl rfl (by simp) ?_
  rintro r L' ys' ⟨rfl, rfl, rfl⟩ -
  rw [upd0]
  simp only [List.map_cons, List.map_nil, mAt_nil, renB_cells, AV.ren, AV.ren.renL, List.length_cons, List.length_nil, Nat.zero_add, Nat.reduceAdd, List.nil_append, List.cons_append]
  simp only [go_sem]
  refine call_pure2 hC (own_sem) rfl (PVleL_refl _) ?_
  rintro r rfl
  simp only [go_sem]
  refine call_pure2 hC (own_sem) rfl (PVleL_refl _) ?_
  rintro r rfl
  simp only [go_sem]
  refine call_pure2 hC (book_sem 4) rfl (PVleL_refl _) ?_
  rintro r rfl
  simp only [go_sem]
  refine call_pure2 hC (book_sem (-1)) rfl (PVleL_refl _) ?_
  rintro r rfl
  simp only [go_sem, Nat.reduceBEq, Nat.reduceAdd, Nat.reduceLeDiff, bookB, putCells, sb_2, sb_3, sb_4, sb_5, sb_6, sb_7, sb_8, sb_9, sb_10, sb_11, s3_1, s3_2, s32_0]
  intro x hx x1 h1 y h2
  have hnd : [y, x].Nodup := by
    have : ¬ y = x := fun e => h2 (.inr e)
    simp [this]
  exact known_loop hC _ rfl x y [y, x] hnd fun t => known_mid hC t _ rfl _ hnd
theorem Known_row : SemC Try.prog 4 [] (fun r => r = pb true) := Known_law
end Go.Proofs.Ytlbolnlcncjijaa.Mk
namespace Go.Proofs.Ytlbolnlcncjijaa
open Go.Proofs.Ytlbolnlcncjijaa Go.ChangeShapes Go.WideShapes Go.ChangeAt Go.RowKit Go.Deep

set_option maxRecDepth 100000 in
theorem makerKnown_lifted (os : Os) (started : os.Started) (H : Type) (enc : TypeId × Value → H) :
    ReturnsInHanded {} Try.checked os 4 .any (Rows.makerKnownSpec.pre6 enc Try.prog Try.f4 Rows.makerKnownRow.domain false) (Rows.makerKnownSpec.post enc Try.prog Try.f4 false true false false) := by
  refine returnsInHanded_of_change_sized (C := Try.checked) ownKnobs started (by kernel_rfl) Try.func4
    (ChangeSpec.witness6 (enc := enc) (C := Try.checked) false ⟨#[], #[], []⟩ 8 (by kernel_rfl) (by kernel_rfl) (by kernel_rfl) (by kernel_rfl)) ?_
  intro W base args ds gs before hval0 hW hcnd hsz0 _
  have hval : ∀ (j : Nat) t v, Try.f4.params[j]? = some t → args[j]? = some v → Value.okWide Try.prog W .any base t v := hval0
  have hsz : (DataW.weightsEach Try.prog (Try.f4.params.toList ++ Rows.makerKnownSpec.plain.varTypes Try.prog) (ds ++ gs)).all (· ≤ reachBytes) = true := hsz0
  have hW' := hW
  obtain ⟨p, q, hA0, hV, rfl, hfz, hnd⟩ := hW
  have hA : DataW.TrodAll enc Try.prog W 0 (fun _ => true) true Try.f4.params.toList args.toList ds p := hA0
  rw [Try.params4] at hA hval hsz
  obtain ⟨hargs, rfl, rfl⟩ := trodAll_nil hA
  obtain rfl : args = #[] := by cases args; simp_all
  obtain ⟨rfl, rfl⟩ := trodVars_none hV
  clear hA0 hval0 hsz0
  refine (law_calls (Mk.Known_row ) argsP_nil).mono fun e W' ⟨he, bel⟩ => ?_
  subst he
  exact ⟨_, rfl, _, _, _, [], _, [], hW', trodAll_mk1 (shut_bool Try.underlying4 _), trodAll_mk0, rfl, bel.frame _, fun h => by cases h⟩

theorem makerKnown_joined : joinedFacts Try.prog 4 Try.f4 Rows.makerKnownSpec Rows.makerKnownRow = true := by
  simp only [joinedFacts, Bool.and_eq_true]
  repeat' apply And.intro
  all_goals first | with_reducible exact laidOut | with_reducible exact mapsR | with_reducible exact stopsH | with_reducible exact mayE | (rw [lift0]; kernel_rfl) | (rw [make0]; kernel_rfl) | kernel_rfl

theorem makerKnown_holds : Rows.MakerKnownSaid :=
  OpenClaim.holds_of_wide 4 Try.f4 rfl rfl rfl rfl rfl rfl rfl ⟨rfl, rfl, rfl, rfl, rfl⟩ rfl rfl rfl rfl rfl (by kernel_rfl) Try.func4 makerKnown_joined
    (of_decide_eq_true (by kernel_rfl)) (by unfold Func.isWrapper; first | (rw [if_pos (by decide +kernel)]; kernel_rfl) | (rw [if_neg (by decide +kernel)]; exact ⟨rfl, rfl⟩))
    (fun os started H enc _ => makerKnown_lifted os started H enc)
end Go.Proofs.Ytlbolnlcncjijaa
