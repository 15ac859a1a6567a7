/- DappleRows returns true: Whose and New return what the specification returns, for every book and every row; no condition. Law: DappleRows. -/
import Derived.Test.YtlghbmancjjdjaaKr08
import Derived.Test.YtlghbmancjjdjaaGa16
namespace Go.Proofs.Ytlghbmancjjdjaa
open Go.RowKit
def ac4 : AC := (AC.seq (AC.ops [(AOp.mk (some 2) (AK.box 2 (AX.t 0)) none 0 false true), (AOp.mk (some 4) (AK.mv (AX.c (PV.val (Value.bool false)))) none 1 false true)]) (AC.seq (AC.ops [(AOp.mk (some 10) (AK.ld (some 2) (AX.t 2)) none 0 false true), (AOp.mk (some 11) (AK.mv (AX.t 1)) none 1 false true), (AOp.mk (some 12) (AK.call 26 [(AX.t 10), (AX.t 11)]) none 2 false true), (AOp.mk (some 9) (AK.mv (AX.t 12)) none 3 false true), (AOp.mk (some 13) (AK.ext (AX.t 9) 0) none 4 false true), (AOp.mk (some 14) (AK.ext (AX.t 9) 1) none 5 false true), (AOp.mk (some 5) (AK.mv (AX.t 13)) none 6 false true), (AOp.mk (some 6) (AK.mv (AX.t 14)) none 7 false true)]) (AC.seq (AC.ops [(AOp.mk (some 16) (AK.ld (some 2) (AX.t 2)) none 0 false true), (AOp.mk (some 17) (AK.mv (AX.t 1)) none 1 false true), (AOp.mk (some 18) (AK.call 27 [(AX.t 16), (AX.t 17)]) none 2 false true), (AOp.mk (some 15) (AK.mv (AX.t 18)) none 3 false true), (AOp.mk (some 19) (AK.ext (AX.t 15) 0) none 4 false true), (AOp.mk (some 20) (AK.ext (AX.t 15) 1) none 5 false true), (AOp.mk (some 7) (AK.mv (AX.t 19)) none 6 false true), (AOp.mk (some 8) (AK.mv (AX.t 20)) none 7 false true)]) (AC.seq (AC.seq (AC.ops [(AOp.mk (some 21) (AK.mv (AX.t 5)) none 0 false true), (AOp.mk (some 22) (AK.mv (AX.t 7)) none 1 false true), (AOp.mk (some 23) (AK.call 20 [(AX.t 21), (AX.t 22)]) none 2 false true), (AOp.mk (some 24) (AK.un UnOp.not (AX.t 23)) none 3 false true), (AOp.mk (some 25) (AK.mv (AX.t 24)) none 4 false true), (AOp.mk (some 26) (AK.mv (AX.t 6)) (some (25, false)) 5 false true), (AOp.mk (some 27) (AK.mv (AX.t 8)) (some (25, false)) 6 false true), (AOp.mk (some 28) (AK.bin false BinOp.neq (AX.t 26) (AX.t 27)) (some (25, false)) 7 false true), (AOp.mk (some 29) (AK.pick (AX.t 25) (AX.c (PV.val (Value.bool true))) (AX.t 28)) none 8 false true)]) (AC.cond (AX.t 29) (AC.seq (AC.ops [(AOp.mk (some 4) (AK.mv (AX.c (PV.val (Value.bool false)))) none 0 false true)]) AC.ret) AC.skip)) (AC.seq (AC.ops [(AOp.mk (some 31) (AK.ld (some 2) (AX.t 2)) none 0 false true), (AOp.mk (some 32) (AK.call 28 [(AX.t 31)]) none 1 false true), (AOp.mk (some 30) (AK.mv (AX.t 32)) none 2 false true), (AOp.mk (some 33) (AK.ext (AX.t 30) 0) none 3 false true), (AOp.mk (some 34) (AK.ext (AX.t 30) 1) none 4 false true), (AOp.mk (some 5) (AK.mv (AX.t 33)) none 5 false true), (AOp.mk (some 6) (AK.mv (AX.t 34)) none 6 false true)]) (AC.seq (AC.ops [(AOp.mk (some 36) (AK.ld (some 2) (AX.t 2)) none 0 false true), (AOp.mk (some 37) (AK.call 29 [(AX.t 36)]) none 1 false true), (AOp.mk (some 35) (AK.mv (AX.t 37)) none 2 false true), (AOp.mk (some 38) (AK.ext (AX.t 35) 0) none 3 false true), (AOp.mk (some 39) (AK.ext (AX.t 35) 1) none 4 false true), (AOp.mk (some 7) (AK.mv (AX.t 38)) none 5 false true), (AOp.mk (some 8) (AK.mv (AX.t 39)) none 6 false true)]) (AC.seq (AC.ops [(AOp.mk (some 40) (AK.mv (AX.t 5)) none 0 false true), (AOp.mk (some 41) (AK.mv (AX.t 7)) none 1 false true), (AOp.mk (some 42) (AK.call 20 [(AX.t 40), (AX.t 41)]) none 2 false true), (AOp.mk (some 43) (AK.mv (AX.t 42)) none 3 false true), (AOp.mk (some 44) (AK.mv (AX.t 6)) (some (43, true)) 4 false true), (AOp.mk (some 45) (AK.mv (AX.t 8)) (some (43, true)) 5 false true), (AOp.mk (some 46) (AK.bin false BinOp.eql (AX.t 44) (AX.t 45)) (some (43, true)) 6 false true), (AOp.mk (some 47) (AK.pick (AX.t 43) (AX.t 46) (AX.c (PV.val (Value.bool false)))) none 7 false true), (AOp.mk (some 48) (AK.mv (AX.t 47)) none 8 false true), (AOp.mk (some 49) (AK.call 25 []) (some (48, true)) 9 false true), (AOp.mk (some 50) (AK.pick (AX.t 48) (AX.t 49) (AX.c (PV.val (Value.bool false)))) none 10 false true), (AOp.mk (some 4) (AK.mv (AX.t 50)) none 11 false true)]) AC.ret)))))))
theorem ac4_ok : cCode Try.prog (fun _ => false) Try.f4.ntmps (Try.f4.body.getD .skip) = some ac4 := by kernel_rfl
theorem both_whose (k : SK) (b : DBook) (r : List Int) : ∃ l e, Sem1 26 [.agg (bookC k b), pis r] (.tup [pis l, pi e]) ∧ Sem1 27 [.agg (bookC k b), pis r] (.tup [pis l, pi e]) := by
  have h1 := Whose_sem k b r
  have h2 := rWhose_sem k b r
  by_cases h : errI b (decide (okRow b r)) = 0
  · rw [if_pos h] at h1 h2
    exact ⟨_, _, h1, h2⟩
  · rw [if_neg h] at h1 h2
    exact ⟨_, _, h1, h2⟩
theorem newR_eq (b : DBook) : ∃ l e, newR b = .tup [pis l, pi e] := by
  unfold newR
  split
  · split
    · exact ⟨_, _, rfl⟩
    · exact ⟨_, _, rfl⟩
  · exact ⟨_, _, rfl⟩
set_option maxRecDepth 100000 in
theorem Rows_law (k : SK) (b : DBook) (r : List Int) : Sem1 4 [.agg (bookC k b), pis r] (pb true) := by
  obtain ⟨l, e, a1, a2⟩ := both_whose k b r
  obtain ⟨z, e', hz⟩ := newR_eq b
  have a3 := New_sem k b
  have a4 := rNew_sem k b
  rw [hz] at a3 a4
  refine semC_of_exec' mixed Try.func4 (by kernel_rfl) (by kernel_rfl) ac4_ok 2 rfl (by decide) [(.tmp 4)] (by kernel_rfl) ?_
  intro hr C hC hI
  unfold ac4
  simp only [go_sem, Nat.reduceBEq, Nat.reduceAdd]
  refine call_pure2 hC (a1) rfl (PVleL_refl _) ?_
  rintro r rfl
  simp only [go_sem, Nat.reduceBEq, Nat.reduceAdd]
  refine call_pure2 hC (a2) rfl (PVleL_refl _) ?_
  rintro r rfl
  simp only [go_sem, Nat.reduceBEq]
  refine call_pure2 hC (Equal_sem l l) rfl (PVleL_refl _) ?_
  rintro r rfl
  simp only [go_sem, Nat.reduceBEq, Nat.reduceAdd, decide_true, decide_false, not_true_eq_false]
  refine call_pure2 hC (a3) rfl (PVleL_refl _) ?_
  rintro r rfl
  simp only [go_sem, Nat.reduceBEq, Nat.reduceAdd]
  refine call_pure2 hC (a4) rfl (PVleL_refl _) ?_
  rintro r rfl
  simp only [go_sem, Nat.reduceBEq]
  refine call_pure2 hC (Equal_sem z z) rfl (PVleL_refl _) ?_
  rintro r rfl
  simp only [go_sem, Nat.reduceBEq, decide_true]
  refine call_pure2 hC (pressed_sem) rfl (PVleL_refl _) ?_
  rintro r rfl
  simp only [go_sem, Nat.reduceBEq]
  exact retQ_one rfl rfl
set_option maxRecDepth 100000 in
theorem Rows_row {l0 l1 : List PV} (T0 : Ty Try.prog 10 24 l0) (T1 : Ty Try.prog 10 26 l1) : SemC Try.prog 4 [argPV Try.prog 24 l0, argPV Try.prog 26 l1] (fun r => r = pb true) := by
  obtain ⟨b, rfl⟩ := ty_book T0
  obtain ⟨l, rfl⟩ := ty_ints T1
  rw [argStruct Try.underlying24, argSlice Try.underlying26]
  exact Rows_law .sh b l
end Go.Proofs.Ytlghbmancjjdjaa
namespace Go.Proofs.Ytlghbmancjjdjaa
open Go.Proofs.Ytlghbmancjjdjaa Go.ChangeShapes Go.WideShapes Go.ChangeAt Go.RowKit Go.Deep

set_option maxRecDepth 100000 in
theorem dappleRows_lifted (os : Os) (started : os.Started) (H : Type) (enc : TypeId × Value → H) :
    ReturnsInHanded {} Try.checked os 4 .any (Rows.dappleRowsSpec.pre6 enc Try.prog Try.f4 Rows.dappleRowsRow.domain false) (Rows.dappleRowsSpec.post enc Try.prog Try.f4 false true false false) := by
  refine returnsInHanded_of_change_sized (C := Try.checked) ownKnobs started (by kernel_rfl) Try.func4
    (ChangeSpec.witness6 (enc := enc) (C := Try.checked) false ⟨#[], #[.agg #[.int .i64 0, .slice none 0 0], .slice none 0 0], []⟩ 8 (by kernel_rfl) (by kernel_rfl) (by kernel_rfl) (by kernel_rfl)) ?_
  intro W base args ds gs before hval0 hW hcnd hsz0 _
  have hval : ∀ (j : Nat) t v, Try.f4.params[j]? = some t → args[j]? = some v → Value.okWide Try.prog W .any base t v := hval0
  have hsz : (DataW.weightsEach Try.prog (Try.f4.params.toList ++ Rows.dappleRowsSpec.plain.varTypes Try.prog) (ds ++ gs)).all (· ≤ reachBytes) = true := hsz0
  have hW' := hW
  obtain ⟨p, q, hA0, hV, rfl, hfz, hnd⟩ := hW
  have hA : DataW.TrodAll enc Try.prog W 0 (fun _ => true) true Try.f4.params.toList args.toList ds p := hA0
  rw [Try.params4] at hA hval hsz
  obtain ⟨v0, vs0, d0, ds0, p0, q0, hargs, rfl, rfl, h0, r0⟩ := trodAll_cons hA
  obtain ⟨v1, vs1, d1, ds1, p1, q1, rfl, rfl, rfl, h1, r1⟩ := trodAll_cons r0
  obtain ⟨rfl, rfl, rfl⟩ := trodAll_nil r1
  obtain rfl : args = #[v0, v1] := by cases args; simp_all
  obtain ⟨rfl, rfl⟩ := trodVars_none hV
  have lt0 : ∀ x ∈ p0, x.block < W.heap.size := by obtain ⟨m, hm⟩ := h0; exact DataW.trod_lt m _ _ _ hm
  have lt1 : ∀ x ∈ p1, x.block < W.heap.size := by obtain ⟨m, hm⟩ := h1; exact DataW.trod_lt m _ _ _ hm
  have z0 : SizedP Try.prog 24 d0 := sizedP_each hsz (j := 0) rfl rfl
  obtain ⟨l0, T0, R0⟩ := rd_arg 10 (by kernel_rfl) (hval 0 24 v0 rfl rfl) h0 z0
  have z1 : SizedP Try.prog 26 d1 := sizedP_each hsz (j := 1) rfl rfl
  obtain ⟨l1, T1, R1⟩ := rd_arg 10 (by kernel_rfl) (hval 1 26 v1 rfl rfl) h1 z1
  clear hA0 hval0 hsz0
  refine (law_calls (Rows_row T0 T1) (argsP_cons R0 (argsP_cons R1 argsP_nil))).mono fun e W' ⟨he, bel⟩ => ?_
  subst he
  exact ⟨_, rfl, _, _, _, [], _, [], hW', trodAll_mk1 (shut_bool Try.underlying4 _), (trodAll_cons_mk (Below.trod laidOut (by kernel_rfl) (of_decide_eq_true (by kernel_rfl)) h0 bel lt0) (trodAll_cons_mk (Below.trod laidOut (by kernel_rfl) (of_decide_eq_true (by kernel_rfl)) h1 bel lt1) trodAll_mk0)), rfl, bel.frame _, fun h => by cases h⟩

theorem dappleRows_holds : Rows.DappleRowsSaid :=
  OpenClaim.holds_of_wide 4 Try.f4 rfl rfl rfl rfl rfl rfl rfl ⟨rfl, rfl, rfl, rfl, rfl⟩ rfl rfl rfl rfl rfl (by kernel_rfl) Try.func4 (by kernel_rfl)
    (of_decide_eq_true (by kernel_rfl)) (by unfold Func.isWrapper; first | (rw [if_pos (by decide +kernel)]; kernel_rfl) | (rw [if_neg (by decide +kernel)]; exact ⟨rfl, rfl⟩))
    (fun os started H enc _ => dappleRows_lifted os started H enc)
end Go.Proofs.Ytlghbmancjjdjaa
