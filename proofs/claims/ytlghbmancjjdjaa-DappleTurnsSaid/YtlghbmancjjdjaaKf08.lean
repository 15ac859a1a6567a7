/- DappleTurns returns true: Check, Turns and Same return what the specification returns, for every book and all numbers; no condition. Law: DappleTurns. -/
import Derived.Test.YtlghbmancjjdjaaKf07
import Derived.Test.YtlghbmancjjdjaaGa16
namespace Go.Proofs.Ytlghbmancjjdjaa
open Go.RowKit
def ac3 : AC := (AC.seq (AC.ops [(AOp.mk (some 2) (AK.box 2 (AX.t 0)) none 0 false true), (AOp.mk (some 3) (AK.box 2 (AX.t 1)) none 1 false true), (AOp.mk (some 4) (AK.mv (AX.c (PV.val (Value.bool false)))) none 2 false true)]) (AC.seq (AC.ops [(AOp.mk (some 12) (AK.ld (some 2) (AX.t 2)) none 0 false true), (AOp.mk (some 13) (AK.iadrA 1 2 (AX.t 3) (AX.c (PV.val (Value.int IntKind.i64 0)))) none 1 false true), (AOp.mk (some 14) (AK.ld none (AX.t 13)) none 2 false true), (AOp.mk (some 15) (AK.iadrA 1 2 (AX.t 3) (AX.c (PV.val (Value.int IntKind.i64 1)))) none 3 false true), (AOp.mk (some 16) (AK.ld none (AX.t 15)) none 4 false true), (AOp.mk (some 17) (AK.call 18 [(AX.t 12), (AX.t 14), (AX.t 16)]) none 5 false true), (AOp.mk (some 11) (AK.mv (AX.t 17)) none 6 false true), (AOp.mk (some 18) (AK.ext (AX.t 11) 0) none 7 false true), (AOp.mk (some 19) (AK.ext (AX.t 11) 1) none 8 false true), (AOp.mk (some 5) (AK.mv (AX.t 18)) none 9 false true), (AOp.mk (some 6) (AK.mv (AX.t 19)) none 10 false true)]) (AC.seq (AC.ops [(AOp.mk (some 21) (AK.ld (some 2) (AX.t 2)) none 0 false true), (AOp.mk (some 22) (AK.iadrA 1 2 (AX.t 3) (AX.c (PV.val (Value.int IntKind.i64 0)))) none 1 false true), (AOp.mk (some 23) (AK.ld none (AX.t 22)) none 2 false true), (AOp.mk (some 24) (AK.iadrA 1 2 (AX.t 3) (AX.c (PV.val (Value.int IntKind.i64 1)))) none 3 false true), (AOp.mk (some 25) (AK.ld none (AX.t 24)) none 4 false true), (AOp.mk (some 26) (AK.call 19 [(AX.t 21), (AX.t 23), (AX.t 25)]) none 5 false true), (AOp.mk (some 20) (AK.mv (AX.t 26)) none 6 false true), (AOp.mk (some 27) (AK.ext (AX.t 20) 0) none 7 false true), (AOp.mk (some 28) (AK.ext (AX.t 20) 1) none 8 false true), (AOp.mk (some 7) (AK.mv (AX.t 27)) none 9 false true), (AOp.mk (some 8) (AK.mv (AX.t 28)) none 10 false true)]) (AC.seq (AC.seq (AC.ops [(AOp.mk (some 29) (AK.mv (AX.t 5)) none 0 true false), (AOp.mk (some 30) (AK.mv (AX.t 7)) none 1 true false), (AOp.mk (some 31) (AK.call 20 [(AX.t 29), (AX.t 30)]) none 2 false true), (AOp.mk (some 32) (AK.un UnOp.not (AX.t 31)) none 3 true true), (AOp.mk (some 33) (AK.mv (AX.t 32)) none 4 true true), (AOp.mk (some 34) (AK.mv (AX.t 6)) (some (33, false)) 5 true false), (AOp.mk (some 35) (AK.mv (AX.t 8)) (some (33, false)) 6 true false), (AOp.mk (some 36) (AK.bin false BinOp.neq (AX.t 34) (AX.t 35)) (some (33, false)) 7 true true), (AOp.mk (some 37) (AK.pick (AX.t 33) (AX.c (PV.val (Value.bool true))) (AX.t 36)) none 8 true true), (AOp.mk (some 38) (AK.mv (AX.t 37)) none 9 true true), (AOp.mk (some 39) (AK.ld (some 2) (AX.t 2)) (some (38, false)) 10 true false), (AOp.mk (some 41) (AK.ld (some 2) (AX.t 2)) (some (38, false)) 12 true false), (AOp.mk (some 40) (AK.call 21 [(AX.t 39)]) (some (38, false)) 11 false false), (AOp.mk (some 42) (AK.call 22 [(AX.t 41)]) (some (38, false)) 13 false true), (AOp.mk (some 43) (AK.bin false BinOp.neq (AX.t 40) (AX.t 42)) (some (38, false)) 14 true true), (AOp.mk (some 44) (AK.pick (AX.t 38) (AX.c (PV.val (Value.bool true))) (AX.t 43)) none 15 true true)]) (AC.cond (AX.t 44) (AC.seq (AC.ops [(AOp.mk (some 4) (AK.mv (AX.c (PV.val (Value.bool false)))) none 0 false true)]) AC.ret) AC.skip)) (AC.seq (AC.ops [(AOp.mk (some 46) (AK.ld (some 2) (AX.t 2)) none 0 false true), (AOp.mk (some 47) (AK.iadrA 1 2 (AX.t 3) (AX.c (PV.val (Value.int IntKind.i64 0)))) none 1 false true), (AOp.mk (some 48) (AK.ld none (AX.t 47)) none 2 false true), (AOp.mk (some 49) (AK.iadrA 1 2 (AX.t 3) (AX.c (PV.val (Value.int IntKind.i64 1)))) none 3 false true), (AOp.mk (some 50) (AK.ld none (AX.t 49)) none 4 false true), (AOp.mk (some 51) (AK.call 23 [(AX.t 46), (AX.t 48), (AX.t 50)]) none 5 false true), (AOp.mk (some 45) (AK.mv (AX.t 51)) none 6 false true), (AOp.mk (some 52) (AK.ext (AX.t 45) 0) none 7 false true), (AOp.mk (some 53) (AK.ext (AX.t 45) 1) none 8 false true), (AOp.mk (some 9) (AK.mv (AX.t 52)) none 9 false true), (AOp.mk (some 6) (AK.mv (AX.t 53)) none 10 false true)]) (AC.seq (AC.ops [(AOp.mk (some 55) (AK.ld (some 2) (AX.t 2)) none 0 false true), (AOp.mk (some 56) (AK.iadrA 1 2 (AX.t 3) (AX.c (PV.val (Value.int IntKind.i64 0)))) none 1 false true), (AOp.mk (some 57) (AK.ld none (AX.t 56)) none 2 false true), (AOp.mk (some 58) (AK.iadrA 1 2 (AX.t 3) (AX.c (PV.val (Value.int IntKind.i64 1)))) none 3 false true), (AOp.mk (some 59) (AK.ld none (AX.t 58)) none 4 false true), (AOp.mk (some 60) (AK.call 24 [(AX.t 55), (AX.t 57), (AX.t 59)]) none 5 false true), (AOp.mk (some 54) (AK.mv (AX.t 60)) none 6 false true), (AOp.mk (some 61) (AK.ext (AX.t 54) 0) none 7 false true), (AOp.mk (some 62) (AK.ext (AX.t 54) 1) none 8 false true), (AOp.mk (some 10) (AK.mv (AX.t 61)) none 9 false true), (AOp.mk (some 8) (AK.mv (AX.t 62)) none 10 false true)]) (AC.seq (AC.ops [(AOp.mk (some 63) (AK.mv (AX.t 9)) none 0 false true), (AOp.mk (some 64) (AK.mv (AX.t 10)) none 1 false true), (AOp.mk (some 65) (AK.bin false BinOp.eql (AX.t 63) (AX.t 64)) none 2 false true), (AOp.mk (some 66) (AK.mv (AX.t 65)) none 3 false true), (AOp.mk (some 67) (AK.mv (AX.t 6)) (some (66, true)) 4 false true), (AOp.mk (some 68) (AK.mv (AX.t 8)) (some (66, true)) 5 false true), (AOp.mk (some 69) (AK.bin false BinOp.eql (AX.t 67) (AX.t 68)) (some (66, true)) 6 false true), (AOp.mk (some 70) (AK.pick (AX.t 66) (AX.t 69) (AX.c (PV.val (Value.bool false)))) none 7 false true), (AOp.mk (some 71) (AK.mv (AX.t 70)) none 8 false true), (AOp.mk (some 72) (AK.call 25 []) (some (71, true)) 9 false true), (AOp.mk (some 73) (AK.pick (AX.t 71) (AX.t 72) (AX.c (PV.val (Value.bool false)))) none 10 false true), (AOp.mk (some 4) (AK.mv (AX.t 73)) none 11 false true)]) AC.ret)))))))
theorem ac3_ok : cCode Try.prog (fun _ => false) Try.f3.ntmps (Try.f3.body.getD .skip) = some ac3 := by kernel_rfl
theorem both_turns (k : SK) (b : DBook) (n m : Int) : ∃ l e, Sem1 18 [.agg (bookC k b), pi n, pi m] (.tup [pis l, pi e]) ∧ Sem1 19 [.agg (bookC k b), pi n, pi m] (.tup [pis l, pi e]) := by
  have h1 := Turns_sem k b n m
  have h2 := rTurns_sem k b n m
  by_cases h : errI b (okPair b n m) = 0
  · rw [if_pos h] at h1 h2
    exact ⟨_, _, h1, h2⟩
  · rw [if_neg h] at h1 h2
    exact ⟨_, _, h1, h2⟩
theorem both_same (k : SK) (b : DBook) (n m : Int) : ∃ x e, Sem1 23 [.agg (bookC k b), pi n, pi m] (.tup [pi x, pi e]) ∧ Sem1 24 [.agg (bookC k b), pi n, pi m] (.tup [pi x, pi e]) := by
  have h1 := Same_sem k b n m
  have h2 := rSame_sem k b n m
  by_cases h : errI b (okPair b n m) = 0
  · rw [if_pos h] at h1 h2
    exact ⟨_, _, h1, h2⟩
  · rw [if_neg h] at h1 h2
    exact ⟨_, _, h1, h2⟩
set_option maxRecDepth 100000 in
theorem Turns_law (k : SK) (b : DBook) (n m : Int) : Sem1 3 [.agg (bookC k b), .agg [pi n, pi m]] (pb true) := by
  obtain ⟨l, e, a1, a2⟩ := both_turns k b n m
  obtain ⟨x, e', a3, a4⟩ := both_same k b n m
  have c1 := Check_sem k b
  have c2 := rCheck_sem k b
  obtain ⟨c, hc⟩ : ∃ c : Int, (if okBook b then 0 else 70) = c := ⟨_, rfl⟩
  rw [hc] at c1 c2
  refine semC_of_exec' mixed Try.func3 (by kernel_rfl) (by kernel_rfl) ac3_ok 2 rfl (by decide) [(.tmp 4)] (by kernel_rfl) ?_
  intro hr C hC hI
  unfold ac3
  simp only [go_sem, Nat.reduceBEq, Nat.reduceAdd]
  refine call_pure2 hC (a1) rfl (PVleL_refl _) ?_
  rintro r rfl
  simp only [go_sem, Nat.reduceBEq, Nat.reduceAdd]
  refine call_pure2 hC (a2) rfl (PVleL_refl _) ?_
  rintro r rfl
  simp only [go_sem, Nat.reduceBEq]
  refine call_pure2 hC (Equal_sem l l) rfl (PVleL_refl _) ?_
  rintro r rfl
  simp only [go_sem, Nat.reduceBEq, Nat.reduceAdd, decide_true, decide_false, not_true_eq_false, Bool.false_eq_true]
  refine call_pure2 hC (c1) rfl (PVleL_refl _) ?_
  rintro r rfl
  simp only [go_sem, Nat.reduceBEq]
  refine call_pure2 hC (c2) rfl (PVleL_refl _) ?_
  rintro r rfl
  simp only [go_sem, Nat.reduceBEq, Nat.reduceAdd, decide_false, not_true_eq_false]
  refine call_pure2 hC (a3) rfl (PVleL_refl _) ?_
  rintro r rfl
  simp only [go_sem, Nat.reduceBEq, Nat.reduceAdd]
  refine call_pure2 hC (a4) rfl (PVleL_refl _) ?_
  rintro r rfl
  simp only [go_sem, Nat.reduceBEq, decide_true]
  refine call_pure2 hC (pressed_sem) rfl (PVleL_refl _) ?_
  rintro r rfl
  simp only [go_sem, Nat.reduceBEq]
  exact retQ_one rfl rfl
set_option maxRecDepth 100000 in
theorem Turns_row {l0 l1 : List PV} (T0 : Ty Try.prog 10 24 l0) (T1 : Ty Try.prog 10 25 l1) : SemC Try.prog 3 [argPV Try.prog 24 l0, argPV Try.prog 25 l1] (fun r => r = pb true) := by
  obtain ⟨b, rfl⟩ := ty_book T0
  obtain ⟨n0, n1, rfl⟩ := ty_two T1
  rw [argStruct Try.underlying24, argArray Try.underlying25]
  exact Turns_law .sh b n0 n1
end Go.Proofs.Ytlghbmancjjdjaa
namespace Go.Proofs.Ytlghbmancjjdjaa
open Go.Proofs.Ytlghbmancjjdjaa Go.ChangeShapes Go.WideShapes Go.ChangeAt Go.RowKit Go.Deep

set_option maxRecDepth 100000 in
theorem dappleTurns_lifted (os : Os) (started : os.Started) (H : Type) (enc : TypeId × Value → H) :
    ReturnsInHanded {} Try.checked os 3 .any (Rows.dappleTurnsSpec.pre6 enc Try.prog Try.f3 Rows.dappleTurnsRow.domain false) (Rows.dappleTurnsSpec.post enc Try.prog Try.f3 false true false false) := by
  refine returnsInHanded_of_change_sized (C := Try.checked) ownKnobs started (by kernel_rfl) Try.func3
    (ChangeSpec.witness6 (enc := enc) (C := Try.checked) false ⟨#[], #[.agg #[.int .i64 0, .slice none 0 0], .agg #[.int .i64 0, .int .i64 0]], []⟩ 8 (by kernel_rfl) (by kernel_rfl) (by kernel_rfl) (by kernel_rfl)) ?_
  intro W base args ds gs before hval0 hW hcnd hsz0 _
  have hval : ∀ (j : Nat) t v, Try.f3.params[j]? = some t → args[j]? = some v → Value.okWide Try.prog W .any base t v := hval0
  have hsz : (DataW.weightsEach Try.prog (Try.f3.params.toList ++ Rows.dappleTurnsSpec.plain.varTypes Try.prog) (ds ++ gs)).all (· ≤ reachBytes) = true := hsz0
  have hW' := hW
  obtain ⟨p, q, hA0, hV, rfl, hfz, hnd⟩ := hW
  have hA : DataW.TrodAll enc Try.prog W 0 (fun _ => true) true Try.f3.params.toList args.toList ds p := hA0
  rw [Try.params3] at hA hval hsz
  obtain ⟨v0, vs0, d0, ds0, p0, q0, hargs, rfl, rfl, h0, r0⟩ := trodAll_cons hA
  obtain ⟨v1, vs1, d1, ds1, p1, q1, rfl, rfl, rfl, h1, r1⟩ := trodAll_cons r0
  obtain ⟨rfl, rfl, rfl⟩ := trodAll_nil r1
  obtain rfl : args = #[v0, v1] := by cases args; simp_all
  obtain ⟨rfl, rfl⟩ := trodVars_none hV
  have lt0 : ∀ x ∈ p0, x.block < W.heap.size := by obtain ⟨m, hm⟩ := h0; exact DataW.trod_lt m _ _ _ hm
  have lt1 : ∀ x ∈ p1, x.block < W.heap.size := by obtain ⟨m, hm⟩ := h1; exact DataW.trod_lt m _ _ _ hm
  have z0 : SizedP Try.prog 24 d0 := sizedP_each hsz (j := 0) rfl rfl
  obtain ⟨l0, T0, R0⟩ := rd_arg 10 (by kernel_rfl) (hval 0 24 v0 rfl rfl) h0 z0
  have z1 : SizedP Try.prog 25 d1 := sizedP_each hsz (j := 1) rfl rfl
  obtain ⟨l1, T1, R1⟩ := rd_arg 10 (by kernel_rfl) (hval 1 25 v1 rfl rfl) h1 z1
  clear hA0 hval0 hsz0
  refine (law_calls (Turns_row T0 T1) (argsP_cons R0 (argsP_cons R1 argsP_nil))).mono fun e W' ⟨he, bel⟩ => ?_
  subst he
  exact ⟨_, rfl, _, _, _, [], _, [], hW', trodAll_mk1 (shut_bool Try.underlying4 _), (trodAll_cons_mk (Below.trod laidOut (by kernel_rfl) (of_decide_eq_true (by kernel_rfl)) h0 bel lt0) (trodAll_cons_mk (Below.trod laidOut (by kernel_rfl) (of_decide_eq_true (by kernel_rfl)) h1 bel lt1) trodAll_mk0)), rfl, bel.frame _, fun h => by cases h⟩

theorem dappleTurns_holds : Rows.DappleTurnsSaid :=
  OpenClaim.holds_of_wide 3 Try.f3 rfl rfl rfl rfl rfl rfl rfl ⟨rfl, rfl, rfl, rfl, rfl⟩ rfl rfl rfl rfl rfl (by kernel_rfl) Try.func3 (by kernel_rfl)
    (of_decide_eq_true (by kernel_rfl)) (by unfold Func.isWrapper; first | (rw [if_pos (by decide +kernel)]; kernel_rfl) | (rw [if_neg (by decide +kernel)]; exact ⟨rfl, rfl⟩))
    (fun os started H enc _ => dappleTurns_lifted os started H enc)
end Go.Proofs.Ytlghbmancjjdjaa
