/- Contracts of maker: all truths with some makers. Contracts of maker: who is possible, what was changed. Contracts of maker: verdicts, values, what is needed, where to look. -/
import Derived.Test.YtlbolnlcncjijaaTa06
namespace Go.Proofs.Ytlbolnlcncjijaa.Mk
open Go.RowKit Ls
def ac63 : AC := (AC.seq (AC.ops [(AOp.mk (some 2) (AK.box 1 (AX.t 0)) none 0 false true), (AOp.mk (some 3) (AK.box 1 (AX.t 1)) none 1 false true), (AOp.mk (some 4) (AK.mv (AX.c (PV.val Value.nilFunc))) none 2 false true)]) (AC.seq (AC.ops [(AOp.mk (some 5) (AK.mkf 91 [] [(AX.t 3), (AX.t 2)]) none 0 false true), (AOp.mk (some 4) (AK.mv (AX.t 5)) none 1 false true)]) AC.ret))
theorem ac63_ok : cCode Try.prog (fun _ => false) Try.f63.ntmps (Try.f63.body.getD .skip) = some ac63 := by kernel_rfl
def ac91 : AC := (AC.seq AC.skip (AC.seq (AC.ops [(AOp.mk (some 10) (AK.ld none (AX.t 1)) none 0 false true), (AOp.mk (some 11) (AK.len (AX.t 10)) none 1 false true), (AOp.mk (some 12) (AK.mv (AX.c (PV.val (Value.int IntKind.i64 0)))) none 2 false true)]) (AC.block 0 (AC.loop (AC.seq (AC.ops [(AOp.mk (some 13) (AK.bin false BinOp.lss (AX.t 12) (AX.t 11)) none 0 false true)]) (AC.seq (AC.cond (AX.t 13) AC.skip (AC.exit 0)) (AC.seq (AC.block 1 (AC.seq (AC.ops [(AOp.mk (some 14) (AK.iadrS 1 (AX.t 10) (AX.t 12)) none 0 false true), (AOp.mk (some 15) (AK.ld none (AX.t 14)) none 1 false true), (AOp.mk (some 5) (AK.mv (AX.t 15)) none 2 false true)]) (AC.seq (AC.seq (AC.ops [(AOp.mk (some 16) (AK.ld none (AX.t 2)) none 0 false true), (AOp.mk (some 17) (AK.call 70 [(AX.t 16)]) none 1 false true), (AOp.mk (some 18) (AK.mv (AX.c (PV.val (Value.int IntKind.i64 0)))) none 2 false true)]) (AC.block 2 (AC.loop (AC.seq (AC.ops [(AOp.mk (some 19) (AK.bin false BinOp.lss (AX.t 18) (AX.t 17)) none 0 false true)]) (AC.seq (AC.cond (AX.t 19) AC.skip (AC.exit 2)) (AC.seq (AC.block 3 (AC.seq (AC.ops [(AOp.mk (some 20) (AK.mv (AX.t 18)) none 0 false true), (AOp.mk (some 6) (AK.mv (AX.t 20)) none 1 false true)]) (AC.seq (AC.ops [(AOp.mk (some 21) (AK.ld none (AX.t 2)) none 0 false true), (AOp.mk (some 22) (AK.call 92 [(AX.t 21)]) none 1 false true), (AOp.mk (some 23) (AK.mv (AX.t 6)) none 2 false true), (AOp.mk (some 24) (AK.call 65 [(AX.t 22), (AX.t 23)]) none 3 false true), (AOp.mk (some 25) (AK.mv (AX.t 24)) none 4 false true), (AOp.mk (some 26) (AK.ld none (AX.t 2)) (some (25, true)) 5 false true), (AOp.mk (some 27) (AK.nilc (AX.t 26)) (some (25, true)) 6 false true), (AOp.mk (some 28) (AK.fadr 10 (AX.t 27)) (some (25, true)) 7 false true), (AOp.mk (some 29) (AK.ld none (AX.t 28)) (some (25, true)) 8 false true), (AOp.mk (some 30) (AK.mv (AX.t 5)) (some (25, true)) 9 false true), (AOp.mk (some 31) (AK.mv (AX.t 6)) (some (25, true)) 10 false true), (AOp.mk (some 32) (AK.build [(PV.val (Value.int IntKind.i64 0)), (PV.val (Value.int IntKind.i64 0))] [(0, (1, (AX.t 30))), (1, (1, (AX.t 31)))]) (some (25, true)) 11 false true), (AOp.mk (some 33) (AK.lkp [CK.i, CK.i] true (PV.val (Value.int IntKind.i64 0)) false (AX.t 29) (AX.t 32)) (some (25, true)) 12 false true), (AOp.mk (some 34) (AK.bin false BinOp.eql (AX.t 33) (AX.c (PV.val (Value.int IntKind.i64 0)))) (some (25, true)) 13 false true), (AOp.mk (some 35) (AK.pick (AX.t 25) (AX.t 34) (AX.c (PV.val (Value.bool false)))) none 14 false true)]) (AC.cond (AX.t 35) (AC.exit 1) AC.skip)))) (AC.ops [(AOp.mk (some 36) (AK.bin false BinOp.add (AX.t 18) (AX.c (PV.val (Value.int IntKind.i64 1)))) none 0 false true), (AOp.mk (some 18) (AK.mv (AX.t 36)) none 1 false true)]))))))) (AC.seq (AC.ops [(AOp.mk (some 37) (AK.ld none (AX.t 2)) none 0 false true), (AOp.mk (some 38) (AK.call 70 [(AX.t 37)]) none 1 false true), (AOp.mk (some 39) (AK.bin false BinOp.shl (AX.c (PV.val (Value.int IntKind.i64 1))) (AX.t 38)) none 2 false true), (AOp.mk (some 40) (AK.mv (AX.c (PV.val (Value.int IntKind.i64 0)))) none 3 false true)]) (AC.block 4 (AC.loop (AC.seq (AC.ops [(AOp.mk (some 41) (AK.bin false BinOp.lss (AX.t 40) (AX.t 39)) none 0 false true)]) (AC.seq (AC.cond (AX.t 41) AC.skip (AC.exit 4)) (AC.seq (AC.block 5 (AC.seq (AC.ops [(AOp.mk (some 42) (AK.mv (AX.t 40)) none 0 false true), (AOp.mk (some 7) (AK.mv (AX.t 42)) none 1 false true)]) (AC.seq (AC.ops [(AOp.mk (some 44) (AK.ld none (AX.t 2)) none 0 false true), (AOp.mk (some 45) (AK.mv (AX.t 5)) none 1 false true), (AOp.mk (some 46) (AK.mv (AX.t 7)) none 2 false true), (AOp.mk (some 47) (AK.call 93 [(AX.t 44), (AX.t 45), (AX.t 46)]) none 3 false true), (AOp.mk (some 43) (AK.mv (AX.t 47)) none 4 false true), (AOp.mk (some 48) (AK.ext (AX.t 43) 0) none 5 false true), (AOp.mk (some 49) (AK.ext (AX.t 43) 1) none 6 false true), (AOp.mk (some 8) (AK.new (PV.agg [(PV.val (Value.int IntKind.i64 0)), (PV.sl SK.full 0 []), (PV.val (Value.int IntKind.i64 0)), (PV.val (Value.int IntKind.i64 0)), (PV.val (Value.int IntKind.i64 0)), (PV.val (Value.int IntKind.i64 0)), (PV.val (Value.int IntKind.i64 0)), (PV.val (Value.int IntKind.i64 0))])) none 7 false true), (AOp.mk none (AK.st 8 (AX.t 8) (AX.t 48)) none 8 false true), (AOp.mk (some 9) (AK.mv (AX.t 49)) none 9 false true)]) (AC.seq (AC.ops [(AOp.mk (some 50) (AK.mv (AX.t 9)) none 0 false true), (AOp.mk (some 51) (AK.mv (AX.t 50)) none 1 false true), (AOp.mk (some 52) (AK.mv (AX.t 0)) (some (51, true)) 2 false true), (AOp.mk (some 53) (AK.ld (some 8) (AX.t 8)) (some (51, true)) 3 false true), (AOp.mk (some 54) (AK.callv (AX.t 52) [(AX.t 53)]) (some (51, true)) 4 false true), (AOp.mk (some 55) (AK.un UnOp.not (AX.t 54)) (some (51, true)) 5 false true), (AOp.mk (some 56) (AK.pick (AX.t 51) (AX.t 55) (AX.c (PV.val (Value.bool false)))) none 6 false true)]) (AC.cond (AX.t 56) AC.ret AC.skip))))) (AC.ops [(AOp.mk (some 57) (AK.bin false BinOp.add (AX.t 40) (AX.c (PV.val (Value.int IntKind.i64 1)))) none 0 false true), (AOp.mk (some 40) (AK.mv (AX.t 57)) none 1 false true)])))))))))) (AC.ops [(AOp.mk (some 58) (AK.bin false BinOp.add (AX.t 12) (AX.c (PV.val (Value.int IntKind.i64 1)))) none 0 false true), (AOp.mk (some 12) (AK.mv (AX.t 58)) none 1 false true)]))))))))
theorem ac91_ok : cCode Try.prog (fun _ => false) Try.f91.ntmps (Try.f91.body.getD .skip) = some ac91 := by kernel_rfl
def encTr (b : MBook) (t : Nat × Nat) : List PV := [.agg (truthC b t.1 t.2)]
def trL (b : MBook) (l : List Nat) : List (Nat × Nat) := l.flatMap fun m => (truthsL b m).map fun c => (m, c)
def yT (b : MBook) (l : List Nat) : List (List PV) := (trL b l).map (encTr b)
def yC (b : MBook) (m c : Nat) : List (List PV) := ((((List.range (2 ^ nK b)).drop c).filter (truthB b m)).map fun c => (m, c)).map (encTr b)
theorem yT_cons (b : MBook) (m : Nat) (l : List Nat) : yT b (m :: l) = yC b m 0 ++ yT b l := by
  unfold yT trL yC truthsL
  rw [List.flatMap_cons, List.map_append, List.drop_zero]
theorem yC_next {b : MBook} {m c : Nat} (h : c < 2 ^ nK b) : yC b m c = (if truthB b m c then [[.agg (truthC b m c)]] else []) ++ yC b m (c + 1) := by
  unfold yC
  rw [List.drop_eq_getElem_cons (by simpa using h), List.getElem_range, List.filter_cons]
  cases truthB b m c <;> rfl
theorem yC_end (b : MBook) (m : Nat) : yC b m (2 ^ nK b) = [] := by
  unfold yC
  rw [List.drop_eq_nil_of_le (by simp)]
  rfl
theorem yC_none {b : MBook} {m : Nat} (h : freeB b m = false) : yC b m 0 = [] := by
  have : truthsL b m = [] := by
    refine List.eq_nil_iff_forall_not_mem.2 fun c hc => ?_
    have := truth_free (mem_truths.1 hc).2
    rw [h] at this
    cases this
  unfold yC
  rw [List.drop_zero]
  show ((truthsL b m).map _).map _ = _
  rw [this]
  rfl
theorem noY_truth (b : MBook) (t : Nat × Nat) : noY.noYL (encTr b t) = true := by
  have : noY.noYR (worksR t.1 (chg t.2 (nK b))) = true := noYR_map (fun _ => rfl) _
  simp only [encTr, truthC, noY.noYL, noY, this, Bool.and_true]
theorem noY_trs (b : MBook) (l : List (Nat × Nat)) : noY.noYR (l.map (encTr b)) = true := noYR_map (fun t => noY_truth b t) _
theorem truths_clo (k k2 : SK) (b : MBook) (m : PV) (l : List Nat) (kk : SK) : Sem1 63 [bookX k k2 b m, .sl kk 1 ((natL l).map fun x => [pi x])] (.clo 91 [] [.ptr [.sl kk 1 ((natL l).map fun x => [pi x])] 0, .ptr [bookX k k2 b m] 0]) := by
  refine semC_of_exec' mixed Try.func63 (by kernel_rfl) (by kernel_rfl) ac63_ok 2 rfl (by decide) [(.tmp 4)] (by kernel_rfl) ?_
  intro hr C hC hI
  unfold ac63
  simp only [go_sem, Nat.reduceBEq]
  exact retQ_pur rfl rfl (PVle.refl _) rfl
theorem truths_it (k k2 : SK) {b : MBook} (ho : okC b) (kk : SK) (l : List Nat) (hl : ∀ m ∈ l, m < b.makers.length) (hlen : l.length ≤ 1000) : IterC Try.prog Fence.wide 91 [.yld, .ptr [.sl kk 1 ((natL l).map fun x => [pi x])] 0, .ptr [bookP k k2 b] 0] (yT b l) := by
  have ho2 := ho
  obtain ⟨h1, h2, h3, h4, h5⟩ := ho
  have h64 := pow_le64 ho2
  obtain ⟨hfx, hfl⟩ := okC.fix ho2
  refine iterC_of_exec' mixed Try.func91 (by kernel_rfl) (by kernel_rfl) ac91_ok 3 rfl (by decide) (by kernel_rfl) ?_
  intro C hC hI
  unfold ac91
  simp only [go_sem, Nat.reduceBEq, Nat.reduceAdd, List.length_map, natL_len]
  refine loop_ky l.length (fun _ => True) [0, 2, 10, 11] (fun i => [(12, .p (pi i))]) (fun _ => []) (fun i => some (yT b (l.drop i))) trivial (by simp [Wk, wkT, wkL, look, AV.lo, keepS]) ?_
  rintro i ⟨hi, -⟩
  simp only [go_sem, Nat.reduceBEq]
  refine ⟨fun c5 => ?_, fun c5 => ?_⟩
  · have hi2 : i < l.length := by omega
    have hm := hl _ (List.getElem_mem hi2)
    obtain ⟨m, em⟩ : ∃ m, l[i] = m := ⟨_, rfl⟩
    rw [em] at hm
    have hil : i < (natL l).length := by rw [natL_len]; exact hi2
    have hiv : (natL l)[i] = (m : Int) := by simp [natL, em]
    have hiad := iadr_map (f := fun x : Int => [pi x]) (kd := kk) (sz := 1) hil
    rw [hiv] at hiad
    have hdrop : yT b (l.drop i) = yC b m 0 ++ yT b (l.drop (i + 1)) := by
      rw [List.drop_eq_getElem_cons hi2, em, yT_cons]
    rw [hdrop]
    simp only [go_sem, Nat.reduceBEq, hiad]
    refine call_pure2 hC (kinds_sem k k2 b _) rfl (PVleL_refl _) ?_
    rintro r rfl
    simp only [go_sem]
    refine loop_ky (nK b) (fun q => ∀ x, x < q → (zeroB b m x && (fixN b).testBit x) = false) [0, 2, 5, 10, 11, 12, 17] (fun q => [(18, .p (pi q))]) (fun _ => []) (fun _ => some (yC b m 0 ++ yT b (l.drop (i + 1)))) (fun x h => absurd h (by omega)) (by simp [Wk, wkT, wkL, look, AV.lo, keepS]) ?_
    rintro q ⟨hq, hok⟩
    simp only [go_sem, Nat.reduceBEq]
    refine ⟨fun d5 => ?_, fun d5 => ?_⟩
    · have hq2 : q < nK b := by omega
      have hlk := look_own hm hq2 (pi 0)
      have hz : zeroB b m q = decide (ownN b m q = 0) := rfl
      refine call_pure2 hC (fixed_sem k k2 b _) rfl (PVleL_refl _) ?_
      rintro r rfl
      simp only [go_sem, Nat.reduceBEq, hfx]
      refine call_pure2 hC (has_sem (fixN b) q (by omega)) rfl (PVleL_refl _) ?_
      rintro r rfl
      simp only [go_sem, Nat.reduceBEq]
      cases hfb : (fixN b).testBit q
      · simp only [go_sem, Nat.reduceBEq, wrap_succ (k := q) (by omega)]
        refine ⟨⟨q + 1, hq2, fun x hx => ?_⟩, by simp only; omega, by simp [Wk, wkT, wkL, look, AV.lo]⟩
        by_cases e : x = q
        · rw [e, hfb, Bool.and_false]
        · exact hok x (by omega)
      · simp only [go_sem, Nat.reduceBEq, Nat.reduceAdd, Nat.reduceLeDiff, hlk, Option.map_some]
        refine ⟨fun h0 => ?_, fun h0 => ?_⟩
        · have hfr : freeB b m = false := by
            rw [Bool.eq_false_iff]
            intro hf
            have := free_fix hf hq2 (decide_eq_true (show ownN b m q = 0 by omega))
            rw [hfb] at this
            cases this
          rw [yC_none hfr, List.nil_append]
          simp only [go_sem, wrap_succ (k := i) (by omega)]
          exact ⟨⟨i + 1, hi2, trivial⟩, by simp only; omega, by simp [Wk, wkT, wkL, look, AV.lo]⟩
        · simp only [go_sem, wrap_succ (k := q) (by omega)]
          refine ⟨⟨q + 1, hq2, fun x hx => ?_⟩, by simp only; omega, by simp [Wk, wkT, wkL, look, AV.lo]⟩
          by_cases e : x = q
          · rw [e, hz, decide_eq_false (show ¬ ownN b m q = 0 by omega)]
            rfl
          · exact hok x (by omega)
    · refine call_pure2 hC (kinds_sem k k2 b _) rfl (PVleL_refl _) ?_
      rintro r rfl
      simp only [go_sem, Nat.reduceBEq, bin_shl (show ¬ (nK b : Int) < 0 by omega), shl6 (m := nK b) (by omega)]
      refine loop_ky (2 ^ nK b) (fun _ => True) [0, 2, 5, 10, 11, 12, 39] (fun c => [(40, .p (pi c))]) (fun _ => []) (fun c => some (yC b m c ++ yT b (l.drop (i + 1)))) trivial (by simp [Wk, wkT, wkL, look, AV.lo, keepS]) ?_
      rintro c ⟨hc, -⟩
      simp only [go_sem, Nat.reduceBEq]
      refine ⟨fun e5 => ?_, fun e5 => ?_⟩
      · have hc2 : c < 2 ^ nK b := by omega
        have hnx := yC_next (m := m) hc2
        refine call_pure2 hC (truth_sem k k2 ho2 hm hc2) rfl (PVleL_refl _) ?_
        rintro r (⟨ht, rfl⟩ | ⟨ht, x0, x1, x2, x3, x4, x5, x6, x7, rfl⟩)
        · rw [ht, if_pos rfl] at hnx
          rw [hnx]
          simp only [go_sem, Nat.reduceBEq, Nat.reduceAdd, putCells, truthC, wrap_succ (k := c) (by omega)]
          exact ⟨PVleL_refl _, ⟨⟨c + 1, hc2, trivial⟩, by simp only; omega, by simp [Wk, wkT, wkL, look, AV.lo]⟩, .inr rfl⟩
        · rw [ht, if_neg (by decide), List.nil_append] at hnx
          rw [hnx]
          simp only [go_sem, Nat.reduceBEq, Nat.reduceAdd, putCells, wrap_succ (k := c) (by omega)]
          exact ⟨⟨c + 1, hc2, trivial⟩, by simp only; omega, by simp [Wk, wkT, wkL, look, AV.lo]⟩
      · have hcn : c = 2 ^ nK b := by omega
        subst hcn
        rw [yC_end, List.nil_append]
        simp only [go_sem, wrap_succ (k := i) (by omega)]
        exact ⟨⟨i + 1, hi2, trivial⟩, by simp only; omega, by simp [Wk, wkT, wkL, look, AV.lo]⟩
  · have hin : i = l.length := by omega
    rw [show yT b (l.drop i) = [] by rw [List.drop_eq_nil_of_le (by omega)]; rfl]
    exact .inl rfl
end Go.Proofs.Ytlbolnlcncjijaa.Mk
namespace Go.Proofs.Ytlbolnlcncjijaa.Mk
open Go.RowKit Ls
def ac43 : AC := (AC.seq (AC.ops [(AOp.mk (some 4) (AK.new (PV.val (Value.bool false))) none 0 false true)]) (AC.seq (AC.seq (AC.ops [(AOp.mk (some 5) (AK.mv (AX.t 0)) none 0 false true), (AOp.mk (some 6) (AK.mv (AX.t 1)) none 1 false true), (AOp.mk (some 7) (AK.bslice false 3 1 1 [(PV.val (Value.int IntKind.i64 0))] [(0, (1, (AX.t 6)))]) none 2 false true), (AOp.mk (some 8) (AK.call 63 [(AX.t 5), (AX.t 7)]) none 3 false true)]) (AC.block 0 (AC.rng (AX.t 8) [9] AC.skip (AC.block 1 (AC.seq (AC.ops [(AOp.mk none (AK.st 1 (AX.t 4) (AX.c (PV.val (Value.bool true)))) none 0 false true)]) AC.ret))))) (AC.seq (AC.ops [(AOp.mk none (AK.st 1 (AX.t 4) (AX.c (PV.val (Value.bool false)))) none 0 false true)]) AC.ret)))
theorem ac43_ok : cCode Try.prog (fun _ => false) Try.f43.ntmps (Try.f43.body.getD .skip) = some ac43 := by kernel_rfl
def ac35 : AC := (AC.seq (AC.ops [(AOp.mk (some 2) (AK.mv (AX.c (PV.sl SK.full 0 []))) none 0 false true)]) (AC.seq (AC.ops [(AOp.mk (some 3) (AK.mv (AX.t 0)) none 0 false true), (AOp.mk (some 4) (AK.nilc (AX.t 3)) none 1 false true), (AOp.mk (some 5) (AK.fadr 0 (AX.t 4)) none 2 false true), (AOp.mk (some 6) (AK.fadr 0 (AX.t 5)) none 3 false true), (AOp.mk (some 7) (AK.ld none (AX.t 6)) none 4 false true), (AOp.mk (some 8) (AK.len (AX.t 7)) none 5 false true), (AOp.mk (some 9) (AK.mv (AX.t 0)) none 6 false true), (AOp.mk (some 10) (AK.mkf 43 [(AX.t 9)] []) none 7 false true), (AOp.mk (some 11) (AK.call 60 [(AX.t 8), (AX.t 10)]) none 8 false true), (AOp.mk (some 2) (AK.mv (AX.t 11)) none 9 false true)]) AC.ret))
theorem ac35_ok : cCode Try.prog (fun _ => false) Try.f35.ntmps (Try.f35.body.getD .skip) = some ac35 := by kernel_rfl
def ac139 : AC := (AC.seq (AC.ops [(AOp.mk (some 3) (AK.box 2 (AX.t 1)) none 0 false true), (AOp.mk (some 4) (AK.mv (AX.c (PV.val (Value.int IntKind.i64 0)))) none 1 false true)]) (AC.seq (AC.seq (AC.ops [(AOp.mk (some 6) (AK.mv (AX.t 0)) none 0 false true), (AOp.mk (some 7) (AK.len (AX.t 6)) none 1 false true), (AOp.mk (some 8) (AK.mv (AX.c (PV.val (Value.int IntKind.i64 0)))) none 2 false true)]) (AC.block 0 (AC.loop (AC.seq (AC.ops [(AOp.mk (some 9) (AK.bin false BinOp.lss (AX.t 8) (AX.t 7)) none 0 false true)]) (AC.seq (AC.cond (AX.t 9) AC.skip (AC.exit 0)) (AC.seq (AC.block 1 (AC.seq (AC.ops [(AOp.mk (some 10) (AK.mv (AX.t 8)) none 0 false true), (AOp.mk (some 5) (AK.mv (AX.t 10)) none 1 false true)]) (AC.seq (AC.ops [(AOp.mk (some 11) (AK.ld (some 2) (AX.t 3)) none 0 true false), (AOp.mk (some 12) (AK.mv (AX.t 0)) none 1 true false), (AOp.mk (some 13) (AK.mv (AX.t 5)) none 2 true false), (AOp.mk (some 14) (AK.iadrS 2 (AX.t 12) (AX.t 13)) none 3 true false), (AOp.mk (some 15) (AK.ld (some 2) (AX.t 14)) none 4 true false), (AOp.mk (some 16) (AK.eqs [CK.i, CK.i] false (AX.t 11) (AX.t 15)) none 5 true true)]) (AC.cond (AX.t 16) (AC.seq (AC.ops [(AOp.mk (some 17) (AK.mv (AX.t 5)) none 0 false true), (AOp.mk (some 4) (AK.mv (AX.t 17)) none 1 false true)]) AC.ret) AC.skip)))) (AC.ops [(AOp.mk (some 18) (AK.bin false BinOp.add (AX.t 8) (AX.c (PV.val (Value.int IntKind.i64 1)))) none 0 false true), (AOp.mk (some 8) (AK.mv (AX.t 18)) none 1 false true)]))))))) (AC.seq (AC.ops [(AOp.mk (some 4) (AK.mv (AX.c (PV.val (Value.int IntKind.i64 (-1))))) none 0 false true)]) AC.ret)))
theorem ac139_ok : cCode Try.prog (fun _ => false) Try.f139.ntmps (Try.f139.body.getD .skip) = some ac139 := by kernel_rfl
def ac137 : AC := (AC.seq (AC.ops [(AOp.mk (some 3) (AK.box 2 (AX.t 1)) none 0 false true), (AOp.mk (some 4) (AK.mv (AX.c (PV.val (Value.bool false)))) none 1 false true)]) (AC.seq (AC.ops [(AOp.mk (some 5) (AK.mv (AX.t 0)) none 0 false true), (AOp.mk (some 6) (AK.ld (some 2) (AX.t 3)) none 1 false true), (AOp.mk (some 7) (AK.call 139 [(AX.t 5), (AX.t 6)]) none 2 false true), (AOp.mk (some 8) (AK.bin false BinOp.geq (AX.t 7) (AX.c (PV.val (Value.int IntKind.i64 0)))) none 3 false true), (AOp.mk (some 4) (AK.mv (AX.t 8)) none 4 false true)]) AC.ret))
theorem ac137_ok : cCode Try.prog (fun _ => false) Try.f137.ntmps (Try.f137.body.getD .skip) = some ac137 := by kernel_rfl
def ac127 : AC := (AC.seq (AC.ops [(AOp.mk (some 2) (AK.box 8 (AX.t 0)) none 0 false true), (AOp.mk (some 3) (AK.box 2 (AX.t 1)) none 1 false true), (AOp.mk (some 4) (AK.mv (AX.c (PV.val (Value.bool false)))) none 2 false true)]) (AC.seq (AC.ops [(AOp.mk (some 5) (AK.fadr 1 (AX.t 2)) none 0 false true), (AOp.mk (some 6) (AK.ld none (AX.t 5)) none 1 false true), (AOp.mk (some 7) (AK.ld (some 2) (AX.t 3)) none 2 false true), (AOp.mk (some 8) (AK.call 137 [(AX.t 6), (AX.t 7)]) none 3 false true), (AOp.mk (some 4) (AK.mv (AX.t 8)) none 4 false true)]) AC.ret))
theorem ac127_ok : cCode Try.prog (fun _ => false) Try.f127.ntmps (Try.f127.body.getD .skip) = some ac127 := by kernel_rfl
def ac97 : AC := (AC.seq (AC.ops [(AOp.mk (some 3) (AK.box 2 (AX.t 1)) none 0 false true), (AOp.mk (some 4) (AK.new (PV.val (Value.bool false))) none 1 false true)]) (AC.seq (AC.seq (AC.ops [(AOp.mk (some 6) (AK.mv (AX.t 0)) none 0 false true), (AOp.mk (some 7) (AK.fadr 0 (AX.t 3)) none 1 false true), (AOp.mk (some 8) (AK.ld none (AX.t 7)) none 2 false true), (AOp.mk (some 9) (AK.bslice false 3 1 1 [(PV.val (Value.int IntKind.i64 0))] [(0, (1, (AX.t 8)))]) none 3 false true), (AOp.mk (some 10) (AK.call 63 [(AX.t 6), (AX.t 9)]) none 4 false true)]) (AC.block 0 (AC.rng (AX.t 10) [11] (AC.ops [(AOp.mk (some 5) (AK.new (PV.agg [(PV.val (Value.int IntKind.i64 0)), (PV.sl SK.full 0 []), (PV.val (Value.int IntKind.i64 0)), (PV.val (Value.int IntKind.i64 0)), (PV.val (Value.int IntKind.i64 0)), (PV.val (Value.int IntKind.i64 0)), (PV.val (Value.int IntKind.i64 0)), (PV.val (Value.int IntKind.i64 0))])) none 0 false true), (AOp.mk none (AK.st 8 (AX.t 5) (AX.t 11)) none 1 false true)]) (AC.block 1 (AC.seq (AC.ops [(AOp.mk (some 12) (AK.ld (some 8) (AX.t 5)) none 0 false true), (AOp.mk (some 13) (AK.ld (some 2) (AX.t 3)) none 1 false true), (AOp.mk (some 14) (AK.call 127 [(AX.t 12), (AX.t 13)]) none 2 false true), (AOp.mk (some 15) (AK.un UnOp.not (AX.t 14)) none 3 false true)]) (AC.cond (AX.t 15) (AC.seq (AC.ops [(AOp.mk none (AK.st 1 (AX.t 4) (AX.c (PV.val (Value.bool false)))) none 0 false true)]) AC.ret) AC.skip)))))) (AC.seq (AC.ops [(AOp.mk none (AK.st 1 (AX.t 4) (AX.c (PV.val (Value.bool true)))) none 0 false true)]) AC.ret)))
def ac98 : AC := (AC.seq (AC.ops [(AOp.mk (some 3) (AK.box 2 (AX.t 1)) none 0 false true), (AOp.mk (some 4) (AK.new (PV.val (Value.bool false))) none 1 false true)]) (AC.seq (AC.seq (AC.ops [(AOp.mk (some 6) (AK.mv (AX.t 0)) none 0 false true), (AOp.mk (some 7) (AK.fadr 0 (AX.t 3)) none 1 false true), (AOp.mk (some 8) (AK.ld none (AX.t 7)) none 2 false true), (AOp.mk (some 9) (AK.bslice false 3 1 1 [(PV.val (Value.int IntKind.i64 0))] [(0, (1, (AX.t 8)))]) none 3 false true), (AOp.mk (some 10) (AK.call 63 [(AX.t 6), (AX.t 9)]) none 4 false true)]) (AC.block 0 (AC.rng (AX.t 10) [11] (AC.ops [(AOp.mk (some 5) (AK.new (PV.agg [(PV.val (Value.int IntKind.i64 0)), (PV.sl SK.full 0 []), (PV.val (Value.int IntKind.i64 0)), (PV.val (Value.int IntKind.i64 0)), (PV.val (Value.int IntKind.i64 0)), (PV.val (Value.int IntKind.i64 0)), (PV.val (Value.int IntKind.i64 0)), (PV.val (Value.int IntKind.i64 0))])) none 0 false true), (AOp.mk none (AK.st 8 (AX.t 5) (AX.t 11)) none 1 false true)]) (AC.block 1 (AC.seq (AC.ops [(AOp.mk (some 12) (AK.ld (some 8) (AX.t 5)) none 0 false true), (AOp.mk (some 13) (AK.ld (some 2) (AX.t 3)) none 1 false true), (AOp.mk (some 14) (AK.call 127 [(AX.t 12), (AX.t 13)]) none 2 false true)]) (AC.cond (AX.t 14) (AC.seq (AC.ops [(AOp.mk none (AK.st 1 (AX.t 4) (AX.c (PV.val (Value.bool true)))) none 0 false true)]) AC.ret) AC.skip)))))) (AC.seq (AC.ops [(AOp.mk none (AK.st 1 (AX.t 4) (AX.c (PV.val (Value.bool false)))) none 0 false true)]) AC.ret)))
theorem ac98_ok : cCode Try.prog (fun _ => false) Try.f98.ntmps (Try.f98.body.getD .skip) = some ac98 := by kernel_rfl
def ac99 : AC := (AC.seq (AC.ops [(AOp.mk (some 3) (AK.box 2 (AX.t 1)) none 0 false true), (AOp.mk (some 4) (AK.mv (AX.c (PV.val (Value.bool false)))) none 1 false true)]) (AC.seq (AC.ops [(AOp.mk (some 5) (AK.mv (AX.t 0)) none 0 false true), (AOp.mk (some 6) (AK.ld (some 2) (AX.t 3)) none 1 false true), (AOp.mk (some 7) (AK.call 98 [(AX.t 5), (AX.t 6)]) none 2 false true), (AOp.mk (some 8) (AK.un UnOp.not (AX.t 7)) none 3 false true), (AOp.mk (some 4) (AK.mv (AX.t 8)) none 4 false true)]) AC.ret))
def ac72 : AC := (AC.seq (AC.ops [(AOp.mk (some 0) (AK.mv (AX.c (PV.sl SK.full 0 []))) none 0 false true)]) (AC.seq (AC.ops [(AOp.mk (some 1) (AK.build [(PV.val (Value.int IntKind.i64 0)), (PV.val Value.nilFunc)] [(0, (1, (AX.c (PV.val (Value.int IntKind.i64 2))))), (1, (1, (AX.c (PV.val (Value.func (Fn.func 97) #[] #[])))))]) none 0 false true), (AOp.mk (some 2) (AK.build [(PV.val (Value.int IntKind.i64 0)), (PV.val Value.nilFunc)] [(0, (1, (AX.c (PV.val (Value.int IntKind.i64 1))))), (1, (1, (AX.c (PV.val (Value.func (Fn.func 98) #[] #[])))))]) none 1 false true), (AOp.mk (some 3) (AK.build [(PV.val (Value.int IntKind.i64 0)), (PV.val Value.nilFunc)] [(0, (1, (AX.c (PV.val (Value.int IntKind.i64 0))))), (1, (1, (AX.c (PV.val (Value.func (Fn.func 99) #[] #[])))))]) none 2 false true), (AOp.mk (some 4) (AK.bslice false 125 2 3 [(PV.val (Value.int IntKind.i64 0)), (PV.val Value.nilFunc)] [(0, (2, (AX.t 1))), (2, (2, (AX.t 2))), (4, (2, (AX.t 3)))]) none 3 false true), (AOp.mk (some 0) (AK.mv (AX.t 4)) none 4 false true)]) AC.ret))
def ac74 : AC := (AC.seq (AC.ops [(AOp.mk (some 3) (AK.box 2 (AX.t 0)) none 0 false true), (AOp.mk (some 4) (AK.mv (AX.c (PV.val (Value.bool false)))) none 1 false true)]) (AC.seq (AC.ops [(AOp.mk (some 5) (AK.fadr 1 (AX.t 3)) none 0 false true), (AOp.mk (some 6) (AK.ld none (AX.t 5)) none 1 false true), (AOp.mk (some 7) (AK.ld none (AX.t 1)) none 2 false true), (AOp.mk (some 8) (AK.ld (some 2) (AX.t 2)) none 3 false true), (AOp.mk (some 9) (AK.callv (AX.t 6) [(AX.t 7), (AX.t 8)]) none 4 false true), (AOp.mk (some 4) (AK.mv (AX.t 9)) none 5 false true)]) AC.ret))
def ac73 : AC := (AC.seq (AC.ops [(AOp.mk (some 4) (AK.mv (AX.c (PV.val (Value.int IntKind.i64 0)))) none 0 false true)]) (AC.seq (AC.seq (AC.ops [(AOp.mk (some 6) (AK.mv (AX.t 0)) none 0 false true), (AOp.mk (some 7) (AK.len (AX.t 6)) none 1 false true), (AOp.mk (some 8) (AK.mv (AX.c (PV.val (Value.int IntKind.i64 0)))) none 2 false true)]) (AC.block 0 (AC.loop (AC.seq (AC.ops [(AOp.mk (some 9) (AK.bin false BinOp.lss (AX.t 8) (AX.t 7)) none 0 false true)]) (AC.seq (AC.cond (AX.t 9) AC.skip (AC.exit 0)) (AC.seq (AC.block 1 (AC.seq (AC.ops [(AOp.mk (some 10) (AK.mv (AX.t 8)) none 0 false true), (AOp.mk (some 5) (AK.mv (AX.t 10)) none 1 false true)]) (AC.seq (AC.ops [(AOp.mk (some 11) (AK.mv (AX.t 1)) none 0 false true), (AOp.mk (some 12) (AK.mv (AX.t 0)) none 1 false true), (AOp.mk (some 13) (AK.mv (AX.t 5)) none 2 false true), (AOp.mk (some 14) (AK.iadrS 2 (AX.t 12) (AX.t 13)) none 3 false true), (AOp.mk (some 15) (AK.ld (some 2) (AX.t 14)) none 4 false true), (AOp.mk (some 16) (AK.callv (AX.t 11) [(AX.t 15)]) none 5 false true)]) (AC.cond (AX.t 16) (AC.seq (AC.ops [(AOp.mk (some 17) (AK.mv (AX.t 5)) none 0 false true), (AOp.mk (some 4) (AK.mv (AX.t 17)) none 1 false true)]) AC.ret) AC.skip)))) (AC.ops [(AOp.mk (some 18) (AK.bin false BinOp.add (AX.t 8) (AX.c (PV.val (Value.int IntKind.i64 1)))) none 0 false true), (AOp.mk (some 8) (AK.mv (AX.t 18)) none 1 false true)]))))))) (AC.seq (AC.ops [(AOp.mk (some 4) (AK.mv (AX.c (PV.val (Value.int IntKind.i64 (-1))))) none 0 false true)]) AC.ret)))
def ac44 : AC := (AC.seq (AC.ops [(AOp.mk (some 2) (AK.box 1 (AX.t 0)) none 0 false true), (AOp.mk (some 3) (AK.box 2 (AX.t 1)) none 1 false true), (AOp.mk (some 4) (AK.mv (AX.c (PV.val (Value.int IntKind.i64 0)))) none 2 false true)]) (AC.seq (AC.ops [(AOp.mk (some 7) (AK.call 72 []) none 0 false true), (AOp.mk (some 5) (AK.mv (AX.t 7)) none 1 false true)]) (AC.seq (AC.ops [(AOp.mk (some 8) (AK.mv (AX.t 5)) none 0 false true), (AOp.mk (some 9) (AK.mkf 74 [] [(AX.t 2), (AX.t 3)]) none 1 false true), (AOp.mk (some 10) (AK.call 73 [(AX.t 8), (AX.t 9)]) none 2 false true), (AOp.mk (some 6) (AK.mv (AX.t 10)) none 3 false true)]) (AC.seq (AC.ops [(AOp.mk (some 11) (AK.mv (AX.t 5)) none 0 false true), (AOp.mk (some 12) (AK.mv (AX.t 6)) none 1 false true), (AOp.mk (some 13) (AK.iadrS 2 (AX.t 11) (AX.t 12)) none 2 false true), (AOp.mk (some 14) (AK.fadr 0 (AX.t 13)) none 3 false true), (AOp.mk (some 15) (AK.ld none (AX.t 14)) none 4 false true), (AOp.mk (some 4) (AK.mv (AX.t 15)) none 5 false true)]) AC.ret))))
theorem noY_pis2 (l : List Int) : noY.noYR (l.map fun x => [pi x]) = true := noYR_map (fun _ => rfl) l
theorem noY_rowsC (hs : List (List Int)) : noY.noYR (rowsC hs) = true := noYR_map (fun l => by simp only [noY.noYL, noY, noY_pis2, Bool.and_true]) hs
theorem noY_seenC (l : List (Int × Int)) : noY.noYR (seenC l) = true := noYR_map (fun _ => rfl) l
theorem noYM_own (b : MBook) : ∀ l : List (Nat × Nat), noY.noYM (l.map fun v : Nat × Nat => (PV.agg [pi v.1, pi v.2], pi (ownN b v.1 v.2))) = true
  | [] => rfl
  | x :: l => by
    have := noYM_own b l
    simp only [List.map_cons, noY.noYM, noY, noY.noYL, this, Bool.and_true]
theorem noY_ownE (b : MBook) : noY.noYM (ownE b) = true := noYM_own b _
theorem trL_one (b : MBook) (m : Nat) : trL b [m] = (truthsL b m).map fun c => (m, c) := by simp [trL]
theorem one_lt {b : MBook} {m : Nat} (hm : m < b.makers.length) : ∀ x ∈ [m], x < b.makers.length := fun x hx => by rw [List.mem_singleton.1 hx]; exact hm
theorem isPossible_sem (k k2 : SK) {b : MBook} (ho : okC b) {m : Nat} (hm : m < b.makers.length) : Sem1 43 [bookP k k2 b, pi m] (pb (possB b m)) := by
  refine semC_of_exec' mixed Try.func43 (by kernel_rfl) (by kernel_rfl) ac43_ok 2 rfl (by decide) [(.cell 4 4)] (by kernel_rfl) ?_
  intro hr C hC hI
  unfold ac43
  simp only [go_sem, Nat.reduceBEq]
  refine call_pure2 hC (truths_clo k k2 b _ [m] .full) rfl (PVleL_refl _) ?_
  rintro r rfl
  simp only [go_sem]
  refine rng_m (ι := Unit) (trL b [m]) (encTr b) [4] (fun _ _ => [.cells [.p (pb false)]]) (fun _ _ => []) (fun _ => some []) (fun i _ => i = 0) () rfl rfl (hI _ _ _ (truths_it k k2 ho .full [m] (one_lt hm) (by simp))) ?_ (fun _ => rfl) (by simp [Wk, wkT, wkL, look, AV.lo, AV.lo.loL, keepS]) rfl ?_ ?_
  · simp only [show noY.noYR ((trL b [m]).map (encTr b)) = true from noY_trs b _, noY.noYL, noY, noY_pis2, noY_rowsC, noY_seenC, noY_ownE, Bool.and_true]
  · rintro q - hq hok
    have hne : possB b m = true := by
      unfold possB
      refine decide_eq_true fun e => ?_
      rw [trL_one, e] at hq
      simp at hq
    rw [hne]
    simp only [go_sem, Nat.reduceBEq, Nat.reduceEqDiff, encTr, putCells]
    exact retQ_cell (n := none) (by kernel_rfl) rfl rfl
  · rintro - hok
    have hne : possB b m = false := by
      unfold possB
      refine decide_eq_false fun e => e ?_
      rw [trL_one, List.length_map] at hok
      exact List.eq_nil_of_length_eq_zero hok
    rw [hne]
    simp only [go_sem, Nat.reduceBEq, putCells]
    exact retQ_cell (n := none) (by kernel_rfl) rfl rfl
theorem possible_sem (k k2 : SK) {b : MBook} (ho : okC b) : Sem1 35 [bookP k k2 b] (.sl .full 1 ((natL (whoL b)).map fun x => [pi x])) := by
  have h1 := ho.1
  refine semC_of_exec' mixed Try.func35 (by kernel_rfl) (by kernel_rfl) ac35_ok 1 rfl (by decide) [(.tmp 2)] (by kernel_rfl) ?_
  intro hr C hC hI
  unfold ac35
  simp only [go_sem, Nat.reduceBEq, List.length_map]
  refine call_pure2 hC (those_sem (f := 43) (fi := [bookP k k2 b]) (cap := []) (e := b.makers.length) (P := possB b) (by omega) (fun n hn => isPossible_sem k k2 ho hn)) rfl (PVleL_refl _) ?_
  rintro r rfl
  simp only [go_sem, Nat.reduceBEq]
  exact retQ_one rfl rfl
theorem worksR_get {m : Nat} {l : List Nat} {kk : SK} {j : Nat} (hj : j < l.length) : iadrS' 2 (.p (.sl kk 2 (worksR m l))) (.p (pi j)) = some (.p (.ptr [pi m, pi (l[j] : Nat)] 0)) := iadr_map (f := fun q : Nat => [pi m, pi q]) (kd := kk) (sz := 2) hj
theorem IndexW_sem (m q : Nat) (l : List Nat) (hl : l.length ≤ 1000) : SemC Try.prog 139 [.sl .sh 2 (worksR m l), .agg [pi m, pi q]] (fun r => ∃ i : Int, r = pi i ∧ (0 ≤ i ↔ q ∈ l)) := by
  refine semC_of_exec' mixed Try.func139 (by kernel_rfl) (by kernel_rfl) ac139_ok 2 rfl (by decide) [(.tmp 4)] (by kernel_rfl) ?_
  intro hr C hC hI
  unfold ac139
  simp only [go_sem, Nat.reduceBEq, Nat.reduceAdd, show (worksR m l).length = l.length from List.length_map ..]
  refine loop_k l.length (fun j => ∀ y ∈ l.take j, q ≠ y) [0, 3, 7] (fun j => [(8, .p (pi j))]) (by simp) rfl ⟨rfl, by simp, by simp⟩ (by simp [wkT, look, AV.lo]) ?_
  rintro j ⟨hj, hok⟩
  simp only [go_sem, Nat.reduceBEq, Nat.reduceAdd]
  refine ⟨fun h5 => ?_, fun h5 => ?_⟩
  · have hj2 : j < l.length := by omega
    have hg := worksR_get (m := m) (kk := .sh) hj2
    by_cases e : q = l[j]
    · simp only [go_sem, Nat.reduceBEq, Nat.reduceAdd, hg, eq_true (show (q : Int) = (l[j] : Nat) by omega), decide_true, Bool.true_and, Int.reduceNeg]
      exact retQ_one rfl ⟨_, rfl, fun _ => e ▸ List.getElem_mem hj2, fun _ => by omega⟩
    · simp only [go_sem, Nat.reduceBEq, Nat.reduceAdd, hg, eq_false (show ¬ (q : Int) = (l[j] : Nat) by omega), wrap_succ (k := j) (by omega), decide_true, decide_false, Bool.true_and, Bool.false_and, Int.reduceNeg]
      refine ⟨⟨j + 1, hj2, take_allG hj2 hok e⟩, by simp only; omega, by simp [Wk, wkT, wkL, look, AV.lo, AV.lo.loL, ABlk.toZ]⟩
  · have hjn : j = l.length := by omega
    subst hjn
    rw [List.take_length] at hok
    exact retQ_one rfl ⟨_, rfl, fun h => absurd h (by decide), fun h => absurd rfl (hok q h)⟩
theorem ContainsW_sem (m q : Nat) (l : List Nat) (hl : l.length ≤ 1000) : Sem1 137 [.sl .sh 2 (worksR m l), .agg [pi m, pi q]] (pb (decide (q ∈ l))) := by
  refine semC_of_exec' mixed Try.func137 (by kernel_rfl) (by kernel_rfl) ac137_ok 2 rfl (by decide) [(.tmp 4)] (by kernel_rfl) ?_
  intro hr C hC hI
  unfold ac137
  simp only [go_sem, Nat.reduceBEq, Nat.reduceAdd]
  refine call_pure2 hC (IndexW_sem m q l hl) rfl (PVleL_refl _) ?_
  rintro r ⟨i, rfl, hi⟩
  simp only [go_sem, Nat.reduceBEq]
  exact retQ_one rfl (congrArg pb (decide_eq_decide.2 hi))
theorem changes_sem {b : MBook} (h6 : nK b ≤ 6) (m c q : Nat) (hq : q < nK b) : Sem1 127 [.agg (truthC b m c), .agg [pi m, pi q]] (pb (c.testBit q)) := by
  have hl : (chg c (nK b)).length ≤ 1000 := by
    unfold chg
    exact Nat.le_trans (List.length_filter_le ..) (by rw [List.length_range]; omega)
  refine semC_of_exec' mixed Try.func127 (by kernel_rfl) (by kernel_rfl) ac127_ok 2 rfl (by decide) [(.tmp 4)] (by kernel_rfl) ?_
  intro hr C hC hI
  unfold ac127
  simp only [go_sem, Nat.reduceBEq, Nat.reduceAdd, truthC]
  refine call_pure2 hC (ContainsW_sem m q (chg c (nK b)) hl) rfl (PVleL_refl _) ?_
  rintro r rfl
  simp only [go_sem, Nat.reduceBEq]
  refine retQ_one rfl (congrArg pb ?_)
  unfold chg
  rw [Bool.eq_iff_iff, decide_eq_true_eq, List.mem_filter, List.mem_range]
  exact ⟨fun h => h.2, fun h => ⟨hq, h⟩⟩
theorem tr_get {b : MBook} {m i : Nat} (h : i < (trL b [m]).length) : ∃ (hl : i < (truthsL b m).length), (trL b [m])[i] = (m, (truthsL b m)[i]) := by
  have e := trL_one b m
  have hl : i < (truthsL b m).length := by rw [e, List.length_map] at h; exact h
  refine ⟨hl, ?_⟩
  have : ∀ (L : List (Nat × Nat)) (hL : i < L.length), L = (truthsL b m).map (fun c => (m, c)) → L[i] = (m, (truthsL b m)[i]) := by
    rintro L hL rfl
    simp
  exact this _ h e
theorem canBe_sem (k k2 : SK) {b : MBook} (ho : okC b) {m q : Nat} (hm : m < b.makers.length) (hq : q < nK b) : Sem1 98 [bookP k k2 b, .agg [pi m, pi q]] (pb ((truthsL b m).any fun c => c.testBit q)) := by
  refine semC_of_exec' mixed Try.func98 (by kernel_rfl) (by kernel_rfl) ac98_ok 2 rfl (by decide) [(.cell 4 4)] (by kernel_rfl) ?_
  intro hr C hC hI
  unfold ac98
  simp only [go_sem, Nat.reduceBEq, Nat.reduceAdd]
  refine call_pure2 hC (truths_clo k k2 b _ [m] .full) rfl (PVleL_refl _) ?_
  rintro r rfl
  simp only [go_sem]
  refine rng_m (ι := Unit) (trL b [m]) (encTr b) [3, 4] (fun _ _ => [.cells [.p (pi m), .p (pi q)], .cells [.p (pb false)]]) (fun _ _ => []) (fun _ => some []) (fun i _ => ∀ c ∈ (truthsL b m).take i, c.testBit q = false) () rfl rfl (hI _ _ _ (truths_it k k2 ho .full [m] (one_lt hm) (by simp))) ?_ (fun _ => rfl) (by simp [Wk, wkT, wkL, look, AV.lo, AV.lo.loL, keepS]) (by simp) ?_ ?_
  · simp only [show noY.noYR ((trL b [m]).map (encTr b)) = true from noY_trs b _, noY.noYL, noY, noY_pis2, noY_rowsC, noY_seenC, noY_ownE, Bool.and_true]
  · rintro i - hi hok
    obtain ⟨hl, e⟩ := tr_get hi
    rw [e]
    simp only [go_sem, Nat.reduceBEq, Nat.reduceAdd, encTr, truthC, putCells]
    refine call_pure2 hC (changes_sem ho.2.1.2 m (truthsL b m)[i] q hq) rfl (PVleL_refl _) ?_
    rintro r rfl
    cases hb : (truthsL b m)[i].testBit q
    · simp only [go_sem, Nat.reduceBEq]
      refine ⟨(), take_allG hl hok hb, ?_⟩
      exact by simp [Wk, wkT, wkL, look, AV.lo, AV.lo.loL, ABlk.toZ]
    · have : ((truthsL b m).any fun c => c.testBit q) = true := List.any_eq_true.2 ⟨_, List.getElem_mem hl, hb⟩
      rw [this]
      simp only [go_sem, Nat.reduceBEq, putCells]
      exact retQ_cell (n := none) (by kernel_rfl) rfl rfl
  · rintro - hok
    have : ((truthsL b m).any fun c => c.testBit q) = false := by
      rw [List.any_eq_false]
      intro c hc
      have := hok c (by rw [trL_one, List.length_map, List.take_length]; exact hc)
      rw [this]
      decide
    rw [this]
    simp only [go_sem, Nat.reduceBEq, putCells]
    exact retQ_cell (n := none) (by kernel_rfl) rfl rfl
def verdictI (b : MBook) (m q : Nat) : Int := if (truthsL b m).all fun c => c.testBit q then 2 else if (truthsL b m).any fun c => c.testBit q then 1 else 0
def verdictsP : List (List PV) := [[pi 2, fnV 97], [pi 1, fnV 98], [pi 0, fnV 99]]
end Go.Proofs.Ytlbolnlcncjijaa.Mk
namespace Go.Proofs.Ytlbolnlcncjijaa.Mk
open Go.RowKit Ls
def ac94 : AC := (AC.seq (AC.ops [(AOp.mk (some 2) (AK.mv (AX.c (PV.val (Value.bool false)))) none 0 false true)]) (AC.seq (AC.ops [(AOp.mk (some 2) (AK.mv (AX.c (PV.val (Value.bool true)))) none 0 false true)]) AC.ret))
theorem ac94_ok : cCode Try.prog (fun _ => false) Try.f94.ntmps (Try.f94.body.getD .skip) = some ac94 := by kernel_rfl
def ac64 : AC := (AC.seq (AC.ops [(AOp.mk (some 2) (AK.mv (AX.c (PV.sl SK.full 0 []))) none 0 false true)]) (AC.seq (AC.ops [(AOp.mk (some 3) (AK.mv (AX.t 0)) none 0 false true), (AOp.mk (some 4) (AK.nilc (AX.t 3)) none 1 false true), (AOp.mk (some 5) (AK.fadr 0 (AX.t 4)) none 2 false true), (AOp.mk (some 6) (AK.fadr 0 (AX.t 5)) none 3 false true), (AOp.mk (some 7) (AK.ld none (AX.t 6)) none 4 false true), (AOp.mk (some 8) (AK.len (AX.t 7)) none 5 false true), (AOp.mk (some 9) (AK.call 60 [(AX.t 8), (AX.c (PV.val (Value.func (Fn.func 94) #[] #[])))]) none 6 false true), (AOp.mk (some 2) (AK.mv (AX.t 9)) none 7 false true)]) AC.ret))
theorem ac64_ok : cCode Try.prog (fun _ => false) Try.f64.ntmps (Try.f64.body.getD .skip) = some ac64 := by kernel_rfl
def ac37 : AC := (AC.seq (AC.ops [(AOp.mk (some 3) (AK.box 1 (AX.t 1)) none 0 false true), (AOp.mk (some 4) (AK.mv (AX.c (PV.sl SK.full 0 []))) none 1 false true)]) (AC.seq (AC.ops [(AOp.mk (some 5) (AK.new (PV.val (Value.int IntKind.i64 0))) none 0 false true)]) (AC.seq (AC.seq (AC.ops [(AOp.mk (some 7) (AK.mv (AX.t 0)) none 0 false true), (AOp.mk (some 8) (AK.mv (AX.t 0)) none 1 false true), (AOp.mk (some 9) (AK.call 64 [(AX.t 8)]) none 2 false true), (AOp.mk (some 10) (AK.call 63 [(AX.t 7), (AX.t 9)]) none 3 false true)]) (AC.block 0 (AC.rng (AX.t 10) [11] (AC.ops [(AOp.mk (some 6) (AK.new (PV.agg [(PV.val (Value.int IntKind.i64 0)), (PV.sl SK.full 0 []), (PV.val (Value.int IntKind.i64 0)), (PV.val (Value.int IntKind.i64 0)), (PV.val (Value.int IntKind.i64 0)), (PV.val (Value.int IntKind.i64 0)), (PV.val (Value.int IntKind.i64 0)), (PV.val (Value.int IntKind.i64 0))])) none 0 false true), (AOp.mk none (AK.st 8 (AX.t 6) (AX.t 11)) none 1 false true)]) (AC.block 1 (AC.ops [(AOp.mk (some 12) (AK.ld none (AX.t 5)) none 0 true false), (AOp.mk (some 13) (AK.ld none (AX.t 3)) none 1 true false), (AOp.mk (some 14) (AK.fadr 2 (AX.t 6)) none 2 true false), (AOp.mk (some 15) (AK.iadrA 1 6 (AX.t 14) (AX.t 13)) none 3 true false), (AOp.mk (some 16) (AK.ld none (AX.t 15)) none 4 true false), (AOp.mk (some 17) (AK.bin false BinOp.or (AX.t 12) (AX.t 16)) none 5 true true), (AOp.mk none (AK.st 1 (AX.t 5) (AX.t 17)) none 6 false true)]))))) (AC.seq (AC.ops [(AOp.mk (some 18) (AK.ld none (AX.t 5)) none 0 false true), (AOp.mk (some 19) (AK.mkf 65 [(AX.t 18)] []) none 1 false true), (AOp.mk (some 20) (AK.call 60 [(AX.c (PV.val (Value.int IntKind.i64 5))), (AX.t 19)]) none 2 false true), (AOp.mk (some 4) (AK.mv (AX.t 20)) none 3 false true)]) AC.ret))))
theorem ac37_ok : cCode Try.prog (fun _ => false) Try.f37.ntmps (Try.f37.body.getD .skip) = some ac37 := by kernel_rfl
def idxV (x y : Bool) : Int := if x then 0 else if y then 1 else 2
theorem withSeen_sem (k k2 : SK) (b : MBook) (m : PV) (kk : SK) (l : List (Int × Int)) (hl : l.length ≤ 1000) (ho2 : okC { b with seen := l }) : Sem1 75 [bookX k k2 b m, .sl kk 2 (seenC l)] (bookP k kk { b with seen := l }) := by
  refine semC_of_exec' mixed Try.func75 (by kernel_rfl) (by kernel_rfl) ac75_ok 2 rfl (by decide) [(.tmp 4)] (by kernel_rfl) ?_
  intro hr C hC hI
  unfold ac75
  simp only [go_sem, Nat.reduceBEq, Nat.reduceAdd, Nat.reduceLeDiff, putCells]
  refine call_pure2 hC (bookOf_sem k kk (b := { b with seen := l }) ho2 hl) rfl (PVleL_refl _) ?_
  rintro r rfl
  simp only [go_sem, Nat.reduceBEq]
  exact retQ_one rfl rfl
theorem all_true (n : Int) : Sem1 94 [pi n] (pb true) := by
  refine semC_of_exec' mixed Try.func94 (by kernel_rfl) (by kernel_rfl) ac94_ok 1 rfl (by decide) [(.tmp 2)] (by kernel_rfl) ?_
  intro hr C hC hI
  unfold ac94
  simp only [go_sem]
  exact retQ_one rfl rfl
theorem filt_true (n : Nat) : (List.range n).filter (fun _ => true) = List.range n := List.filter_eq_self.2 fun _ _ => rfl
theorem all_sem (k k2 : SK) {b : MBook} (m : PV) (hl : b.makers.length ≤ 1000) : Sem1 64 [bookX k k2 b m] (.sl .full 1 ((natL (List.range b.makers.length)).map fun x => [pi x])) := by
  have ht := thoseF_sem (f := 94) (e := b.makers.length) (P := fun _ => true) hl (fun n _ => all_true n)
  rw [filt_true] at ht
  refine semC_of_exec' mixed Try.func64 (by kernel_rfl) (by kernel_rfl) ac64_ok 1 rfl (by decide) [(.tmp 2)] (by kernel_rfl) ?_
  intro hr C hC hI
  unfold ac64
  simp only [go_sem, Nat.reduceBEq, List.length_map]
  refine call_pure2 hC (ht) rfl (PVleL_refl _) ?_
  rintro r rfl
  simp only [go_sem, Nat.reduceBEq]
  exact retQ_one rfl rfl
theorem or_nat {x y : Nat} (hx : x < 32) (hy : y < 32) : IntKind.i64.wrap ((BitVec.ofInt 64 (x : Int) ||| BitVec.ofInt 64 (y : Int)).toNat : Int) = ((x ||| y : Nat) : Int) := by
  have h32 : x ||| y < 2 ^ 5 := Nat.or_lt_two_pow hx hy
  have e : (BitVec.ofInt 64 (x : Int) ||| BitVec.ofInt 64 (y : Int)).toNat = x ||| y := by
    rw [BitVec.ofInt_natCast, BitVec.ofInt_natCast, BitVec.toNat_or, BitVec.toNat_ofNat, BitVec.toNat_ofNat, Nat.mod_eq_of_lt (by omega), Nat.mod_eq_of_lt (by omega)]
  rw [e]
  exact wrap_id (by omega) (by omega)
theorem bin_orN {x y : Nat} (hx : x < 32) (hy : y < 32) : binS false .or (.p (pi x)) (.p (pi y)) = some (.p (pi ((x ||| y : Nat) : Int))) := by
  rw [bin_or]
  exact congrArg (fun n => some (AV.p (pi n))) (or_nat hx hy)
def canF (b : MBook) (q : Nat) (l : List (Nat × Nat)) : Nat := l.foldl (fun s t => s ||| valN b t.1 t.2 q) 0
theorem canF_lt (b : MBook) (q : Nat) (l : List (Nat × Nat)) : canF b q l < 32 := by
  refine Nat.lt_pow_two_of_testBit (n := 5) _ fun i hi => ?_
  rw [Bool.eq_false_iff]
  intro h
  unfold canF at h
  rw [fold_or] at h
  rcases h with h | ⟨t, -, h⟩
  · simp at h
  · have := (seen_bit.1 (val_seen h)).1
    omega
theorem values_sem (k k2 : SK) {b : MBook} (ho : okC b) {q : Nat} (hq : q < nK b) : Sem1 37 [bookP k k2 b, pi q] (.sl .full 1 ((natL (valuesL b q)).map fun x => [pi x])) := by
  have h1 := ho.1
  have h2 := ho.2.1
  refine semC_of_exec' mixed Try.func37 (by kernel_rfl) (by kernel_rfl) ac37_ok 2 rfl (by decide) [(.tmp 4)] (by kernel_rfl) ?_
  intro hr C hC hI
  unfold ac37
  simp only [go_sem, Nat.reduceBEq]
  refine call_pure2 hC (all_sem k k2 (b := b) _ (by omega)) rfl (PVleL_refl _) ?_
  rintro r rfl
  simp only [go_sem, Nat.reduceBEq]
  refine call_pure2 hC (truths_clo k k2 b _ (List.range b.makers.length) .full) rfl (PVleL_refl _) ?_
  rintro r rfl
  simp only [go_sem]
  refine rng_m (ι := Unit) (allT b) (encTr b) [3, 5] (fun i _ => [.cells [.p (pi q)], .cells [.p (pi (canF b q ((allT b).take i) : Nat))]]) (fun _ _ => []) (fun _ => some []) (fun _ _ => True) () rfl rfl (hI _ _ _ (truths_it k k2 ho .full (List.range b.makers.length) (fun m hm => List.mem_range.1 hm) (by rw [List.length_range]; omega))) ?_ (fun _ => rfl) (by simp [canF, Wk, wkT, wkL, look, AV.lo, AV.lo.loL, keepS]) trivial ?_ ?_
  · simp only [show noY.noYR ((allT b).map (encTr b)) = true from noY_trs b _, noY.noYL, noY, noY_pis2, noY_rowsC, noY_seenC, noY_ownE, Bool.and_true]
  · rintro i - hi -
    obtain ⟨m, c, e⟩ : ∃ m c, (allT b)[i] = (m, c) := ⟨_, _, rfl⟩
    have hn : canF b q ((allT b).take (i + 1)) = canF b q ((allT b).take i) ||| valN b m c q := by
      unfold canF
      rw [List.take_succ_eq_append_getElem hi, List.foldl_append, e]
      rfl
    have hv : valA b m c q = valN b m c q := if_pos hq
    have hor : binS false .or (.p (pi (canF b q ((allT b).take i) : Nat))) (.p (pi (valN b m c q : Nat))) = some (.p (pi ((canF b q ((allT b).take i) ||| valN b m c q : Nat) : Int))) := bin_orN (canF_lt ..) (by have := val_le b m c q; omega)
    rw [e]
    rcases lt6 (show q < 6 by omega) with rfl | rfl | rfl | rfl | rfl | rfl
    · simp only [go_sem, Nat.reduceBEq, Nat.reduceAdd, encTr, truthC, putCells, ia6 (i := 0) (by decide), Nat.reduceAdd, hv, hor]
      exact ⟨(), by simp [Wk, wkT, wkL, look, AV.lo, AV.lo.loL, ABlk.toZ, hn]⟩
    · simp only [go_sem, Nat.reduceBEq, Nat.reduceAdd, encTr, truthC, putCells, ia6 (i := 1) (by decide), Nat.reduceAdd, hv, hor]
      exact ⟨(), by simp [Wk, wkT, wkL, look, AV.lo, AV.lo.loL, ABlk.toZ, hn]⟩
    · simp only [go_sem, Nat.reduceBEq, Nat.reduceAdd, encTr, truthC, putCells, ia6 (i := 2) (by decide), Nat.reduceAdd, hv, hor]
      exact ⟨(), by simp [Wk, wkT, wkL, look, AV.lo, AV.lo.loL, ABlk.toZ, hn]⟩
    · simp only [go_sem, Nat.reduceBEq, Nat.reduceAdd, encTr, truthC, putCells, ia6 (i := 3) (by decide), Nat.reduceAdd, hv, hor]
      exact ⟨(), by simp [Wk, wkT, wkL, look, AV.lo, AV.lo.loL, ABlk.toZ, hn]⟩
    · simp only [go_sem, Nat.reduceBEq, Nat.reduceAdd, encTr, truthC, putCells, ia6 (i := 4) (by decide), Nat.reduceAdd, hv, hor]
      exact ⟨(), by simp [Wk, wkT, wkL, look, AV.lo, AV.lo.loL, ABlk.toZ, hn]⟩
    · simp only [go_sem, Nat.reduceBEq, Nat.reduceAdd, encTr, truthC, putCells, ia6 (i := 5) (by decide), Nat.reduceAdd, hv, hor]
      exact ⟨(), by simp [Wk, wkT, wkL, look, AV.lo, AV.lo.loL, ABlk.toZ, hn]⟩
  · rintro - -
    rw [List.take_length]
    simp only [go_sem, Nat.reduceBEq]
    refine call_pure2 hC (those_sem (f := 65) (fi := [pi (canN b q)]) (cap := []) (e := 5) (P := (canN b q).testBit) (by decide) (fun n hn => has_sem (canN b q) n (by omega))) rfl (PVleL_refl _) ?_
    rintro r rfl
    simp only [go_sem, Nat.reduceBEq]
    exact retQ_one rfl rfl
end Go.Proofs.Ytlbolnlcncjijaa.Mk
