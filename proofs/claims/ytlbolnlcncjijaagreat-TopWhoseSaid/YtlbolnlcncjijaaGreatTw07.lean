/- Contracts of maker: all truths with some makers. Contracts of maker: who is possible, what was changed. Contracts of maker: verdicts, values, what is needed, where to look. Contracts of maker: what is needed, two makers, where to look. Contracts of maker: what the package returns. Mathematics of maker: what is told of two makers, and lists of values. Allocation and store within a tree. -/
import Derived.Test.YtlbolnlcncjijaaGreatTw06
import Derived.Test.YtlbolnlcncjijaaGreatGa16
import Derived.Test.YtlbolnlcncjijaaGreatTw05
namespace Go.Proofs.YtlbolnlcncjijaaGreat.Mk
open Go.RowKit Ls
def ac66 : AC := (AC.seq (AC.ops [(AOp.mk (some 2) (AK.box 1 (AX.t 0)) none 0 false true), (AOp.mk (some 3) (AK.box 1 (AX.t 1)) none 1 false true), (AOp.mk (some 4) (AK.mv (AX.c (PV.val Value.nilFunc))) none 2 false true)]) (AC.seq (AC.ops [(AOp.mk (some 5) (AK.mkf 84 [] [(AX.t 3), (AX.t 2)]) none 0 false true), (AOp.mk (some 4) (AK.mv (AX.t 5)) none 1 false true)]) AC.ret))
theorem ac66_ok : cCode Tryz.prog (fun _ => false) Tryz.f66.ntmps (Tryz.f66.body.getD .skip) = some ac66 := by kernel_rfl
def ac84 : AC := (AC.seq AC.skip (AC.seq (AC.ops [(AOp.mk (some 10) (AK.ld none (AX.t 1)) none 0 false true), (AOp.mk (some 11) (AK.len (AX.t 10)) none 1 false true), (AOp.mk (some 12) (AK.mv (AX.c (PV.val (Value.int IntKind.i64 0)))) none 2 false true)]) (AC.block 0 (AC.loop (AC.seq (AC.ops [(AOp.mk (some 13) (AK.bin false BinOp.lss (AX.t 12) (AX.t 11)) none 0 false true)]) (AC.seq (AC.cond (AX.t 13) AC.skip (AC.exit 0)) (AC.seq (AC.block 1 (AC.seq (AC.ops [(AOp.mk (some 14) (AK.iadrS 1 (AX.t 10) (AX.t 12)) none 0 false true), (AOp.mk (some 15) (AK.ld none (AX.t 14)) none 1 false true), (AOp.mk (some 5) (AK.mv (AX.t 15)) none 2 false true)]) (AC.seq (AC.seq (AC.ops [(AOp.mk (some 16) (AK.ld none (AX.t 2)) none 0 false true), (AOp.mk (some 17) (AK.call 85 [(AX.t 16)]) none 1 false true), (AOp.mk (some 18) (AK.mv (AX.c (PV.val (Value.int IntKind.i64 0)))) none 2 false true)]) (AC.block 2 (AC.loop (AC.seq (AC.ops [(AOp.mk (some 19) (AK.bin false BinOp.lss (AX.t 18) (AX.t 17)) none 0 false true)]) (AC.seq (AC.cond (AX.t 19) AC.skip (AC.exit 2)) (AC.seq (AC.block 3 (AC.seq (AC.ops [(AOp.mk (some 20) (AK.mv (AX.t 18)) none 0 false true), (AOp.mk (some 6) (AK.mv (AX.t 20)) none 1 false true)]) (AC.seq (AC.ops [(AOp.mk (some 21) (AK.ld none (AX.t 2)) none 0 false true), (AOp.mk (some 22) (AK.call 86 [(AX.t 21)]) none 1 false true), (AOp.mk (some 23) (AK.mv (AX.t 6)) none 2 false true), (AOp.mk (some 24) (AK.call 87 [(AX.t 22), (AX.t 23)]) none 3 false true), (AOp.mk (some 25) (AK.mv (AX.t 24)) none 4 false true), (AOp.mk (some 26) (AK.ld none (AX.t 2)) (some (25, true)) 5 false true), (AOp.mk (some 27) (AK.nilc (AX.t 26)) (some (25, true)) 6 false true), (AOp.mk (some 28) (AK.fadr 10 (AX.t 27)) (some (25, true)) 7 false true), (AOp.mk (some 29) (AK.ld none (AX.t 28)) (some (25, true)) 8 false true), (AOp.mk (some 30) (AK.mv (AX.t 5)) (some (25, true)) 9 false true), (AOp.mk (some 31) (AK.mv (AX.t 6)) (some (25, true)) 10 false true), (AOp.mk (some 32) (AK.build [(PV.val (Value.int IntKind.i64 0)), (PV.val (Value.int IntKind.i64 0))] [(0, (1, (AX.t 30))), (1, (1, (AX.t 31)))]) (some (25, true)) 11 false true), (AOp.mk (some 33) (AK.lkp [CK.i, CK.i] true (PV.val (Value.int IntKind.i64 0)) false (AX.t 29) (AX.t 32)) (some (25, true)) 12 false true), (AOp.mk (some 34) (AK.bin false BinOp.eql (AX.t 33) (AX.c (PV.val (Value.int IntKind.i64 0)))) (some (25, true)) 13 false true), (AOp.mk (some 35) (AK.pick (AX.t 25) (AX.t 34) (AX.c (PV.val (Value.bool false)))) none 14 false true)]) (AC.cond (AX.t 35) (AC.exit 1) AC.skip)))) (AC.ops [(AOp.mk (some 36) (AK.bin false BinOp.add (AX.t 18) (AX.c (PV.val (Value.int IntKind.i64 1)))) none 0 false true), (AOp.mk (some 18) (AK.mv (AX.t 36)) none 1 false true)]))))))) (AC.seq (AC.ops [(AOp.mk (some 37) (AK.ld none (AX.t 2)) none 0 false true), (AOp.mk (some 38) (AK.call 85 [(AX.t 37)]) none 1 false true), (AOp.mk (some 39) (AK.bin false BinOp.shl (AX.c (PV.val (Value.int IntKind.i64 1))) (AX.t 38)) none 2 false true), (AOp.mk (some 40) (AK.mv (AX.c (PV.val (Value.int IntKind.i64 0)))) none 3 false true)]) (AC.block 4 (AC.loop (AC.seq (AC.ops [(AOp.mk (some 41) (AK.bin false BinOp.lss (AX.t 40) (AX.t 39)) none 0 false true)]) (AC.seq (AC.cond (AX.t 41) AC.skip (AC.exit 4)) (AC.seq (AC.block 5 (AC.seq (AC.ops [(AOp.mk (some 42) (AK.mv (AX.t 40)) none 0 false true), (AOp.mk (some 7) (AK.mv (AX.t 42)) none 1 false true)]) (AC.seq (AC.ops [(AOp.mk (some 44) (AK.ld none (AX.t 2)) none 0 false true), (AOp.mk (some 45) (AK.mv (AX.t 5)) none 1 false true), (AOp.mk (some 46) (AK.mv (AX.t 7)) none 2 false true), (AOp.mk (some 47) (AK.call 88 [(AX.t 44), (AX.t 45), (AX.t 46)]) none 3 false true), (AOp.mk (some 43) (AK.mv (AX.t 47)) none 4 false true), (AOp.mk (some 48) (AK.ext (AX.t 43) 0) none 5 false true), (AOp.mk (some 49) (AK.ext (AX.t 43) 1) none 6 false true), (AOp.mk (some 8) (AK.new (PV.agg [(PV.val (Value.int IntKind.i64 0)), (PV.sl SK.full 0 []), (PV.val (Value.int IntKind.i64 0)), (PV.val (Value.int IntKind.i64 0)), (PV.val (Value.int IntKind.i64 0)), (PV.val (Value.int IntKind.i64 0)), (PV.val (Value.int IntKind.i64 0)), (PV.val (Value.int IntKind.i64 0))])) none 7 false true), (AOp.mk none (AK.st 8 (AX.t 8) (AX.t 48)) none 8 false true), (AOp.mk (some 9) (AK.mv (AX.t 49)) none 9 false true)]) (AC.seq (AC.ops [(AOp.mk (some 50) (AK.mv (AX.t 9)) none 0 false true), (AOp.mk (some 51) (AK.mv (AX.t 50)) none 1 false true), (AOp.mk (some 52) (AK.mv (AX.t 0)) (some (51, true)) 2 false true), (AOp.mk (some 53) (AK.ld (some 8) (AX.t 8)) (some (51, true)) 3 false true), (AOp.mk (some 54) (AK.callv (AX.t 52) [(AX.t 53)]) (some (51, true)) 4 false true), (AOp.mk (some 55) (AK.un UnOp.not (AX.t 54)) (some (51, true)) 5 false true), (AOp.mk (some 56) (AK.pick (AX.t 51) (AX.t 55) (AX.c (PV.val (Value.bool false)))) none 6 false true)]) (AC.cond (AX.t 56) AC.ret AC.skip))))) (AC.ops [(AOp.mk (some 57) (AK.bin false BinOp.add (AX.t 40) (AX.c (PV.val (Value.int IntKind.i64 1)))) none 0 false true), (AOp.mk (some 40) (AK.mv (AX.t 57)) none 1 false true)])))))))))) (AC.ops [(AOp.mk (some 58) (AK.bin false BinOp.add (AX.t 12) (AX.c (PV.val (Value.int IntKind.i64 1)))) none 0 false true), (AOp.mk (some 12) (AK.mv (AX.t 58)) none 1 false true)]))))))))
theorem ac84_ok : cCode Tryz.prog (fun _ => false) Tryz.f84.ntmps (Tryz.f84.body.getD .skip) = some ac84 := by kernel_rfl
def encTr (b : MBook) (t : Nat × Nat) : List PV := [.agg (truthC b t.1 t.2)]
def trL (b : MBook) (l : List Nat) : List (Nat × Nat) := l.flatMap fun m => (truthsL b m).map fun c => (m, c)
def yT (b : MBook) (l : List Nat) : List (List PV) := (trL b l).map (encTr b)
def yC (b : MBook) (m c : Nat) : List (List PV) := ((((List.range (2 ^ nK b)).drop c).filter (truthB b m)).map fun c => (m, c)).map (encTr b)
theorem yT_cons (b : MBook) (m : Nat) (l : List Nat) : yT b (m :: l) = yC b m 0 ++ yT b l := by
  unfold yT trL yC truthsL
  rw [List.flatMap_cons, List.map_append, List.drop_zero]
theorem yC_next {b : MBook} {m c : Nat} (h : c < 2 ^ nK b) : yC b m c = (if truthB b m c then [[.agg (truthC b m c)]] else []) ++ yC b m (c + 1) := by
  unfold yC
  rw [List.drop_eq_getElem_cons (by simpa using h), List.getElem_range, List.filter_cons]
  cases truthB b m c <;> rfl
theorem yC_end (b : MBook) (m : Nat) : yC b m (2 ^ nK b) = [] := by
  unfold yC
  rw [List.drop_eq_nil_of_le (by simp)]
  rfl
theorem yC_none {b : MBook} {m : Nat} (h : freeB b m = false) : yC b m 0 = [] := by
  have : truthsL b m = [] := by
    refine List.eq_nil_iff_forall_not_mem.2 fun c hc => ?_
    have := truth_free (mem_truths.1 hc).2
    rw [h] at this
    cases this
  unfold yC
  rw [List.drop_zero]
  show ((truthsL b m).map _).map _ = _
  rw [this]
  rfl
theorem noY_truth (b : MBook) (t : Nat × Nat) : noY.noYL (encTr b t) = true := by
  have : noY.noYR (worksR t.1 (chg t.2 (nK b))) = true := noYR_map (fun _ => rfl) _
  simp only [encTr, truthC, noY.noYL, noY, this, Bool.and_true]
theorem noY_trs (b : MBook) (l : List (Nat × Nat)) : noY.noYR (l.map (encTr b)) = true := noYR_map (fun t => noY_truth b t) _
theorem truths_clo (k k2 : SK) (b : MBook) (m : PV) (l : List Nat) (kk : SK) : Sem1 66 [bookX k k2 b m, .sl kk 1 ((natL l).map fun x => [pi x])] (.clo 84 [] [.ptr [.sl kk 1 ((natL l).map fun x => [pi x])] 0, .ptr [bookX k k2 b m] 0]) := by
  refine semC_of_exec' mixed Tryz.func66 (by kernel_rfl) (by kernel_rfl) ac66_ok 2 rfl (by decide) [(.tmp 4)] (by kernel_rfl) ?_
  intro hr C hC hI
  unfold ac66
  simp only [go_sem, Nat.reduceBEq]
  exact retQ_pur rfl rfl (PVle.refl _) rfl
theorem truths_it (k k2 : SK) {b : MBook} (ho : okC b) (kk : SK) (l : List Nat) (hl : ∀ m ∈ l, m < b.makers.length) (hlen : l.length ≤ 1000) : IterC Tryz.prog Fence.wide 84 [.yld, .ptr [.sl kk 1 ((natL l).map fun x => [pi x])] 0, .ptr [bookP k k2 b] 0] (yT b l) := by
  have ho2 := ho
  obtain ⟨h1, h2, h3, h4, h5⟩ := ho
  have h64 := pow_le64 ho2
  obtain ⟨hfx, hfl⟩ := okC.fix ho2
  refine iterC_of_exec' mixed Tryz.func84 (by kernel_rfl) (by kernel_rfl) ac84_ok 3 rfl (by decide) (by kernel_rfl) ?_
  intro C hC hI
  unfold ac84
  simp only [go_sem, Nat.reduceBEq, Nat.reduceAdd, List.length_map, natL_len]
  refine loop_ky l.length (fun _ => True) [0, 2, 10, 11] (fun i => [(12, .p (pi i))]) (fun _ => []) (fun i => some (yT b (l.drop i))) trivial (by simp [Wk, wkT, wkL, look, AV.lo, keepS]) ?_
  rintro i ⟨hi, -⟩
  simp only [go_sem, Nat.reduceBEq]
  refine ⟨fun c5 => ?_, fun c5 => ?_⟩
  · have hi2 : i < l.length := by omega
    have hm := hl _ (List.getElem_mem hi2)
    obtain ⟨m, em⟩ : ∃ m, l[i] = m := ⟨_, rfl⟩
    rw [em] at hm
    have hil : i < (natL l).length := by rw [natL_len]; exact hi2
    have hiv : (natL l)[i] = (m : Int) := by simp [natL, em]
    have hiad := iadr_map (f := fun x : Int => [pi x]) (kd := kk) (sz := 1) hil
    rw [hiv] at hiad
    have hdrop : yT b (l.drop i) = yC b m 0 ++ yT b (l.drop (i + 1)) := by
      rw [List.drop_eq_getElem_cons hi2, em, yT_cons]
    rw [hdrop]
    simp only [go_sem, Nat.reduceBEq, hiad]
    refine call_pure2 hC (kinds_sem k k2 b _) rfl (PVleL_refl _) ?_
    rintro r rfl
    simp only [go_sem]
    refine loop_ky (nK b) (fun q => ∀ x, x < q → (zeroB b m x && (fixN b).testBit x) = false) [0, 2, 5, 10, 11, 12, 17] (fun q => [(18, .p (pi q))]) (fun _ => []) (fun _ => some (yC b m 0 ++ yT b (l.drop (i + 1)))) (fun x h => absurd h (by omega)) (by simp [Wk, wkT, wkL, look, AV.lo, keepS]) ?_
    rintro q ⟨hq, hok⟩
    simp only [go_sem, Nat.reduceBEq]
    refine ⟨fun d5 => ?_, fun d5 => ?_⟩
    · have hq2 : q < nK b := by omega
      have hlk := look_own hm hq2 (pi 0)
      have hz : zeroB b m q = decide (ownN b m q = 0) := rfl
      refine call_pure2 hC (fixed_sem k k2 b _) rfl (PVleL_refl _) ?_
      rintro r rfl
      simp only [go_sem, Nat.reduceBEq, hfx]
      refine call_pure2 hC (has_sem (fixN b) q (by omega)) rfl (PVleL_refl _) ?_
      rintro r rfl
      simp only [go_sem, Nat.reduceBEq]
      cases hfb : (fixN b).testBit q
      · simp only [go_sem, Nat.reduceBEq, wrap_succ (k := q) (by omega)]
        refine ⟨⟨q + 1, hq2, fun x hx => ?_⟩, by simp only; omega, by simp [Wk, wkT, wkL, look, AV.lo]⟩
        by_cases e : x = q
        · rw [e, hfb, Bool.and_false]
        · exact hok x (by omega)
      · simp only [go_sem, Nat.reduceBEq, Nat.reduceAdd, Nat.reduceLeDiff, hlk, Option.map_some]
        refine ⟨fun h0 => ?_, fun h0 => ?_⟩
        · have hfr : freeB b m = false := by
            rw [Bool.eq_false_iff]
            intro hf
            have := free_fix hf hq2 (decide_eq_true (show ownN b m q = 0 by omega))
            rw [hfb] at this
            cases this
          rw [yC_none hfr, List.nil_append]
          simp only [go_sem, wrap_succ (k := i) (by omega)]
          exact ⟨⟨i + 1, hi2, trivial⟩, by simp only; omega, by simp [Wk, wkT, wkL, look, AV.lo]⟩
        · simp only [go_sem, wrap_succ (k := q) (by omega)]
          refine ⟨⟨q + 1, hq2, fun x hx => ?_⟩, by simp only; omega, by simp [Wk, wkT, wkL, look, AV.lo]⟩
          by_cases e : x = q
          · rw [e, hz, decide_eq_false (show ¬ ownN b m q = 0 by omega)]
            rfl
          · exact hok x (by omega)
    · refine call_pure2 hC (kinds_sem k k2 b _) rfl (PVleL_refl _) ?_
      rintro r rfl
      simp only [go_sem, Nat.reduceBEq, bin_shl (show ¬ (nK b : Int) < 0 by omega), shl6 (m := nK b) (by omega)]
      refine loop_ky (2 ^ nK b) (fun _ => True) [0, 2, 5, 10, 11, 12, 39] (fun c => [(40, .p (pi c))]) (fun _ => []) (fun c => some (yC b m c ++ yT b (l.drop (i + 1)))) trivial (by simp [Wk, wkT, wkL, look, AV.lo, keepS]) ?_
      rintro c ⟨hc, -⟩
      simp only [go_sem, Nat.reduceBEq]
      refine ⟨fun e5 => ?_, fun e5 => ?_⟩
      · have hc2 : c < 2 ^ nK b := by omega
        have hnx := yC_next (m := m) hc2
        refine call_pure2 hC (truth_sem k k2 ho2 hm hc2) rfl (PVleL_refl _) ?_
        rintro r (⟨ht, rfl⟩ | ⟨ht, x0, x1, x2, x3, x4, x5, x6, x7, rfl⟩)
        · rw [ht, if_pos rfl] at hnx
          rw [hnx]
          simp only [go_sem, Nat.reduceBEq, Nat.reduceAdd, putCells, truthC, wrap_succ (k := c) (by omega)]
          exact ⟨PVleL_refl _, ⟨⟨c + 1, hc2, trivial⟩, by simp only; omega, by simp [Wk, wkT, wkL, look, AV.lo]⟩, .inr rfl⟩
        · rw [ht, if_neg (by decide), List.nil_append] at hnx
          rw [hnx]
          simp only [go_sem, Nat.reduceBEq, Nat.reduceAdd, putCells, wrap_succ (k := c) (by omega)]
          exact ⟨⟨c + 1, hc2, trivial⟩, by simp only; omega, by simp [Wk, wkT, wkL, look, AV.lo]⟩
      · have hcn : c = 2 ^ nK b := by omega
        subst hcn
        rw [yC_end, List.nil_append]
        simp only [go_sem, wrap_succ (k := i) (by omega)]
        exact ⟨⟨i + 1, hi2, trivial⟩, by simp only; omega, by simp [Wk, wkT, wkL, look, AV.lo]⟩
  · have hin : i = l.length := by omega
    rw [show yT b (l.drop i) = [] by rw [List.drop_eq_nil_of_le (by omega)]; rfl]
    exact .inl rfl
end Go.Proofs.YtlbolnlcncjijaaGreat.Mk
namespace Go.Proofs.YtlbolnlcncjijaaGreat.Mk
open Go.RowKit Ls
def ac54 : AC := (AC.seq (AC.ops [(AOp.mk (some 4) (AK.new (PV.val (Value.bool false))) none 0 false true)]) (AC.seq (AC.seq (AC.ops [(AOp.mk (some 5) (AK.mv (AX.t 0)) none 0 false true), (AOp.mk (some 6) (AK.mv (AX.t 1)) none 1 false true), (AOp.mk (some 7) (AK.bslice false 3 1 1 [(PV.val (Value.int IntKind.i64 0))] [(0, (1, (AX.t 6)))]) none 2 false true), (AOp.mk (some 8) (AK.call 66 [(AX.t 5), (AX.t 7)]) none 3 false true)]) (AC.block 0 (AC.rng (AX.t 8) [9] AC.skip (AC.block 1 (AC.seq (AC.ops [(AOp.mk none (AK.st 1 (AX.t 4) (AX.c (PV.val (Value.bool true)))) none 0 false true)]) AC.ret))))) (AC.seq (AC.ops [(AOp.mk none (AK.st 1 (AX.t 4) (AX.c (PV.val (Value.bool false)))) none 0 false true)]) AC.ret)))
theorem ac54_ok : cCode Tryz.prog (fun _ => false) Tryz.f54.ntmps (Tryz.f54.body.getD .skip) = some ac54 := by kernel_rfl
def ac30 : AC := (AC.seq (AC.ops [(AOp.mk (some 2) (AK.mv (AX.c (PV.sl SK.full 0 []))) none 0 false true)]) (AC.seq (AC.ops [(AOp.mk (some 3) (AK.mv (AX.t 0)) none 0 false true), (AOp.mk (some 4) (AK.nilc (AX.t 3)) none 1 false true), (AOp.mk (some 5) (AK.fadr 0 (AX.t 4)) none 2 false true), (AOp.mk (some 6) (AK.fadr 0 (AX.t 5)) none 3 false true), (AOp.mk (some 7) (AK.ld none (AX.t 6)) none 4 false true), (AOp.mk (some 8) (AK.len (AX.t 7)) none 5 false true), (AOp.mk (some 9) (AK.mv (AX.t 0)) none 6 false true), (AOp.mk (some 10) (AK.mkf 54 [(AX.t 9)] []) none 7 false true), (AOp.mk (some 11) (AK.call 53 [(AX.t 8), (AX.t 10)]) none 8 false true), (AOp.mk (some 2) (AK.mv (AX.t 11)) none 9 false true)]) AC.ret))
theorem ac30_ok : cCode Tryz.prog (fun _ => false) Tryz.f30.ntmps (Tryz.f30.body.getD .skip) = some ac30 := by kernel_rfl
theorem noY_pis2 (l : List Int) : noY.noYR (l.map fun x => [pi x]) = true := noYR_map (fun _ => rfl) l
theorem noY_rowsC (hs : List (List Int)) : noY.noYR (rowsC hs) = true := noYR_map (fun l => by simp only [noY.noYL, noY, noY_pis2, Bool.and_true]) hs
theorem noY_seenC (l : List (Int × Int)) : noY.noYR (seenC l) = true := noYR_map (fun _ => rfl) l
theorem noYM_own (b : MBook) : ∀ l : List (Nat × Nat), noY.noYM (l.map fun v : Nat × Nat => (PV.agg [pi v.1, pi v.2], pi (ownN b v.1 v.2))) = true
  | [] => rfl
  | x :: l => by
    have := noYM_own b l
    simp only [List.map_cons, noY.noYM, noY, noY.noYL, this, Bool.and_true]
theorem noY_ownE (b : MBook) : noY.noYM (ownE b) = true := noYM_own b _
theorem trL_one (b : MBook) (m : Nat) : trL b [m] = (truthsL b m).map fun c => (m, c) := by simp [trL]
theorem one_lt {b : MBook} {m : Nat} (hm : m < b.makers.length) : ∀ x ∈ [m], x < b.makers.length := fun x hx => by rw [List.mem_singleton.1 hx]; exact hm
theorem isPossible_sem (k k2 : SK) {b : MBook} (ho : okC b) {m : Nat} (hm : m < b.makers.length) : Sem1 54 [bookP k k2 b, pi m] (pb (possB b m)) := by
  refine semC_of_exec' mixed Tryz.func54 (by kernel_rfl) (by kernel_rfl) ac54_ok 2 rfl (by decide) [(.cell 4 4)] (by kernel_rfl) ?_
  intro hr C hC hI
  unfold ac54
  simp only [go_sem, Nat.reduceBEq]
  refine call_pure2 hC (truths_clo k k2 b _ [m] .full) rfl (PVleL_refl _) ?_
  rintro r rfl
  simp only [go_sem]
  refine rng_m (ι := Unit) (trL b [m]) (encTr b) [4] (fun _ _ => [.cells [.p (pb false)]]) (fun _ _ => []) (fun _ => some []) (fun i _ => i = 0) () rfl rfl (hI _ _ _ (truths_it k k2 ho .full [m] (one_lt hm) (by simp))) ?_ (fun _ => rfl) (by simp [Wk, wkT, wkL, look, AV.lo, AV.lo.loL, keepS]) rfl ?_ ?_
  · simp only [show noY.noYR ((trL b [m]).map (encTr b)) = true from noY_trs b _, noY.noYL, noY, noY_pis2, noY_rowsC, noY_seenC, noY_ownE, Bool.and_true]
  · rintro q - hq hok
    have hne : possB b m = true := by
      unfold possB
      refine decide_eq_true fun e => ?_
      rw [trL_one, e] at hq
      simp at hq
    rw [hne]
    simp only [go_sem, Nat.reduceBEq, Nat.reduceEqDiff, encTr, putCells]
    exact retQ_cell (n := none) (by kernel_rfl) rfl rfl
  · rintro - hok
    have hne : possB b m = false := by
      unfold possB
      refine decide_eq_false fun e => e ?_
      rw [trL_one, List.length_map] at hok
      exact List.eq_nil_of_length_eq_zero hok
    rw [hne]
    simp only [go_sem, Nat.reduceBEq, putCells]
    exact retQ_cell (n := none) (by kernel_rfl) rfl rfl
theorem possible_sem (k k2 : SK) {b : MBook} (ho : okC b) : Sem1 30 [bookP k k2 b] (.sl .full 1 ((natL (whoL b)).map fun x => [pi x])) := by
  have h1 := ho.1
  refine semC_of_exec' mixed Tryz.func30 (by kernel_rfl) (by kernel_rfl) ac30_ok 1 rfl (by decide) [(.tmp 2)] (by kernel_rfl) ?_
  intro hr C hC hI
  unfold ac30
  simp only [go_sem, Nat.reduceBEq, List.length_map]
  refine call_pure2 hC (those_sem (f := 54) (fi := [bookP k k2 b]) (cap := []) (e := b.makers.length) (P := possB b) (by omega) (fun n hn => isPossible_sem k k2 ho hn)) rfl (PVleL_refl _) ?_
  rintro r rfl
  simp only [go_sem, Nat.reduceBEq]
  exact retQ_one rfl rfl
theorem tr_get {b : MBook} {m i : Nat} (h : i < (trL b [m]).length) : ∃ (hl : i < (truthsL b m).length), (trL b [m])[i] = (m, (truthsL b m)[i]) := by
  have e := trL_one b m
  have hl : i < (truthsL b m).length := by rw [e, List.length_map] at h; exact h
  refine ⟨hl, ?_⟩
  have : ∀ (L : List (Nat × Nat)) (hL : i < L.length), L = (truthsL b m).map (fun c => (m, c)) → L[i] = (m, (truthsL b m)[i]) := by
    rintro L hL rfl
    simp
  exact this _ h e
def verdictI (b : MBook) (m q : Nat) : Int := if (truthsL b m).all fun c => c.testBit q then 2 else if (truthsL b m).any fun c => c.testBit q then 1 else 0
end Go.Proofs.YtlbolnlcncjijaaGreat.Mk
namespace Go.Proofs.YtlbolnlcncjijaaGreat.Mk
open Go.RowKit Ls
def idxV (x y : Bool) : Int := if x then 0 else if y then 1 else 2
def canF (b : MBook) (q : Nat) (l : List (Nat × Nat)) : Nat := l.foldl (fun s t => s ||| valN b t.1 t.2 q) 0
end Go.Proofs.YtlbolnlcncjijaaGreat.Mk
namespace Go.Proofs.YtlbolnlcncjijaaGreat.Mk
open Go.RowKit Ls
def ac40 : AC := (AC.seq (AC.ops [(AOp.mk (some 5) (AK.box 1 (AX.t 2)) none 0 false true), (AOp.mk (some 6) (AK.new (PV.val (Value.bool false))) none 1 false true)]) (AC.seq (AC.ops [(AOp.mk (some 10) (AK.mv (AX.t 0)) none 0 false true), (AOp.mk (some 11) (AK.call 65 [(AX.t 10), (AX.c (PV.sl SK.full 0 []))]) none 1 false true), (AOp.mk (some 7) (AK.new PV.nilp) none 2 false true), (AOp.mk none (AK.st 1 (AX.t 7) (AX.t 11)) none 3 false true)]) (AC.seq (AC.seq (AC.ops [(AOp.mk (some 12) (AK.ld none (AX.t 7)) none 0 false true), (AOp.mk (some 13) (AK.mv (AX.t 1)) none 1 false true), (AOp.mk (some 14) (AK.bslice false 3 1 1 [(PV.val (Value.int IntKind.i64 0))] [(0, (1, (AX.t 13)))]) none 2 false true), (AOp.mk (some 15) (AK.call 66 [(AX.t 12), (AX.t 14)]) none 3 false true)]) (AC.block 0 (AC.rng (AX.t 15) [16] (AC.ops [(AOp.mk (some 8) (AK.new (PV.agg [(PV.val (Value.int IntKind.i64 0)), (PV.sl SK.full 0 []), (PV.val (Value.int IntKind.i64 0)), (PV.val (Value.int IntKind.i64 0)), (PV.val (Value.int IntKind.i64 0)), (PV.val (Value.int IntKind.i64 0)), (PV.val (Value.int IntKind.i64 0)), (PV.val (Value.int IntKind.i64 0))])) none 0 false true), (AOp.mk none (AK.st 8 (AX.t 8) (AX.t 16)) none 1 false true)]) (AC.block 1 (AC.seq (AC.ops [(AOp.mk (some 17) (AK.ld none (AX.t 7)) none 0 false true), (AOp.mk (some 18) (AK.ld none (AX.t 5)) none 1 false true), (AOp.mk (some 19) (AK.bslice false 3 1 1 [(PV.val (Value.int IntKind.i64 0))] [(0, (1, (AX.t 18)))]) none 2 false true), (AOp.mk (some 20) (AK.call 66 [(AX.t 17), (AX.t 19)]) none 3 false true)]) (AC.block 2 (AC.rng (AX.t 20) [21] (AC.ops [(AOp.mk (some 9) (AK.new (PV.agg [(PV.val (Value.int IntKind.i64 0)), (PV.sl SK.full 0 []), (PV.val (Value.int IntKind.i64 0)), (PV.val (Value.int IntKind.i64 0)), (PV.val (Value.int IntKind.i64 0)), (PV.val (Value.int IntKind.i64 0)), (PV.val (Value.int IntKind.i64 0)), (PV.val (Value.int IntKind.i64 0))])) none 0 false true), (AOp.mk none (AK.st 8 (AX.t 9) (AX.t 21)) none 1 false true)]) (AC.block 3 (AC.seq (AC.ops [(AOp.mk (some 22) (AK.fadr 2 (AX.t 8)) none 0 false true), (AOp.mk (some 23) (AK.ld (some 6) (AX.t 22)) none 1 false true), (AOp.mk (some 24) (AK.fadr 2 (AX.t 9)) none 2 false true), (AOp.mk (some 25) (AK.ld (some 6) (AX.t 24)) none 3 false true), (AOp.mk (some 26) (AK.call 67 [(AX.t 23), (AX.t 25)]) none 4 false true), (AOp.mk (some 27) (AK.call 52 [(AX.t 26)]) none 5 false true), (AOp.mk (some 28) (AK.un UnOp.not (AX.t 27)) none 6 false true)]) (AC.cond (AX.t 28) (AC.seq (AC.ops [(AOp.mk none (AK.st 1 (AX.t 6) (AX.c (PV.val (Value.bool false)))) none 0 false true)]) AC.ret) AC.skip)))))))))) (AC.seq (AC.ops [(AOp.mk none (AK.st 1 (AX.t 6) (AX.c (PV.val (Value.bool true)))) none 0 false true)]) AC.ret))))
theorem ac40_ok : cCode Tryz.prog (fun _ => false) Tryz.f40.ntmps (Tryz.f40.body.getD .skip) = some ac40 := by kernel_rfl
def needsP (o : Option Nat) : PV := match o with | some z => .tup [pi (z : Nat), pb true] | none => .tup [pi 0, pb false]
def bothB (b : MBook) (o u : Nat) : Bool := (truthsL (unseenB b) o).any fun c1 => (truthsL (unseenB b) u).any fun c2 => !lackB fun q => valA (unseenB b) o c1 q &&& valA (unseenB b) u c2 q
theorem okC.bare {b : MBook} (ho : okC b) : okC (unseenB b) := ho.unseen [] fun _ h => by cases h
theorem withNil_sem (k k2 : SK) {b : MBook} (m : PV) (ho : okC b) : Sem1 65 [bookX k k2 b m, .sl .full 0 []] (bookP k .sh (unseenB b)) := by
  refine semC_of_exec' mixed Tryz.func65 (by kernel_rfl) (by kernel_rfl) ac65_ok 2 rfl (by decide) [(.tmp 4)] (by kernel_rfl) ?_
  intro hr C hC hI
  unfold ac65
  simp only [go_sem, Nat.reduceBEq, Nat.reduceAdd, Nat.reduceLeDiff, putCells]
  refine call_pure2 hC (bookOf_sem k .sh (b := unseenB b) ho.bare (by simp [unseenB])) rfl ⟨PVle.agg (show PVleL [_, _, _, _] [_, _, _, _] from ⟨PVle.refl _, PVle.nil _ _ _, PVle.refl _, PVle.refl _, trivial⟩), trivial⟩ ?_
  rintro r rfl
  simp only [go_sem, Nat.reduceBEq]
  exact retQ_one rfl rfl
theorem areTold_sem (k k2 : SK) {b : MBook} (ho : okC b) {o u : Nat} (hoo : o < b.makers.length) (hu : u < b.makers.length) : Sem1 40 [bookP k k2 b, pi o, pi u] (pb (!bothB b o u)) := by
  have hob := ho.bare
  obtain ⟨x, hx⟩ : ∃ x, unseenB b = x := ⟨_, rfl⟩
  have hox : o < x.makers.length := by rw [← hx]; exact hoo
  have hux : u < x.makers.length := by rw [← hx]; exact hu
  have hws := withNil_sem k k2 (b := b) (.mpf (ownE b)) ho
  have hbb : bothB b o u = (truthsL x o).any fun c1 => (truthsL x u).any fun c2 => !lackB fun q => valA x o c1 q &&& valA x u c2 q := by rw [← hx]; rfl
  rw [hx] at hob hws
  rw [hbb]
  clear hbb
  refine semC_of_exec' mixed Tryz.func40 (by kernel_rfl) (by kernel_rfl) ac40_ok 3 rfl (by decide) [(.cell 6 4)] (by kernel_rfl) ?_
  intro hr C hC hI
  unfold ac40
  simp only [go_sem, Nat.reduceBEq, Nat.reduceAdd]
  refine call_pure2 hC (hws) rfl (PVleL_refl _) ?_
  rintro r rfl
  simp only [go_sem, Nat.reduceBEq, Nat.reduceAdd, putCells]
  refine call_pure2 hC (truths_clo k .sh x _ [o] .full) rfl (PVleL_refl _) ?_
  rintro r rfl
  simp only [go_sem]
  refine rng_m (ι := Unit) (trL x [o]) (encTr x) [5, 6, 7] (fun _ _ => [.cells [.p (pi u)], .cells [.p (pb false)], .cells [.p (bookP k .sh x)]]) (fun _ _ => []) (fun _ => some []) (fun i _ => ∀ c1 ∈ (truthsL x o).take i, ((truthsL x u).any fun c2 => !lackB fun q => valA x o c1 q &&& valA x u c2 q) = false) () rfl rfl (hI _ _ _ (truths_it k .sh hob .full [o] (one_lt hox) (by simp))) ?_ (fun _ => rfl) (by simp [Wk, wkT, wkL, look, AV.lo, AV.lo.loL, keepS]) (by simp) ?_ ?_
  · simp only [show noY.noYR ((trL x [o]).map (encTr x)) = true from noY_trs x _, noY.noYL, noY, noY_pis2, noY_rowsC, noY_seenC, noY_ownE, Bool.and_true]
  · rintro i - hi hok
    obtain ⟨hl, e⟩ := tr_get hi
    rw [e]
    simp only [go_sem, Nat.reduceBEq, Nat.reduceAdd, encTr, truthC, putCells]
    refine call_pure2 hC (truths_clo k .sh x _ [u] .full) rfl (PVleL_refl _) ?_
    rintro r rfl
    simp only [go_sem]
    obtain ⟨c1, ec⟩ : ∃ c1, (truthsL x o)[i] = c1 := ⟨_, rfl⟩
    rw [ec]
    refine rng_m (ι := Unit) (trL x [u]) (encTr x) [5, 6, 7, 8] (fun _ _ => [.cells [.p (pi u)], .cells [.p (pb false)], .cells [.p (bookP k .sh x)], .cells ((truthC x o c1).map .p)]) (fun _ _ => []) (fun _ => some []) (fun j _ => ∀ c2 ∈ (truthsL x u).take j, (!lackB fun q => valA x o c1 q &&& valA x u c2 q) = false) () rfl rfl (hI _ _ _ (truths_it k .sh hob .full [u] (one_lt hux) (by simp))) ?_ (fun _ => rfl) (by simp [truthC, Wk, wkT, wkL, look, AV.lo, AV.lo.loL, keepS]) (by simp) ?_ ?_
    · simp only [show noY.noYR ((trL x [u]).map (encTr x)) = true from noY_trs x _, noY.noYL, noY, noY_pis2, noY_rowsC, noY_seenC, noY_ownE, Bool.and_true]
    · rintro j - hj hok2
      obtain ⟨hl2, e2⟩ := tr_get hj
      obtain ⟨c2, ec2⟩ : ∃ c2, (truthsL x u)[j] = c2 := ⟨_, rfl⟩
      rw [e2, ec2]
      simp only [go_sem, Nat.reduceBEq, Nat.reduceAdd, encTr, truthC, putCells, List.map_cons, List.map_nil]
      refine call_pure2 hC (common_sem (valA x o c1) (valA x u c2) (valA_le x o c1) (valA_le x u c2)) rfl (PVleL_refl _) ?_
      rintro r rfl
      simp only [go_sem, Nat.reduceBEq]
      refine call_pure2 hC (lacksSome_sem fun q => valA x o c1 q &&& valA x u c2 q) rfl (PVleL_refl _) ?_
      rintro r rfl
      simp only [go_sem, Nat.reduceBEq]
      cases hb : lackB fun q => valA x o c1 q &&& valA x u c2 q
      · have : ((truthsL x o).any fun c1 => (truthsL x u).any fun c2 => !lackB fun q => valA x o c1 q &&& valA x u c2 q) = true := List.any_eq_true.2 ⟨c1, ec ▸ List.getElem_mem hl, List.any_eq_true.2 ⟨c2, ec2 ▸ List.getElem_mem hl2, by rw [hb]; rfl⟩⟩
        rw [this]
        simp only [go_sem, Nat.reduceBEq, putCells]
        exact retQ_cell (n := none) (by kernel_rfl) rfl rfl
      · simp only [go_sem, Nat.reduceBEq]
        refine ⟨(), take_allG hl2 hok2 (by rw [ec2, hb]; rfl), ?_⟩
        simp [Wk, wkT, wkL, look, AV.lo, AV.lo.loL, ABlk.toZ]
    · rintro - hok2
      simp only [go_sem, Nat.reduceBEq]
      refine ⟨(), take_allG hl hok ?_, ?_⟩
      · rw [ec, List.any_eq_false]
        intro c2 hc
        have := hok2 c2 (by rw [trL_one, List.length_map, List.take_length]; exact hc)
        rw [this]
        decide
      · simp [Wk, wkT, wkL, look, AV.lo, AV.lo.loL, ABlk.toZ]
  · rintro - hok
    have : ((truthsL x o).any fun c1 => (truthsL x u).any fun c2 => !lackB fun q => valA x o c1 q &&& valA x u c2 q) = false := by
      rw [List.any_eq_false]
      intro c hc
      have := hok c (by rw [trL_one, List.length_map, List.take_length]; exact hc)
      rw [this]
      decide
    rw [this]
    simp only [go_sem, Nat.reduceBEq, putCells]
    exact retQ_cell (n := none) (by kernel_rfl) rfl rfl
theorem okC.know {b : MBook} (ho : okC b) {q v : Nat} (hq : q < nK b) (hv : v < 5) : okC (knowB b q v) := by
  obtain ⟨h1, h2, h3, h4, h5⟩ := ho
  refine ⟨h1, h2, h3, fun m hm => ?_, h5⟩
  rcases List.mem_append.1 hm with h | h
  · exact h4 m h
  · rw [List.mem_singleton] at h
    subst h
    have : v = 0 ∨ v = 1 ∨ v = 2 ∨ v = 3 ∨ v = 4 := by omega
    refine ⟨⟨by simp, by show (q : Int) < (nK b : Int); omega⟩, ?_⟩
    rcases this with rfl | rfl | rfl | rfl | rfl <;> (simp only; decide)
def cntL (b : MBook) (q : Nat) (l : List Nat) : List Nat := l.map fun v => (whoL (knowB b q v)).length
def bestK (b : MBook) (j : Nat) : Nat := (List.range j).foldl (fun best k => if worstN b k < worstN b best then k else best) 0
end Go.Proofs.YtlbolnlcncjijaaGreat.Mk
namespace Go.Proofs.YtlbolnlcncjijaaGreat.Mk
open Go.RowKit Ls
def ac38 : AC := (AC.seq (AC.ops [(AOp.mk (some 2) (AK.box 4 (AX.t 0)) none 0 false true), (AOp.mk (some 4) (AK.mv (AX.c PV.nilp)) none 1 false true), (AOp.mk (some 5) (AK.mv (AX.c (PV.val (Value.int IntKind.i64 0)))) none 2 false true)]) (AC.seq (AC.seq (AC.ops [(AOp.mk (some 7) (AK.ld (some 4) (AX.t 2)) none 0 false true), (AOp.mk (some 8) (AK.call 62 [(AX.t 7)]) none 1 false true), (AOp.mk (some 6) (AK.mv (AX.t 8)) none 2 false true)]) (AC.seq (AC.ops [(AOp.mk (some 9) (AK.mv (AX.t 6)) none 0 false true), (AOp.mk (some 10) (AK.bin false BinOp.neq (AX.t 9) (AX.c (PV.val (Value.int IntKind.i64 0)))) none 1 false true)]) (AC.cond (AX.t 10) (AC.seq (AC.ops [(AOp.mk (some 11) (AK.mv (AX.t 6)) none 0 false true), (AOp.mk (some 4) (AK.mv (AX.c PV.nilp)) none 1 false true), (AOp.mk (some 5) (AK.mv (AX.t 11)) none 2 false true)]) AC.ret) AC.skip))) (AC.seq (AC.seq (AC.ops [(AOp.mk (some 12) (AK.mv (AX.t 1)) none 0 false true), (AOp.mk (some 13) (AK.un UnOp.not (AX.t 12)) none 1 false true)]) (AC.cond (AX.t 13) (AC.seq (AC.ops [(AOp.mk (some 4) (AK.mv (AX.c PV.nilp)) none 0 false true), (AOp.mk (some 5) (AK.mv (AX.c (PV.val (Value.int IntKind.i64 51)))) none 1 false true)]) AC.ret) AC.skip)) (AC.seq (AC.ops [(AOp.mk (some 14) (AK.ld (some 4) (AX.t 2)) none 0 false true), (AOp.mk (some 15) (AK.call 63 [(AX.t 14)]) none 1 false true), (AOp.mk (some 4) (AK.mv (AX.t 15)) none 2 false true), (AOp.mk (some 5) (AK.mv (AX.c (PV.val (Value.int IntKind.i64 0)))) none 3 false true)]) AC.ret))))
theorem ac38_ok : cCode Tryz.prog (fun _ => false) Tryz.f38.ntmps (Tryz.f38.body.getD .skip) = some ac38 := by kernel_rfl
def ac29 : AC := (AC.seq (AC.ops [(AOp.mk (some 2) (AK.box 4 (AX.t 0)) none 0 false true), (AOp.mk (some 4) (AK.mv (AX.c PV.nilp)) none 1 false true), (AOp.mk (some 5) (AK.mv (AX.c (PV.val (Value.int IntKind.i64 0)))) none 2 false true)]) (AC.seq (AC.ops [(AOp.mk (some 9) (AK.ld (some 4) (AX.t 2)) none 0 false true), (AOp.mk (some 10) (AK.mv (AX.t 1)) none 1 false true), (AOp.mk (some 11) (AK.call 38 [(AX.t 9), (AX.t 10)]) none 2 false true), (AOp.mk (some 8) (AK.mv (AX.t 11)) none 3 false true), (AOp.mk (some 12) (AK.ext (AX.t 8) 0) none 4 false true), (AOp.mk (some 13) (AK.ext (AX.t 8) 1) none 5 false true), (AOp.mk (some 6) (AK.mv (AX.t 12)) none 6 false true), (AOp.mk (some 7) (AK.mv (AX.t 13)) none 7 false true)]) (AC.seq (AC.seq (AC.ops [(AOp.mk (some 14) (AK.mv (AX.t 7)) none 0 false true), (AOp.mk (some 15) (AK.bin false BinOp.neq (AX.t 14) (AX.c (PV.val (Value.int IntKind.i64 0)))) none 1 false true)]) (AC.cond (AX.t 15) (AC.seq (AC.ops [(AOp.mk (some 16) (AK.mv (AX.t 7)) none 0 false true), (AOp.mk (some 4) (AK.mv (AX.c PV.nilp)) none 1 false true), (AOp.mk (some 5) (AK.mv (AX.t 16)) none 2 false true)]) AC.ret) AC.skip)) (AC.seq (AC.seq (AC.ops [(AOp.mk (some 17) (AK.mv (AX.t 6)) none 0 false true), (AOp.mk (some 18) (AK.nilc (AX.t 17)) none 1 false true), (AOp.mk (some 19) (AK.fadr 4 (AX.t 18)) none 2 false true), (AOp.mk (some 20) (AK.ld (some 6) (AX.t 19)) none 3 false true), (AOp.mk (some 21) (AK.call 52 [(AX.t 20)]) none 4 false true)]) (AC.cond (AX.t 21) (AC.seq (AC.ops [(AOp.mk (some 4) (AK.mv (AX.c PV.nilp)) none 0 false true), (AOp.mk (some 5) (AK.mv (AX.c (PV.val (Value.int IntKind.i64 52)))) none 1 false true)]) AC.ret) AC.skip)) (AC.seq (AC.ops [(AOp.mk (some 22) (AK.mv (AX.t 6)) none 0 false true), (AOp.mk (some 4) (AK.mv (AX.t 22)) none 1 false true), (AOp.mk (some 5) (AK.mv (AX.c (PV.val (Value.int IntKind.i64 0)))) none 2 false true)]) AC.ret)))))
theorem ac29_ok : cCode Tryz.prog (fun _ => false) Tryz.f29.ntmps (Tryz.f29.body.getD .skip) = some ac29 := by kernel_rfl
def ac10 : AC := (AC.seq (AC.ops [(AOp.mk (some 1) (AK.box 4 (AX.t 0)) none 0 false true), (AOp.mk (some 2) (AK.mv (AX.c (PV.sl SK.full 0 []))) none 1 false true), (AOp.mk (some 3) (AK.mv (AX.c (PV.val (Value.int IntKind.i64 0)))) none 2 false true)]) (AC.seq (AC.ops [(AOp.mk (some 7) (AK.ld (some 4) (AX.t 1)) none 0 false true), (AOp.mk (some 8) (AK.call 29 [(AX.t 7), (AX.c (PV.val (Value.bool true)))]) none 1 false true), (AOp.mk (some 6) (AK.mv (AX.t 8)) none 2 false true), (AOp.mk (some 9) (AK.ext (AX.t 6) 0) none 3 false true), (AOp.mk (some 10) (AK.ext (AX.t 6) 1) none 4 false true), (AOp.mk (some 4) (AK.mv (AX.t 9)) none 5 false true), (AOp.mk (some 5) (AK.mv (AX.t 10)) none 6 false true)]) (AC.seq (AC.seq (AC.ops [(AOp.mk (some 11) (AK.mv (AX.t 5)) none 0 false true), (AOp.mk (some 12) (AK.bin false BinOp.neq (AX.t 11) (AX.c (PV.val (Value.int IntKind.i64 0)))) none 1 false true)]) (AC.cond (AX.t 12) (AC.seq (AC.ops [(AOp.mk (some 13) (AK.mv (AX.t 5)) none 0 false true), (AOp.mk (some 2) (AK.mv (AX.c (PV.sl SK.full 0 []))) none 1 false true), (AOp.mk (some 3) (AK.mv (AX.t 13)) none 2 false true)]) AC.ret) AC.skip)) (AC.seq (AC.ops [(AOp.mk (some 14) (AK.mv (AX.t 4)) none 0 false true), (AOp.mk (some 15) (AK.call 30 [(AX.t 14)]) none 1 false true), (AOp.mk (some 2) (AK.mv (AX.t 15)) none 2 false true), (AOp.mk (some 3) (AK.mv (AX.c (PV.val (Value.int IntKind.i64 0)))) none 3 false true)]) AC.ret))))
theorem ac10_ok : cCode Tryz.prog (fun _ => false) Tryz.f10.ntmps (Tryz.f10.body.getD .skip) = some ac10 := by kernel_rfl
def ac21 : AC := (AC.seq (AC.ops [(AOp.mk (some 3) (AK.box 4 (AX.t 0)) none 0 false true), (AOp.mk (some 6) (AK.mv (AX.c (PV.val (Value.bool false)))) none 1 false true), (AOp.mk (some 7) (AK.mv (AX.c (PV.val (Value.int IntKind.i64 0)))) none 2 false true)]) (AC.seq (AC.ops [(AOp.mk (some 11) (AK.ld (some 4) (AX.t 3)) none 0 true false), (AOp.mk (some 12) (AK.ld (some 4) (AX.t 3)) none 1 true false), (AOp.mk (some 13) (AK.mv (AX.t 1)) none 2 true false), (AOp.mk (some 14) (AK.call 39 [(AX.t 12), (AX.t 13)]) none 3 false false), (AOp.mk (some 15) (AK.mv (AX.t 14)) none 4 true false), (AOp.mk (some 16) (AK.ld (some 4) (AX.t 3)) (some (15, true)) 5 true false), (AOp.mk (some 17) (AK.mv (AX.t 2)) (some (15, true)) 6 true false), (AOp.mk (some 18) (AK.call 39 [(AX.t 16), (AX.t 17)]) (some (15, true)) 7 false false), (AOp.mk (some 19) (AK.pick (AX.t 15) (AX.t 18) (AX.c (PV.val (Value.bool false)))) none 8 true false), (AOp.mk (some 20) (AK.mv (AX.t 19)) none 9 true false), (AOp.mk (some 21) (AK.mv (AX.t 1)) (some (20, true)) 10 true false), (AOp.mk (some 22) (AK.mv (AX.t 2)) (some (20, true)) 11 true false), (AOp.mk (some 23) (AK.bin false BinOp.neq (AX.t 21) (AX.t 22)) (some (20, true)) 12 true false), (AOp.mk (some 24) (AK.pick (AX.t 20) (AX.t 23) (AX.c (PV.val (Value.bool false)))) none 13 true false), (AOp.mk (some 25) (AK.call 38 [(AX.t 11), (AX.t 24)]) none 14 false true), (AOp.mk (some 10) (AK.mv (AX.t 25)) none 15 true true), (AOp.mk (some 26) (AK.ext (AX.t 10) 0) none 16 true false), (AOp.mk (some 27) (AK.ext (AX.t 10) 1) none 17 true false), (AOp.mk (some 8) (AK.mv (AX.t 26)) none 18 true false), (AOp.mk (some 9) (AK.mv (AX.t 27)) none 19 true true)]) (AC.seq (AC.seq (AC.ops [(AOp.mk (some 28) (AK.mv (AX.t 9)) none 0 false true), (AOp.mk (some 29) (AK.bin false BinOp.neq (AX.t 28) (AX.c (PV.val (Value.int IntKind.i64 0)))) none 1 false true)]) (AC.cond (AX.t 29) (AC.seq (AC.ops [(AOp.mk (some 30) (AK.mv (AX.t 9)) none 0 false true), (AOp.mk (some 6) (AK.mv (AX.c (PV.val (Value.bool false)))) none 1 false true), (AOp.mk (some 7) (AK.mv (AX.t 30)) none 2 false true)]) AC.ret) AC.skip)) (AC.seq (AC.ops [(AOp.mk (some 31) (AK.mv (AX.t 8)) none 0 false true), (AOp.mk (some 32) (AK.mv (AX.t 1)) none 1 false true), (AOp.mk (some 33) (AK.mv (AX.t 2)) none 2 false true), (AOp.mk (some 34) (AK.call 40 [(AX.t 31), (AX.t 32), (AX.t 33)]) none 3 false true), (AOp.mk (some 6) (AK.mv (AX.t 34)) none 4 false true), (AOp.mk (some 7) (AK.mv (AX.c (PV.val (Value.int IntKind.i64 0)))) none 5 false true)]) AC.ret))))
theorem ac21_ok : cCode Tryz.prog (fun _ => false) Tryz.f21.ntmps (Tryz.f21.body.getD .skip) = some ac21 := by kernel_rfl
def errA (b : MBook) (known : Bool) : Int := if okBook b then (if known then 0 else 51) else 50
def errR (b : MBook) (known : Bool) : Int := if okBook b then (if known then (if rightB b then 0 else 52) else 51) else 50
theorem askedBook_sem (k k2 : SK) (b : MBook) (known : Bool) : Sem1 38 [.agg (bookC k k2 b), pb known] (.tup [if errA b known = 0 then bookP k k2 b else .nilp, pi (errA b known)]) := by
  refine semC_of_exec' mixed Tryz.func38 (by kernel_rfl) (by kernel_rfl) ac38_ok 2 rfl (by decide) [(.tmp 4), (.tmp 5)] (by kernel_rfl) ?_
  intro hr C hC hI
  unfold ac38
  simp only [go_sem, Nat.reduceBEq, Nat.reduceAdd]
  refine call_pure2 hC (Check_sem k k2 b) rfl (PVleL_refl _) ?_
  rintro r rfl
  simp only [go_sem, Nat.reduceBEq]
  by_cases ho : okBook b
  · rw [if_pos ho]
    refine ⟨fun h => absurd rfl h, fun _ => ?_⟩
    cases known
    · have he : errA b false = 51 := by unfold errA; rw [if_pos ho]; rfl
      rw [he]
      simp only [go_sem, Nat.reduceBEq]
      exact retQ_two rfl rfl rfl
    · have he : errA b true = 0 := by unfold errA; rw [if_pos ho]; rfl
      rw [he]
      simp only [go_sem, Nat.reduceBEq, Nat.reduceAdd]
      refine call_pure2 hC (bookOf_sem k k2 ho.1 (by have := ho.2; omega)) rfl (PVleL_refl _) ?_
      rintro r rfl
      simp only [go_sem, Nat.reduceBEq]
      exact retQ_two rfl rfl rfl
  · have he : errA b known = 50 := by unfold errA; rw [if_neg ho]
    rw [if_neg ho, he]
    refine ⟨fun _ => retQ_two rfl rfl rfl, fun h => absurd h (by decide)⟩
theorem lack_right {b : MBook} (ho : okC b) : lackB (seenN b) = !rightB b := by
  rw [Bool.eq_iff_iff, lack_iff, Bool.not_eq_true', Bool.eq_false_iff, Ne]
  unfold rightB
  rw [List.all_eq_true]
  constructor
  · rintro ⟨k, hk, h⟩ H
    rcases Nat.lt_or_ge k (nK b) with hkn | hkn
    · have := H k (List.mem_range.2 hkn)
      rw [h] at this
      simp at this
    · rw [seen_out ho hkn] at h
      cases h
  · intro H
    refine Classical.byContradiction fun hn => H fun k hk => ?_
    have hk := List.mem_range.1 hk
    rw [decide_eq_true_eq]
    intro h0
    exact hn ⟨k, by have := ho.2.1; omega, h0⟩
theorem rightBook_sem (k k2 : SK) (b : MBook) (known : Bool) : Sem1 29 [.agg (bookC k k2 b), pb known] (.tup [if errR b known = 0 then bookP k k2 b else .nilp, pi (errR b known)]) := by
  refine semC_of_exec' mixed Tryz.func29 (by kernel_rfl) (by kernel_rfl) ac29_ok 2 rfl (by decide) [(.tmp 4), (.tmp 5)] (by kernel_rfl) ?_
  intro hr C hC hI
  unfold ac29
  simp only [go_sem, Nat.reduceBEq, Nat.reduceAdd]
  refine call_pure2 hC (askedBook_sem k k2 b known) rfl (PVleL_refl _) ?_
  rintro r rfl
  simp only [go_sem, Nat.reduceBEq]
  by_cases ho : okBook b
  · have hl := lack_right ho.1
    cases known
    · have he : errA b false = 51 := by unfold errA; rw [if_pos ho]; rfl
      have he2 : errR b false = 51 := by unfold errR; rw [if_pos ho]; rfl
      rw [he, he2]
      simp only [go_sem, decide_true, not_false_eq_true, false_implies, true_implies, Int.reduceEq]
      exact retQ_two rfl rfl rfl
    · have he : errA b true = 0 := by unfold errA; rw [if_pos ho]; rfl
      rw [he, if_pos rfl]
      simp only [go_sem, Nat.reduceBEq, Nat.reduceAdd, Nat.reduceLeDiff, decide_false, not_true_eq_false, false_implies, true_implies]
      refine call_pure2 hC (lacksSome_sem (seenN b)) rfl (PVleL_refl _) ?_
      rintro r rfl
      simp only [go_sem, Nat.reduceBEq]
      rw [hl]
      cases hr2 : rightB b
      · have he2 : errR b true = 52 := by unfold errR; rw [if_pos ho, hr2]; rfl
        rw [he2]
        simp only [go_sem]
        exact retQ_two rfl rfl rfl
      · have he2 : errR b true = 0 := by unfold errR; rw [if_pos ho, hr2]; rfl
        rw [he2, if_pos rfl]
        simp only [go_sem, Nat.reduceBEq]
        exact retQ_two rfl rfl rfl
  · have he : errA b known = 50 := by unfold errA; rw [if_neg ho]
    have he2 : errR b known = 50 := by unfold errR; rw [if_neg ho]
    rw [he, he2]
    simp only [go_sem, decide_true, not_false_eq_true, false_implies, true_implies, Int.reduceEq]
    exact retQ_two rfl rfl rfl
theorem askP {C : Con} (hC : ∀ f args rd K s, SemP Tryz.prog Fence.wide f args rd K s → C.call f args rd K s) (k k2 : SK) (b : MBook) (known : Bool) {rd : List Nat} {K : AV → AS → Prop} {s : AS}
    (h1 : errA b known ≠ 0 → K (.p (.tup [.nilp, pi (errA b known)])) s) (h2 : errA b known = 0 → K (.p (.tup [bookP k k2 b, pi 0])) s) : C.call 38 [.p (.agg (bookC k k2 b)), .p (pb known)] rd K s := by
  refine call_pure2 hC (askedBook_sem k k2 b known) rfl (PVleL_refl _) ?_
  rintro r rfl
  by_cases he : errA b known = 0
  · rw [if_pos he, he]; exact h2 he
  · rw [if_neg he]; exact h1 he
theorem rightP {C : Con} (hC : ∀ f args rd K s, SemP Tryz.prog Fence.wide f args rd K s → C.call f args rd K s) (k k2 : SK) (b : MBook) (known : Bool) {rd : List Nat} {K : AV → AS → Prop} {s : AS}
    (h1 : errR b known ≠ 0 → K (.p (.tup [.nilp, pi (errR b known)])) s) (h2 : errR b known = 0 → K (.p (.tup [bookP k k2 b, pi 0])) s) : C.call 29 [.p (.agg (bookC k k2 b)), .p (pb known)] rd K s := by
  refine call_pure2 hC (rightBook_sem k k2 b known) rfl (PVleL_refl _) ?_
  rintro r rfl
  by_cases he : errR b known = 0
  · rw [if_pos he, he]; exact h2 he
  · rw [if_neg he]; exact h1 he
theorem errA_ok {b : MBook} {known : Bool} (h : errA b known = 0) : okBook b ∧ known = true := by
  unfold errA at h
  split at h
  · rename_i ho
    split at h
    · rename_i hk; exact ⟨ho, hk⟩
    · omega
  · omega
theorem errR_ok {b : MBook} {known : Bool} (h : errR b known = 0) : okBook b ∧ known = true ∧ rightB b = true := by
  unfold errR at h
  split at h
  · rename_i ho
    split at h
    · rename_i hk
      split at h
      · rename_i hr; exact ⟨ho, hk, hr⟩
      · omega
    · omega
  · omega
def okM (b : MBook) (n : Int) : Bool := decide (0 ≤ n ∧ n < b.makers.length)
def okK (b : MBook) (n : Int) : Bool := decide (0 ≤ n ∧ n < (nK b : Int))
theorem okM_nat {b : MBook} {n : Int} (h : okM b n = true) : ∃ m : Nat, n = m ∧ m < b.makers.length := by
  have := of_decide_eq_true h
  exact ⟨n.toNat, by omega, by omega⟩
theorem Who_sem (k k2 : SK) (b : MBook) : Sem1 10 [.agg (bookC k k2 b)] (if errR b true = 0 then .tup [pis (natL (whoL b)), pi 0] else .tup [pis [], pi (errR b true)]) := by
  refine semC_of_exec' mixed Tryz.func10 (by kernel_rfl) (by kernel_rfl) ac10_ok 1 rfl (by decide) [(.tmp 2), (.tmp 3)] (by kernel_rfl) ?_
  intro hr C hC hI
  unfold ac10
  simp only [go_sem, Nat.reduceBEq, Nat.reduceAdd]
  refine rightP hC k k2 b true (fun hne => ?_) (fun h0 => ?_)
  · rw [if_neg hne]
    simp only [go_sem, Nat.reduceBEq, eq_true hne, decide_true]
    exact retQ_two_le rfl rfl (PVle.nil _ _ _) (PVle.refl _) rfl
  · obtain ⟨ho, -⟩ := errR_ok h0
    rw [if_pos h0]
    simp only [go_sem, Nat.reduceBEq, decide_false, not_true_eq_false]
    refine call_pure2 hC (possible_sem k k2 ho.1) rfl (PVleL_refl _) ?_
    rintro r rfl
    simp only [go_sem, Nat.reduceBEq]
    exact retQ_two_le rfl rfl (PVle.sh _ _ _) (PVle.refl _) rfl
def needsR (o : Option Nat) : PV := match o with | some z => .tup [pi (z : Nat), pi 0] | none => .tup [pi 0, pi 4]
theorem hasM_sem (k k2 : SK) (b : MBook) (n : Int) (hl : b.makers.length ≤ 140737488355328) : Sem1 39 [.agg (bookC k k2 b), pi n] (pb (okM b n)) := hasMaker_sem k k2 b n hl
def okT (b : MBook) (n p : Int) : Bool := okM b n && okM b p && decide (n ≠ p)
theorem Told_sem (k k2 : SK) (b : MBook) (n p : Int) : Sem1 21 [.agg (bookC k k2 b), pi n, pi p] (if errA b (okT b n p) = 0 then .tup [pb (!bothB b n.toNat p.toNat), pi 0] else .tup [pb false, pi (errA b (okT b n p))]) := by
  unfold okT
  refine semC_of_exec' mixed Tryz.func21 (by kernel_rfl) (by kernel_rfl) ac21_ok 3 rfl (by decide) [(.tmp 6), (.tmp 7)] (by kernel_rfl) ?_
  intro hr C hC hI
  unfold ac21
  simp only [go_sem, Nat.reduceBEq, Nat.reduceAdd]
  have hlen := real_aggL (i := 0) (j := 0) hr rfl rfl
  rw [List.length_map] at hlen
  have bad : errA b false ≠ 0 := fun h => by have := (errA_ok h).2; cases this
  refine call_pure2 hC (hasM_sem k k2 b n hlen) rfl (PVleL_refl _) ?_
  rintro r rfl
  simp only [go_sem, Nat.reduceBEq]
  cases hM : okM b n
  · rw [Bool.false_and, Bool.false_and, if_neg bad]
    simp only [go_sem, Nat.reduceBEq]
    refine askP hC k k2 b false (fun hne => ?_) (fun h0 => absurd h0 bad)
    simp only [go_sem, Nat.reduceBEq, eq_true hne, decide_true]
    exact retQ_two rfl rfl rfl
  · rw [Bool.true_and]
    simp only [go_sem, Nat.reduceBEq, Nat.reduceAdd]
    refine call_pure2 hC (hasM_sem k k2 b p hlen) rfl (PVleL_refl _) ?_
    rintro r rfl
    simp only [go_sem, Nat.reduceBEq]
    cases hP : okM b p
    · rw [Bool.false_and, if_neg bad]
      simp only [go_sem, Nat.reduceBEq]
      refine askP hC k k2 b false (fun hne => ?_) (fun h0 => absurd h0 bad)
      simp only [go_sem, Nat.reduceBEq, eq_true hne, decide_true]
      exact retQ_two rfl rfl rfl
    · rw [Bool.true_and]
      simp only [go_sem, Nat.reduceBEq]
      refine askP hC k k2 b (decide (n ≠ p)) (fun hne => ?_) (fun h0 => ?_)
      · rw [if_neg hne]
        simp only [go_sem, Nat.reduceBEq, eq_true hne, decide_true]
        exact retQ_two rfl rfl rfl
      · obtain ⟨ho, -⟩ := errA_ok h0
        obtain ⟨m, rfl, hm⟩ := okM_nat hM
        obtain ⟨u, rfl, hu⟩ := okM_nat hP
        rw [if_pos h0, Int.toNat_natCast, Int.toNat_natCast]
        simp only [go_sem, Nat.reduceBEq, decide_false, not_true_eq_false]
        refine call_pure2 hC (areTold_sem k k2 ho.1 hm hu) rfl (PVleL_refl _) ?_
        rintro r rfl
        simp only [go_sem, Nat.reduceBEq]
        exact retQ_two rfl rfl rfl
end Go.Proofs.YtlbolnlcncjijaaGreat.Mk
namespace Go.Proofs.YtlbolnlcncjijaaGreat.Mk
open Go.RowKit Ls
def exL (l : List Int) (j : Nat) : List (Int × Int) := (List.range j).map fun (k : Nat) => ((k : Int), 2 ^ exV l k)
theorem exL_next (l : List Int) (j : Nat) : exL l (j + 1) = exL l j ++ [((j : Int), 2 ^ exV l j)] := by
  unfold exL
  rw [List.range_succ, List.map_append]
  rfl
theorem exL_len (l : List Int) (j : Nat) : (exL l j).length = j := by simp [exL]
def pickI (b : MBook) (o u k : Nat) : Int := (listI (pickN b o u k : Nat) 5).getD 0 0
def pickL (b : MBook) (o u j : Nat) : List Int := (List.range j).map (pickI b o u)
def anyL (bits : List Int) (j : Nat) : List Int := (List.range j).map fun (k : Nat) => rndI (takeL bits k) 5
end Go.Proofs.YtlbolnlcncjijaaGreat.Mk
namespace Go.Proofs.YtlbolnlcncjijaaGreat
open Go.RowKit
section
variable {C : Con} {rd : List Nat} {d : Option Nat} {i : Nat} {tk lst : Bool} {s : AS} {K : List Nat → AS → Prop}
def stGB (lst : Bool) (id off n : Nat) (k : Option ABlk) (c : List AV) (rd : List Nat) (d : Option Nat) (s : AS) (K : AS → Prop) : Prop :=
  match k with
  | some (.cells cs) => (lst = true ∨ id ∉ rd) ∧ off + n ≤ cs.length ∧ K (({ s with loc := s.loc.set id (.cells (putCells cs off c)) } : AS).put d (.p .und))
  | some (.prt m cs) => (lst = true ∨ id ∉ rd) ∧ m ≤ off ∧ off + n ≤ cs.length ∧ K (({ s with loc := s.loc.set id (.prt m (putCells cs off c)) } : AS).put d (.p .und))
  | _ => False
def stG (v : AV) (u : Option (List AV)) (lst : Bool) (n : Nat) (rd : List Nat) (d : Option Nat) (s : AS) (K : AS → Prop) : Prop :=
  match v, u with
  | .loc id off, some c => stGB lst id off n s.loc[id]? c rd d s K
  | _, _ => False
end
end Go.Proofs.YtlbolnlcncjijaaGreat
