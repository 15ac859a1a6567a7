/- Contracts of what is shared: lists and sets. Mathematics of maker: what can be, of a maker, with some kinds changed. Mathematics of maker: values, changes that are needed, a mark more, two makers. Mathematics of maker: two makers who can be told apart. -/
import Derived.Test.YtefehlekneahmaaGreatGa15
namespace Go.Proofs.YtefehlekneahmaaGreat
open Go.RowKit
def ac36 : AC := (AC.seq (AC.ops [(AOp.mk (some 4) (AK.mv (AX.c (PV.val (Value.bool false)))) none 0 false true)]) (AC.seq (AC.ops [(AOp.mk (some 7) (AK.mv (AX.t 0)) none 0 false true), (AOp.mk (some 8) (AK.len (AX.t 7)) none 1 false true), (AOp.mk (some 9) (AK.mv (AX.t 1)) none 2 false true), (AOp.mk (some 10) (AK.len (AX.t 9)) none 3 false true), (AOp.mk (some 11) (AK.bin false BinOp.eql (AX.t 8) (AX.t 10)) none 4 false true), (AOp.mk (some 5) (AK.mv (AX.t 11)) none 5 false true)]) (AC.seq (AC.seq (AC.ops [(AOp.mk (some 6) (AK.mv (AX.c (PV.val (Value.int IntKind.i64 0)))) none 0 false true)]) (AC.block 0 (AC.loop (AC.seq (AC.seq (AC.ops [(AOp.mk (some 12) (AK.mv (AX.t 5)) none 0 false true), (AOp.mk (some 13) (AK.mv (AX.t 12)) none 1 false true), (AOp.mk (some 14) (AK.mv (AX.t 6)) (some (13, true)) 2 false true), (AOp.mk (some 15) (AK.mv (AX.t 0)) (some (13, true)) 3 false true), (AOp.mk (some 16) (AK.len (AX.t 15)) (some (13, true)) 4 false true), (AOp.mk (some 17) (AK.bin false BinOp.lss (AX.t 14) (AX.t 16)) (some (13, true)) 5 false true), (AOp.mk (some 18) (AK.pick (AX.t 13) (AX.t 17) (AX.c (PV.val (Value.bool false)))) none 6 false true)]) (AC.cond (AX.t 18) AC.skip (AC.exit 0))) (AC.seq (AC.block 1 (AC.ops [(AOp.mk (some 21) (AK.mv (AX.t 0)) none 0 true false), (AOp.mk (some 22) (AK.mv (AX.t 6)) none 1 true false), (AOp.mk (some 23) (AK.iadrS 1 (AX.t 21) (AX.t 22)) none 2 true false), (AOp.mk (some 24) (AK.ld none (AX.t 23)) none 3 true false), (AOp.mk (some 25) (AK.mv (AX.t 1)) none 4 true false), (AOp.mk (some 26) (AK.mv (AX.t 6)) none 5 true false), (AOp.mk (some 27) (AK.iadrS 1 (AX.t 25) (AX.t 26)) none 6 true false), (AOp.mk (some 28) (AK.ld none (AX.t 27)) none 7 true false), (AOp.mk (some 29) (AK.bin false BinOp.eql (AX.t 24) (AX.t 28)) none 8 true true), (AOp.mk (some 5) (AK.mv (AX.t 29)) none 9 true true)])) (AC.ops [(AOp.mk (some 19) (AK.mv (AX.t 6)) none 0 false true), (AOp.mk (some 20) (AK.bin false BinOp.add (AX.t 19) (AX.c (PV.val (Value.int IntKind.i64 1)))) none 1 false true), (AOp.mk (some 6) (AK.mv (AX.t 20)) none 2 false true)])))))) (AC.seq (AC.ops [(AOp.mk (some 30) (AK.mv (AX.t 5)) none 0 false true), (AOp.mk (some 4) (AK.mv (AX.t 30)) none 1 false true)]) AC.ret))))
theorem ac36_ok : cCode Tryz.prog (fun _ => false) Tryz.f36.ntmps (Tryz.f36.body.getD .skip) = some ac36 := by kernel_rfl
theorem Equal_sem (l m : List Int) : Sem1 36 [pis l, pis m] (pb (decide (l = m))) := by
  refine semC_of_exec' mixed Tryz.func36 (by kernel_rfl) (by kernel_rfl) ac36_ok 2 rfl (by decide) [(.tmp 4)] (by kernel_rfl) ?_
  intro hr C hC hI
  unfold ac36
  simp only [go_sem, Nat.reduceBEq, List.length_map]
  have hl := real_len (i := 0) hr rfl
  rw [List.length_map] at hl
  refine ⟨{x : Nat × Bool // x.1 ≤ l.length ∧ (l = m ↔ x.2 = true ∧ l.length = m.length ∧ l.drop x.1 = m.drop x.1) ∧ (x.2 = true → l.length = m.length)}, fun x => ⟨[(6, .p (pi x.1.1)), (5, .p (pb x.1.2)), (0, .p (pis l)), (1, .p (pis m))], [], [], some [], 0⟩, fun x => l.length - x.1.1, ⟨(0, decide ((l.length : Int) = m.length)), by simp, ?_, fun h => by simp only [decide_eq_true_eq] at h; omega⟩, (by simp [Wk, wkT, wkL, look, AV.lo]), ?_⟩
  · constructor
    · rintro rfl; simp
    · rintro ⟨h1, h2, h3⟩; exact h3
  rintro ⟨⟨j, t⟩, hj, hiff, hlen⟩
  simp only at hj hiff hlen
  cases t
  · simp only [go_sem, Nat.reduceBEq]
    refine retQ_one rfl ?_
    have : ¬ l = m := by rw [hiff]; simp
    simp [this]
  · have hlm := hlen rfl
    simp only [go_sem, Nat.reduceBEq, List.length_map]
    refine ⟨fun h5 => ?_, fun h5 => ?_⟩
    · have hj2 : j < l.length := by omega
      simp only [go_sem, Nat.reduceBEq, iadr_pis hj2, iadr_pis (show j < m.length by omega), wrap_succ (k := j) (by omega)]
      refine ⟨⟨(j + 1, decide (l[j] = m[j])), by simp only; omega, ?_, fun _ => hlm⟩, by simp only; omega, by simp [Wk, wkT, wkL, look, AV.lo]⟩
      rw [hiff, List.drop_eq_getElem_cons hj2, List.drop_eq_getElem_cons (show j < m.length by omega)]
      simp only [List.cons.injEq, hlm, true_and, decide_eq_true_eq]
    · refine retQ_one rfl ?_
      have : l = m := by
        rw [hiff]
        exact ⟨rfl, hlm, by rw [show l.drop j = [] from List.drop_eq_nil_of_le (by omega), show m.drop j = [] from List.drop_eq_nil_of_le (by omega)]⟩
      rw [decide_eq_true this]
def ac49 : AC := (AC.seq (AC.ops [(AOp.mk (some 4) (AK.mv (AX.c (PV.val (Value.bool false)))) none 0 false true)]) (AC.seq (AC.ops [(AOp.mk (some 5) (AK.mv (AX.c (PV.val (Value.int IntKind.i64 (-1))))) none 0 false true)]) (AC.seq (AC.seq (AC.ops [(AOp.mk (some 6) (AK.mv (AX.c (PV.val (Value.int IntKind.i64 0)))) none 0 false true)]) (AC.block 0 (AC.loop (AC.seq (AC.seq (AC.ops [(AOp.mk (some 7) (AK.mv (AX.t 6)) none 0 false true), (AOp.mk (some 8) (AK.mv (AX.t 0)) none 1 false true), (AOp.mk (some 9) (AK.len (AX.t 8)) none 2 false true), (AOp.mk (some 10) (AK.bin false BinOp.lss (AX.t 7) (AX.t 9)) none 3 false true)]) (AC.cond (AX.t 10) AC.skip (AC.exit 0))) (AC.seq (AC.block 1 (AC.seq (AC.seq (AC.ops [(AOp.mk (some 13) (AK.mv (AX.t 0)) none 0 false true), (AOp.mk (some 14) (AK.mv (AX.t 6)) none 1 false true), (AOp.mk (some 15) (AK.iadrS 1 (AX.t 13) (AX.t 14)) none 2 false true), (AOp.mk (some 16) (AK.ld none (AX.t 15)) none 3 false true), (AOp.mk (some 17) (AK.mv (AX.t 5)) none 4 false true), (AOp.mk (some 18) (AK.bin false BinOp.leq (AX.t 16) (AX.t 17)) none 5 false true), (AOp.mk (some 19) (AK.mv (AX.t 18)) none 6 false true), (AOp.mk (some 20) (AK.mv (AX.t 0)) (some (19, false)) 7 false true), (AOp.mk (some 21) (AK.mv (AX.t 6)) (some (19, false)) 8 false true), (AOp.mk (some 22) (AK.iadrS 1 (AX.t 20) (AX.t 21)) (some (19, false)) 9 false true), (AOp.mk (some 23) (AK.ld none (AX.t 22)) (some (19, false)) 10 false true), (AOp.mk (some 24) (AK.mv (AX.t 1)) (some (19, false)) 11 false true), (AOp.mk (some 25) (AK.bin false BinOp.geq (AX.t 23) (AX.t 24)) (some (19, false)) 12 false true), (AOp.mk (some 26) (AK.pick (AX.t 19) (AX.c (PV.val (Value.bool true))) (AX.t 25)) none 13 false true)]) (AC.cond (AX.t 26) (AC.seq (AC.ops [(AOp.mk (some 4) (AK.mv (AX.c (PV.val (Value.bool false)))) none 0 false true)]) AC.ret) AC.skip)) (AC.ops [(AOp.mk (some 27) (AK.mv (AX.t 0)) none 0 false true), (AOp.mk (some 28) (AK.mv (AX.t 6)) none 1 false true), (AOp.mk (some 29) (AK.iadrS 1 (AX.t 27) (AX.t 28)) none 2 false true), (AOp.mk (some 30) (AK.ld none (AX.t 29)) none 3 false true), (AOp.mk (some 5) (AK.mv (AX.t 30)) none 4 false true)]))) (AC.ops [(AOp.mk (some 11) (AK.mv (AX.t 6)) none 0 false true), (AOp.mk (some 12) (AK.bin false BinOp.add (AX.t 11) (AX.c (PV.val (Value.int IntKind.i64 1)))) none 1 false true), (AOp.mk (some 6) (AK.mv (AX.t 12)) none 2 false true)])))))) (AC.seq (AC.ops [(AOp.mk (some 4) (AK.mv (AX.c (PV.val (Value.bool true)))) none 0 false true)]) AC.ret))))
theorem ac49_ok : cCode Tryz.prog (fun _ => false) Tryz.f49.ntmps (Tryz.f49.body.getD .skip) = some ac49 := by kernel_rfl
theorem Grows_sem (l : List Int) (m : Int) : SemC Tryz.prog 49 [pis l, pi m] (fun r => ∃ t, r = pb t ∧ (t = true ↔ growsI l m)) := by
  refine semC_of_exec' mixed Tryz.func49 (by kernel_rfl) (by kernel_rfl) ac49_ok 2 rfl (by decide) [(.tmp 4)] (by kernel_rfl) ?_
  intro hr C hC hI
  unfold ac49
  simp only [go_sem]
  have hl := real_len (i := 0) hr rfl
  rw [List.length_map] at hl
  refine ⟨{x : Nat × Int // x.1 ≤ l.length ∧ -1 ≤ x.2 ∧ (growsI l m ↔ incL (l.drop x.1) ∧ ∀ n ∈ l.drop x.1, x.2 < n ∧ n < m)}, fun x => ⟨[(6, .p (pi x.1.1)), (5, .p (pi x.1.2)), (0, .p (pis l)), (1, .p (pi m))], [], [], some [], 0⟩, fun x => l.length - x.1.1, ⟨(0, -1), by simp, by simp, ?_⟩, (by simp [Wk, wkT, wkL, look, AV.lo]), ?_⟩
  · simp only [List.drop_zero, growsI]
    refine and_congr Iff.rfl (forall_congr' fun n => forall_congr' fun _ => ?_)
    omega
  rintro ⟨⟨j, p⟩, hj, hp, hiff⟩
  simp only at hj hp hiff
  simp only [go_sem, Nat.reduceBEq, List.length_map]
  refine ⟨fun h5 => ?_, fun h5 => ?_⟩
  · have hj2 : j < l.length := by omega
    rw [List.drop_eq_getElem_cons hj2] at hiff
    simp only [go_sem, Nat.reduceBEq, iadr_pis hj2, wrap_succ (k := j) (by omega)]
    have no : ¬ (p < l[j] ∧ l[j] < m) → ¬ growsI l m := fun h hg => h ((hiff.1 hg).2 _ (List.mem_cons_self ..))
    refine ⟨fun h6 => ⟨fun h7 => ?_, fun h7 => ?_⟩, fun h6 => ?_⟩
    · exact retQ_one rfl ⟨false, rfl, by have := no (by omega); simp [this]⟩
    · refine ⟨⟨(j + 1, l[j]), by simp only; omega, by simp only; omega, ?_⟩, by simp only; omega, by simp [Wk, wkT, wkL, look, AV.lo]⟩
      rw [hiff]
      unfold incL
      rw [List.pairwise_cons]
      simp only [List.mem_cons]
      constructor
      · rintro ⟨⟨h8, h9⟩, h10⟩
        exact ⟨h9, fun n hn => ⟨h8 n hn, (h10 n (.inr hn)).2⟩⟩
      · rintro ⟨h8, h9⟩
        refine ⟨⟨fun n hn => (h9 n hn).1, h8⟩, fun n hn => ?_⟩
        rcases hn with rfl | hn
        · omega
        · have := h9 n hn; omega
    · exact retQ_one rfl ⟨false, rfl, by have := no (by omega); simp [this]⟩
  · refine retQ_one rfl ⟨true, rfl, ?_⟩
    rw [hiff, show l.drop j = [] from List.drop_eq_nil_of_le (by omega)]
    simp [incL]
def ac44 : AC := (AC.seq (AC.ops [(AOp.mk (some 4) (AK.mv (AX.c (PV.val (Value.bool false)))) none 0 false true)]) (AC.seq (AC.ops [(AOp.mk (some 5) (AK.mv (AX.t 0)) none 0 false true), (AOp.mk (some 6) (AK.mv (AX.t 1)) none 1 false true), (AOp.mk (some 7) (AK.bin false BinOp.shr (AX.t 5) (AX.t 6)) none 2 false true), (AOp.mk (some 8) (AK.bin false BinOp.and (AX.t 7) (AX.c (PV.val (Value.int IntKind.i64 1)))) none 3 false true), (AOp.mk (some 9) (AK.bin false BinOp.eql (AX.t 8) (AX.c (PV.val (Value.int IntKind.i64 1)))) none 4 false true), (AOp.mk (some 4) (AK.mv (AX.t 9)) none 5 false true)]) AC.ret))
theorem ac44_ok : cCode Tryz.prog (fun _ => false) Tryz.f44.ntmps (Tryz.f44.body.getD .skip) = some ac44 := by kernel_rfl
theorem Of_sem (set n : Int) (hn : 0 ≤ n) : Sem1 44 [pi set, pi n] (pb (ofI set n)) := by
  refine semC_of_exec' mixed Tryz.func44 (by kernel_rfl) (by kernel_rfl) ac44_ok 2 rfl (by decide) [(.tmp 4)] (by kernel_rfl) ?_
  intro hr C hC hI
  unfold ac44
  simp only [go_sem, Nat.reduceBEq, bin_shr (show ¬ n < 0 by omega), bin_and]
  exact retQ_one rfl (congrArg (fun x : Int => pb (decide (x = 1))) (and1 (set.fdiv (2 ^ min n.toNat 64))))
def ac68 : AC := (AC.seq (AC.ops [(AOp.mk (some 4) (AK.mv (AX.c (PV.sl SK.full 0 []))) none 0 false true)]) (AC.seq (AC.ops [(AOp.mk (some 7) (AK.bslice false 3 1 0 [(PV.val (Value.int IntKind.i64 0))] []) none 0 false true), (AOp.mk (some 5) (AK.mv (AX.t 7)) none 1 false true)]) (AC.seq (AC.seq (AC.ops [(AOp.mk (some 6) (AK.mv (AX.c (PV.val (Value.int IntKind.i64 0)))) none 0 false true)]) (AC.block 0 (AC.loop (AC.seq (AC.seq (AC.ops [(AOp.mk (some 8) (AK.mv (AX.t 6)) none 0 false true), (AOp.mk (some 9) (AK.mv (AX.t 1)) none 1 false true), (AOp.mk (some 10) (AK.bin false BinOp.lss (AX.t 8) (AX.t 9)) none 2 false true)]) (AC.cond (AX.t 10) AC.skip (AC.exit 0))) (AC.seq (AC.block 1 (AC.seq (AC.ops [(AOp.mk (some 13) (AK.mv (AX.t 0)) none 0 false true), (AOp.mk (some 14) (AK.mv (AX.t 6)) none 1 false true), (AOp.mk (some 15) (AK.call 44 [(AX.t 13), (AX.t 14)]) none 2 false true)]) (AC.cond (AX.t 15) (AC.ops [(AOp.mk (some 16) (AK.mv (AX.t 5)) none 0 false true), (AOp.mk (some 17) (AK.mv (AX.t 6)) none 1 false true), (AOp.mk (some 18) (AK.bslice false 3 1 1 [(PV.val (Value.int IntKind.i64 0))] [(0, (1, (AX.t 17)))]) none 2 false true), (AOp.mk (some 19) (AK.app false 3 1 8 [(PV.val (Value.int IntKind.i64 0))] (AX.t 16) (AX.t 18)) none 3 false true), (AOp.mk (some 5) (AK.mv (AX.t 19)) none 4 false true)]) AC.skip))) (AC.ops [(AOp.mk (some 11) (AK.mv (AX.t 6)) none 0 false true), (AOp.mk (some 12) (AK.bin false BinOp.add (AX.t 11) (AX.c (PV.val (Value.int IntKind.i64 1)))) none 1 false true), (AOp.mk (some 6) (AK.mv (AX.t 12)) none 2 false true)])))))) (AC.seq (AC.ops [(AOp.mk (some 20) (AK.mv (AX.t 5)) none 0 false true), (AOp.mk (some 4) (AK.mv (AX.t 20)) none 1 false true)]) AC.ret))))
theorem ac68_ok : cCode Tryz.prog (fun _ => false) Tryz.f68.ntmps (Tryz.f68.body.getD .skip) = some ac68 := by kernel_rfl
theorem List_sem (set : Int) (m : Nat) (hm : m ≤ 1000) : Sem1 68 [pi set, pi m] (pis (listI set m)) := by
  unfold listI
  obtain ⟨f, hf⟩ : ∃ f : Nat → Bool, (fun (i : Nat) => ofI set i) = f := ⟨_, rfl⟩
  rw [hf]
  refine semC_of_exec' mixed Tryz.func68 (by kernel_rfl) (by kernel_rfl) ac68_ok 2 rfl (by decide) [(.tmp 4)] (by kernel_rfl) ?_
  intro hr C hC hI
  unfold ac68
  simp only [go_sem, Nat.reduceBEq]
  refine ⟨{x : Nat × Option Nat // x.1 ≤ m ∧ (x.2 = none → ((List.range x.1).filter f).map (fun (i : Nat) => (i : Int)) = [])}, fun x => ⟨[(6, .p (pi x.1.1)), (5, .p (match x.1.2 with | none => .sl .full 1 [] | some t => .sl (.own t 3 1) 1 ((((List.range x.1.1).filter f).map fun (i : Nat) => (i : Int)).map fun x => [pi x]))), (0, .p (pi set)), (1, .p (pi m))], [], x.1.2.toList, some [], 0⟩, fun x => m - x.1.1, ⟨(0, none), by simp, fun _ => rfl⟩, (by simp [Wk, wkT, wkL, look, AV.lo]), ?_⟩
  rintro ⟨⟨j, o⟩, hj, ho⟩
  simp only at hj ho
  simp only [go_sem, Nat.reduceBEq]
  refine ⟨fun h5 => ?_, fun h5 => ?_⟩
  · have hj2 : j < m := by omega
    have hsn : ((List.range (j + 1)).filter f).map (fun (i : Nat) => (i : Int)) = ((List.range j).filter f).map (fun (i : Nat) => (i : Int)) ++ if f j then [(j : Int)] else [] := by
      rw [List.range_succ, List.filter_append, List.map_append]
      congr 1
      simp only [List.filter_cons, List.filter_nil]
      split <;> rfl
    have hfj : ofI set j = f j := by rw [← hf]
    obtain ⟨L, hL⟩ : ∃ L, ((List.range j).filter f).map (fun (i : Nat) => (i : Int)) = L := ⟨_, rfl⟩
    have hLl : L.length ≤ j := by rw [← hL, List.length_map]; exact Nat.le_trans (List.length_filter_le ..) (by simp)
    rw [hL] at hsn ho
    simp only [hL]
    refine call_pure2 hC (Of_sem set j (by omega)) rfl (PVleL_refl _) ?_
    rintro r rfl
    simp only [go_sem, Nat.reduceBEq, hfj]
    cases hb : f j
    · rw [hb] at hsn
      simp only [Bool.false_eq_true, if_false, List.append_nil] at hsn
      simp only [go_sem, Nat.reduceBEq, wrap_succ (k := j) (by omega)]
      refine ⟨⟨(j + 1, o), by simp only; omega, fun h => by simp only; rw [hsn]; exact ho h⟩, by simp only; omega, ?_⟩
      simp only [hsn]
      cases o <;> simp [Wk, wkT, wkL, look, AV.lo]
    · rw [hb] at hsn
      simp only [if_true] at hsn
      cases o with
      | none =>
        have h0 := ho rfl
        subst h0
        simp only [go_sem, Nat.reduceBEq, Nat.reduceLeDiff, wrap_succ (k := j) (by omega)]
        intro tk _
        refine ⟨⟨(j + 1, some tk), by simp only; omega, fun h => by cases h⟩, by simp only; omega, ?_⟩
        simp only [hsn]
        simp [Wk, wkT, wkL, look, AV.lo]
      | some tk =>
        simp only [go_sem, Nat.reduceBEq, Nat.reduceLeDiff, wrap_succ (k := j) (by omega)]
        refine ⟨by rw [List.length_map]; omega, by simp, fun t2 _ => ?_⟩
        refine ⟨⟨(j + 1, some t2), by simp only; omega, fun h => by cases h⟩, by simp only; omega, ?_⟩
        simp only [hsn]
        simp [Wk, wkT, wkL, look, AV.lo]
  · have hjn : j = m := by omega
    subst hjn
    cases o with
    | none =>
      rw [ho rfl]
      exact retQ_le rfl (PVle.nil .full 1 1) rfl
    | some tk => exact retQ_le rfl (PVle.sh _ _ _) rfl
def ac47 : AC := (AC.seq (AC.ops [(AOp.mk (some 4) (AK.mv (AX.c (PV.val (Value.int IntKind.i64 0)))) none 0 false true)]) (AC.seq (AC.seq (AC.ops [(AOp.mk (some 5) (AK.mv (AX.c (PV.val (Value.int IntKind.i64 0)))) none 0 false true)]) (AC.block 0 (AC.loop (AC.seq (AC.seq (AC.ops [(AOp.mk (some 6) (AK.mv (AX.t 5)) none 0 false true), (AOp.mk (some 7) (AK.mv (AX.t 0)) none 1 false true), (AOp.mk (some 8) (AK.len (AX.t 7)) none 2 false true), (AOp.mk (some 9) (AK.bin false BinOp.lss (AX.t 6) (AX.t 8)) none 3 false true)]) (AC.cond (AX.t 9) AC.skip (AC.exit 0))) (AC.seq (AC.block 1 (AC.seq (AC.ops [(AOp.mk (some 12) (AK.mv (AX.t 0)) none 0 false true), (AOp.mk (some 13) (AK.mv (AX.t 5)) none 1 false true), (AOp.mk (some 14) (AK.iadrS 1 (AX.t 12) (AX.t 13)) none 2 false true), (AOp.mk (some 15) (AK.ld none (AX.t 14)) none 3 false true), (AOp.mk (some 16) (AK.mv (AX.t 1)) none 4 false true), (AOp.mk (some 17) (AK.bin false BinOp.eql (AX.t 15) (AX.t 16)) none 5 false true)]) (AC.cond (AX.t 17) (AC.seq (AC.ops [(AOp.mk (some 18) (AK.mv (AX.t 5)) none 0 false true), (AOp.mk (some 4) (AK.mv (AX.t 18)) none 1 false true)]) AC.ret) AC.skip))) (AC.ops [(AOp.mk (some 10) (AK.mv (AX.t 5)) none 0 false true), (AOp.mk (some 11) (AK.bin false BinOp.add (AX.t 10) (AX.c (PV.val (Value.int IntKind.i64 1)))) none 1 false true), (AOp.mk (some 5) (AK.mv (AX.t 11)) none 2 false true)])))))) (AC.seq (AC.ops [(AOp.mk (some 4) (AK.mv (AX.c (PV.val (Value.int IntKind.i64 (-1))))) none 0 false true)]) AC.ret)))
theorem ac47_ok : cCode Tryz.prog (fun _ => false) Tryz.f47.ntmps (Tryz.f47.body.getD .skip) = some ac47 := by kernel_rfl
theorem Find_sem (l : List Int) (n : Int) : SemC Tryz.prog 47 [pis l, pi n] (fun r => ∃ i : Int, r = pi i ∧ (i < 0 ↔ n ∉ l)) := by
  refine semC_of_exec' mixed Tryz.func47 (by kernel_rfl) (by kernel_rfl) ac47_ok 2 rfl (by decide) [(.tmp 4)] (by kernel_rfl) ?_
  intro hr C hC hI
  unfold ac47
  simp only [go_sem]
  have hl := real_len (i := 0) hr rfl
  rw [List.length_map] at hl
  refine loop_nat l.length (fun j => ∀ x ∈ l.take j, x ≠ n) (fun (j : Nat) => ⟨[(5, .p (pi j)), (0, .p (pis l)), (1, .p (pi n))], [], [], some [], 0⟩) (by simp) (by simp [Wk, wkT, wkL, look, AV.lo]) ?_
  rintro j ⟨hj, hok⟩
  simp only [go_sem, Nat.reduceBEq, List.length_map]
  refine ⟨fun h5 => ?_, fun h5 => ?_⟩
  · have hj2 : j < l.length := by omega
    simp only [go_sem, Nat.reduceBEq, iadr_pis hj2, wrap_succ (k := j) (by omega)]
    refine ⟨fun h6 => ?_, fun h6 => ?_⟩
    · exact retQ_one rfl ⟨j, rfl, by have : n ∈ l := h6 ▸ List.getElem_mem hj2; constructor; { intro h; omega }; { intro h; exact absurd this h }⟩
    · refine ⟨⟨j + 1, hj2, fun x hx => ?_⟩, by simp only; omega, by simp [Wk, wkT, wkL, look, AV.lo]⟩
      rw [List.take_succ_eq_append_getElem hj2, List.mem_append, List.mem_singleton] at hx
      rcases hx with hx | rfl
      · exact hok x hx
      · exact h6
  · refine retQ_one rfl ⟨-1, rfl, ?_⟩
    have hjn : j = l.length := by omega
    subst hjn
    rw [List.take_length] at hok
    exact ⟨fun _ h => hok n h rfl, fun _ => by omega⟩
end Go.Proofs.YtefehlekneahmaaGreat
namespace Go.Proofs.YtefehlekneahmaaGreat.Mk
open Go.RowKit
structure MBook where
  makers : List (List Int)
  seen : List (Int × Int)
  repairs : Int
  fixed : Int
abbrev nK (b : MBook) : Nat := (b.makers.getD 0 []).length
def mkI (b : MBook) (m k : Nat) : Int := (b.makers.getD m []).getD k 0
def mkN (b : MBook) (m k : Nat) : Nat := (mkI b m k).toNat
/-- What was seen of a kind, by some marks. -/
def seenL (l : List (Int × Int)) (k : Nat) : Nat := l.foldl (fun s m => if m.1 = (k : Int) then s &&& m.2.toNat else s) 31
def seenN (b : MBook) (k : Nat) : Nat := seenL b.seen k
def ownN (b : MBook) (m k : Nat) : Nat := mkN b m k &&& seenN b k
def fixN (b : MBook) : Nat := b.fixed.toNat
def valN (b : MBook) (m c k : Nat) : Nat := if c.testBit k then seenN b k else ownN b m k
def cntN (c n : Nat) : Nat := ((List.range n).filter c.testBit).length
def truthB (b : MBook) (m c : Nat) : Bool := decide (c &&& fixN b = 0) && decide ((cntN c (nK b) : Int) ≤ b.repairs) && (List.range (nK b)).all fun k => decide (valN b m c k ≠ 0)
def truthsL (b : MBook) (m : Nat) : List Nat := (List.range (2 ^ nK b)).filter (truthB b m)
def possB (b : MBook) (m : Nat) : Bool := decide (truthsL b m ≠ [])
def zeroB (b : MBook) (m k : Nat) : Bool := decide (ownN b m k = 0)
def zeros (b : MBook) (m : Nat) : Nat := ((List.range (nK b)).filter (zeroB b m)).length
def rightB (b : MBook) : Bool := (List.range (nK b)).all fun k => decide (seenN b k ≠ 0)
def freeB (b : MBook) (m : Nat) : Bool := (List.range (nK b)).all fun k => !(zeroB b m k && (fixN b).testBit k)
def whoL (b : MBook) : List Nat := (List.range b.makers.length).filter (possB b)
theorem ne_bit {x : Nat} : x ≠ 0 ↔ ∃ i, x.testBit i = true := by
  constructor
  · intro h
    exact Nat.exists_testBit_of_ne_zero h
  · rintro ⟨i, hi⟩ rfl
    simp at hi
theorem and_ne {x y : Nat} : x &&& y ≠ 0 ↔ ∃ i, x.testBit i = true ∧ y.testBit i = true := by
  rw [ne_bit]
  simp only [Nat.testBit_and, Bool.and_eq_true]
theorem and_zero {x y : Nat} : x &&& y = 0 ↔ ∀ i, ¬ (x.testBit i = true ∧ y.testBit i = true) := by
  constructor
  · intro h i hi
    exact and_ne.2 ⟨i, hi⟩ h
  · intro h
    rcases Decidable.em (x &&& y = 0) with h0 | h0
    · exact h0
    · obtain ⟨i, hi⟩ := and_ne.1 h0
      exact absurd hi (h i)
theorem bit_lt {c n k : Nat} (h : c < 2 ^ n) (hb : c.testBit k = true) : k < n := by
  rcases Nat.lt_or_ge k n with h1 | h1
  · exact h1
  · rw [Nat.testBit_lt_two_pow (Nat.lt_of_lt_of_le h (Nat.pow_le_pow_right (by decide) h1))] at hb
    cases hb
theorem bitsN (p : Nat → Bool) : ∀ m : Nat, ∃ s : Nat, s < 2 ^ m ∧ ∀ i, i < m → s.testBit i = p i
  | 0 => ⟨0, by decide, fun i h => absurd h (by omega)⟩
  | m + 1 => by
    obtain ⟨s, hs, hp⟩ := bitsN p m
    cases hm : p m
    · refine ⟨s, by rw [Nat.pow_succ]; omega, fun i hi => ?_⟩
      by_cases e : i = m
      · rw [e, hm]
        exact Nat.testBit_lt_two_pow hs
      · exact hp i (by omega)
    · refine ⟨2 ^ m + s, by rw [Nat.pow_succ]; omega, fun i hi => ?_⟩
      by_cases e : i = m
      · rw [e, hm, Nat.testBit_two_pow_add_eq, Nat.testBit_lt_two_pow hs]
        rfl
      · rw [Nat.testBit_two_pow_add_gt (by omega)]
        exact hp i (by omega)
theorem filt_le {n : Nat} {p q : Nat → Bool} (h : ∀ k, k < n → p k = true → q k = true) : ((List.range n).filter p).length ≤ ((List.range n).filter q).length := by
  rw [← List.countP_eq_length_filter, ← List.countP_eq_length_filter]
  refine List.countP_mono_left fun k hk hp => h k (List.mem_range.1 hk) hp
theorem filt_eq {n : Nat} {p q : Nat → Bool} (h : ∀ k, k < n → p k = q k) : ((List.range n).filter p).length = ((List.range n).filter q).length := by
  rw [List.filter_congr fun k hk => h k (List.mem_range.1 hk)]
theorem cnt_bits {c n : Nat} {p : Nat → Bool} (h : ∀ k, k < n → c.testBit k = p k) : cntN c n = ((List.range n).filter p).length := filt_eq h
theorem own_sub {b : MBook} {m k i : Nat} (h : (ownN b m k).testBit i = true) : (seenN b k).testBit i = true ∧ (mkN b m k).testBit i = true := by
  unfold ownN at h
  rw [Nat.testBit_and, Bool.and_eq_true] at h
  exact ⟨h.2, h.1⟩
theorem val_seen {b : MBook} {m c k i : Nat} (h : (valN b m c k).testBit i = true) : (seenN b k).testBit i = true := by
  unfold valN at h
  split at h
  · exact h
  · exact (own_sub h).1
structure TruthP (b : MBook) (m c : Nat) : Prop where
  fix : ∀ k, c.testBit k = true → (fixN b).testBit k = false
  cnt : (cntN c (nK b) : Int) ≤ b.repairs
  val : ∀ k, k < nK b → valN b m c k ≠ 0
theorem truth_iff {b : MBook} {m c : Nat} : truthB b m c = true ↔ TruthP b m c := by
  unfold truthB
  rw [Bool.and_eq_true, Bool.and_eq_true, decide_eq_true_eq, decide_eq_true_eq, List.all_eq_true, and_zero]
  constructor
  · rintro ⟨⟨h1, h2⟩, h3⟩
    refine ⟨fun k hk => ?_, h2, fun k hk => by simpa using h3 k (List.mem_range.2 hk)⟩
    rw [Bool.eq_false_iff]
    exact fun h => h1 k ⟨hk, h⟩
  · rintro ⟨h1, h2, h3⟩
    refine ⟨⟨fun i hi => ?_, h2⟩, fun k hk => by simpa using h3 k (List.mem_range.1 hk)⟩
    rw [h1 i hi.1] at hi
    exact absurd hi.2 (by decide)
theorem mem_truths {b : MBook} {m c : Nat} : c ∈ truthsL b m ↔ c < 2 ^ nK b ∧ TruthP b m c := by
  unfold truthsL
  rw [List.mem_filter, List.mem_range, truth_iff]
theorem poss_iff {b : MBook} {m : Nat} : possB b m = true ↔ ∃ c, c < 2 ^ nK b ∧ TruthP b m c := by
  unfold possB
  rw [decide_eq_true_eq]
  constructor
  · intro h
    obtain ⟨c, l, e⟩ := List.exists_cons_of_ne_nil h
    exact ⟨c, mem_truths.1 (by rw [e]; exact List.mem_cons_self ..)⟩
  · rintro ⟨c, hc⟩ e
    have := mem_truths.2 hc
    rw [e] at this
    exact absurd this (by simp)
/-- Some kinds, among them all of which nothing is the maker's own, none of them fixed. -/
theorem truth_of {b : MBook} {m : Nat} {p : Nat → Bool} (hr : rightB b = true) (hz : ∀ k, k < nK b → zeroB b m k = true → p k = true) (hf : ∀ k, k < nK b → p k = true → (fixN b).testBit k = false) (hc : (((List.range (nK b)).filter p).length : Int) ≤ b.repairs) :
    ∃ c, c < 2 ^ nK b ∧ TruthP b m c ∧ ∀ k, k < nK b → c.testBit k = p k := by
  obtain ⟨c, hlt, hb⟩ := bitsN p (nK b)
  refine ⟨c, hlt, ⟨fun k hk => ?_, ?_, fun k hk => ?_⟩, hb⟩
  · have hkn := bit_lt hlt hk
    rw [hb k hkn] at hk
    exact hf k hkn hk
  · rw [cnt_bits hb]
    exact hc
  · unfold valN
    rw [hb k hk]
    have hs : seenN b k ≠ 0 := by
      have := List.all_eq_true.1 hr k (List.mem_range.2 hk)
      simpa using this
    cases hp : p k
    · rw [if_neg (by decide)]
      intro h0
      have := hz k hk (decide_eq_true h0)
      rw [hp] at this
      cases this
    · rw [if_pos rfl]
      exact hs
theorem truth_zero {b : MBook} {m c k : Nat} (h : TruthP b m c) (hk : k < nK b) (hz : zeroB b m k = true) : c.testBit k = true := by
  have h0 : ownN b m k = 0 := of_decide_eq_true hz
  have hv := h.val k hk
  unfold valN at hv
  split at hv
  · assumption
  · exact absurd h0 hv
theorem truth_right {b : MBook} {m c : Nat} (h : TruthP b m c) : rightB b = true := by
  refine List.all_eq_true.2 fun k hk => ?_
  obtain ⟨i, hi⟩ := ne_bit.1 (h.val k (List.mem_range.1 hk))
  simp only [decide_eq_true_eq]
  exact ne_bit.2 ⟨i, val_seen hi⟩
theorem truth_free {b : MBook} {m c : Nat} (h : TruthP b m c) : freeB b m = true := by
  refine List.all_eq_true.2 fun k hk => ?_
  cases hz : zeroB b m k
  · rfl
  · rw [h.fix k (truth_zero h (List.mem_range.1 hk) hz)]
    rfl
theorem truth_cnt {b : MBook} {m c : Nat} (h : TruthP b m c) : zeros b m ≤ cntN c (nK b) := filt_le fun _ hk hz => truth_zero h hk hz
theorem free_fix {b : MBook} {m k : Nat} (h : freeB b m = true) (hk : k < nK b) (hz : zeroB b m k = true) : (fixN b).testBit k = false := by
  have := List.all_eq_true.1 h k (List.mem_range.2 hk)
  rw [hz] at this
  simpa using this
theorem poss_eq {b : MBook} {m : Nat} : possB b m = true ↔ rightB b = true ∧ freeB b m = true ∧ (zeros b m : Int) ≤ b.repairs := by
  rw [poss_iff]
  constructor
  · rintro ⟨c, -, h⟩
    have h1 := truth_cnt h
    have h2 := h.cnt
    exact ⟨truth_right h, truth_free h, by omega⟩
  · rintro ⟨h1, h2, h3⟩
    obtain ⟨c, hlt, ht, -⟩ := truth_of (p := zeroB b m) h1 (fun _ _ h => h) (fun k hk hz => free_fix h2 hk hz) h3
    exact ⟨c, hlt, ht⟩
/-- Was a kind changed in each truth, in some? -/
theorem each_iff {b : MBook} {m k : Nat} (hp : possB b m = true) (hk : k < nK b) : (∀ c ∈ truthsL b m, c.testBit k = true) ↔ zeroB b m k = true := by
  obtain ⟨h1, h2, h3⟩ := poss_eq.1 hp
  constructor
  · intro H
    obtain ⟨c, hlt, ht, hb⟩ := truth_of (p := zeroB b m) h1 (fun _ _ h => h) (fun k hk hz => free_fix h2 hk hz) h3
    have := H c (mem_truths.2 ⟨hlt, ht⟩)
    rwa [hb k hk] at this
  · intro hz c hc
    exact truth_zero (mem_truths.1 hc).2 hk hz
theorem filt_one {n k : Nat} (hk : k < n) {p : Nat → Bool} (hp : p k = false) : ((List.range n).filter fun i => p i || decide (i = k)).length = ((List.range n).filter p).length + 1 := by
  rw [← List.countP_eq_length_filter, ← List.countP_eq_length_filter]
  have h1 : List.range n = List.range k ++ k :: List.range' (k + 1) (n - k - 1) := by
    rw [List.range_eq_range', List.range_eq_range', ← List.range'_succ]
    have := List.range'_append (s := 0) (m := k) (n := n - k - 1 + 1) (step := 1)
    rw [Nat.one_mul, Nat.zero_add, show k + (n - k - 1 + 1) = n by omega] at this
    exact this.symm
  rw [h1, List.countP_append, List.countP_append, List.countP_cons, List.countP_cons, hp]
  have e1 : (List.range k).countP (fun i => p i || decide (i = k)) = (List.range k).countP p := by
    refine List.countP_congr fun i hi => ?_
    have := List.mem_range.1 hi
    simp [show ¬ i = k by omega]
  have e2 : (List.range' (k + 1) (n - k - 1)).countP (fun i => p i || decide (i = k)) = (List.range' (k + 1) (n - k - 1)).countP p := by
    refine List.countP_congr fun i hi => ?_
    have := (List.mem_range'_1.1 hi).1
    simp [show ¬ i = k by omega]
  rw [e1, e2]
  simp
  omega
theorem some_iff {b : MBook} {m k : Nat} (hp : possB b m = true) (hk : k < nK b) : (∃ c ∈ truthsL b m, c.testBit k = true) ↔ zeroB b m k = true ∨ ((fixN b).testBit k = false ∧ (zeros b m : Int) < b.repairs) := by
  obtain ⟨h1, h2, h3⟩ := poss_eq.1 hp
  constructor
  · rintro ⟨c, hc, hb⟩
    obtain ⟨-, ht⟩ := mem_truths.1 hc
    cases hz : zeroB b m k
    · refine .inr ⟨ht.fix k hb, ?_⟩
      have e := filt_one hk hz
      have : ((List.range (nK b)).filter fun i => zeroB b m i || decide (i = k)).length ≤ cntN c (nK b) := filt_le fun i hi h => by
        rw [Bool.or_eq_true, decide_eq_true_eq] at h
        rcases h with h | rfl
        · exact truth_zero ht hi h
        · exact hb
      have := ht.cnt
      unfold zeros
      omega
    · exact .inl rfl
  · intro H
    cases hz : zeroB b m k
    · rw [hz] at H
      rcases H with H | ⟨hf, hlt⟩
      · cases H
      obtain ⟨c, hc, ht, hb⟩ := truth_of (p := fun i => zeroB b m i || decide (i = k)) h1 (fun i _ h => by rw [h]; rfl) (fun i hi h => by
        rw [Bool.or_eq_true, decide_eq_true_eq] at h
        rcases h with h | rfl
        · exact free_fix h2 hi h
        · exact hf) (by rw [filt_one hk hz]; unfold zeros at hlt; omega)
      refine ⟨c, mem_truths.2 ⟨hc, ht⟩, ?_⟩
      rw [hb k hk]
      simp
    · obtain ⟨c, hc, ht, hb⟩ := truth_of (p := zeroB b m) h1 (fun _ _ h => h) (fun k hk hz => free_fix h2 hk hz) h3
      exact ⟨c, mem_truths.2 ⟨hc, ht⟩, truth_zero ht hk hz⟩
end Go.Proofs.YtefehlekneahmaaGreat.Mk
namespace Go.Proofs.YtefehlekneahmaaGreat.Mk
open Go.RowKit
def allT (b : MBook) : List (Nat × Nat) := (List.range b.makers.length).flatMap fun m => (truthsL b m).map fun c => (m, c)
def canN (b : MBook) (k : Nat) : Nat := (allT b).foldl (fun s t => s ||| valN b t.1 t.2 k) 0
def valuesL (b : MBook) (k : Nat) : List Nat := (List.range 5).filter (canN b k).testBit
theorem mem_allT {b : MBook} {m c : Nat} : (m, c) ∈ allT b ↔ m < b.makers.length ∧ c ∈ truthsL b m := by
  unfold allT
  rw [List.mem_flatMap]
  constructor
  · rintro ⟨m', hm, h⟩
    obtain ⟨c', hc, e⟩ := List.mem_map.1 h
    rw [Prod.mk.injEq] at e
    obtain ⟨rfl, rfl⟩ := e
    exact ⟨List.mem_range.1 hm, hc⟩
  · rintro ⟨hm, hc⟩
    exact ⟨m, List.mem_range.2 hm, List.mem_map.2 ⟨c, hc, rfl⟩⟩
theorem fold_or {α : Type} (f : α → Nat) (i : Nat) : ∀ (l : List α) (s : Nat), (l.foldl (fun s t => s ||| f t) s).testBit i = true ↔ s.testBit i = true ∨ ∃ t ∈ l, (f t).testBit i = true
  | [], s => by simp
  | x :: l, s => by
    rw [List.foldl_cons, fold_or f i l, Nat.testBit_or, Bool.or_eq_true]
    simp only [List.mem_cons]
    constructor
    · rintro ((h | h) | ⟨t, ht, h⟩)
      · exact .inl h
      · exact .inr ⟨x, .inl rfl, h⟩
      · exact .inr ⟨t, .inr ht, h⟩
    · rintro (h | ⟨t, rfl | ht, h⟩)
      · exact .inl (.inl h)
      · exact .inl (.inr h)
      · exact .inr ⟨t, ht, h⟩
theorem can_bit {b : MBook} {k i : Nat} : (canN b k).testBit i = true ↔ ∃ m c, m < b.makers.length ∧ c ∈ truthsL b m ∧ (valN b m c k).testBit i = true := by
  unfold canN
  rw [fold_or]
  constructor
  · rintro (h | ⟨⟨m, c⟩, ht, h⟩)
    · simp at h
    · obtain ⟨hm, hc⟩ := mem_allT.1 ht
      exact ⟨m, c, hm, hc, h⟩
  · rintro ⟨m, c, hm, hc, h⟩
    exact .inr ⟨(m, c), mem_allT.2 ⟨hm, hc⟩, h⟩
def withR (b : MBook) (r : Nat) : MBook := { b with repairs := (r : Int) }
def needsO (b : MBook) (m : Nat) : Option Nat := (List.range (nK b + 1)).find? fun r => possB (withR b r) m
theorem zeros_le (b : MBook) (m : Nat) : zeros b m ≤ nK b := by
  unfold zeros
  exact Nat.le_trans (List.length_filter_le ..) (by simp)
theorem possR_eq {b : MBook} {m r : Nat} : possB (withR b r) m = true ↔ rightB b = true ∧ freeB b m = true ∧ zeros b m ≤ r := by
  rw [poss_eq]
  show rightB b = true ∧ freeB b m = true ∧ (zeros b m : Int) ≤ (r : Int) ↔ _
  rw [Int.ofNat_le]
theorem find_range {n : Nat} {P : Nat → Bool} {z : Nat} (hz : z < n) (hp : P z = true) (hb : ∀ x, x < z → P x = false) : (List.range n).find? P = some z := by
  rw [List.find?_eq_some_iff_append]
  refine ⟨hp, List.range z, List.range' (z + 1) (n - z - 1), ?_, fun x hx => by rw [hb x (List.mem_range.1 hx)]; rfl⟩
  rw [List.range_eq_range', List.range_eq_range', ← List.range'_succ]
  have := List.range'_append (s := 0) (m := z) (n := n - z - 1 + 1) (step := 1)
  rw [Nat.one_mul, Nat.zero_add, show z + (n - z - 1 + 1) = n by omega] at this
  exact this.symm
theorem needs_eq {b : MBook} {m : Nat} : needsO b m = if rightB b = true ∧ freeB b m = true then some (zeros b m) else none := by
  unfold needsO
  split
  · rename_i h
    refine find_range (by have := zeros_le b m; omega) (possR_eq.2 ⟨h.1, h.2, Nat.le_refl _⟩) fun x hx => ?_
    rw [Bool.eq_false_iff]
    intro hp
    have := (possR_eq.1 hp).2.2
    omega
  · rename_i h
    rw [List.find?_eq_none]
    intro r _ hp
    obtain ⟨h1, h2, -⟩ := possR_eq.1 hp
    exact h ⟨h1, h2⟩
theorem needs_poss {b : MBook} {m : Nat} : possB b m = true ↔ ∃ z, needsO b m = some z ∧ (z : Int) ≤ b.repairs := by
  rw [poss_eq, needs_eq]
  constructor
  · rintro ⟨h1, h2, h3⟩
    exact ⟨_, if_pos ⟨h1, h2⟩, h3⟩
  · rintro ⟨z, h, h3⟩
    split at h
    · rename_i h4
      cases h
      exact ⟨h4.1, h4.2, h3⟩
    · cases h
/-- A book of which no less is known: what was seen is not more, repairs are not more. -/
structure Sub (x b : MBook) : Prop where
  makers : x.makers = b.makers
  seen : ∀ k i, (seenN x k).testBit i = true → (seenN b k).testBit i = true
  repairs : x.repairs ≤ b.repairs
  fixed : x.fixed = b.fixed
theorem Sub.kinds {x b : MBook} (h : Sub x b) : nK x = nK b := by unfold nK; rw [h.makers]
theorem Sub.mark {x b : MBook} (h : Sub x b) (m k : Nat) : mkN x m k = mkN b m k := by unfold mkN mkI; rw [h.makers]
theorem Sub.val {x b : MBook} (h : Sub x b) {m c k i : Nat} (hv : (valN x m c k).testBit i = true) : (valN b m c k).testBit i = true := by
  unfold valN at hv ⊢
  split
  · rename_i hc
    rw [if_pos hc] at hv
    exact h.seen k i hv
  · rename_i hc
    rw [if_neg hc] at hv
    unfold ownN at hv ⊢
    rw [Nat.testBit_and, Bool.and_eq_true] at hv ⊢
    exact ⟨by rw [← h.mark]; exact hv.1, h.seen k i hv.2⟩
theorem Sub.truth {x b : MBook} (h : Sub x b) {m c : Nat} (ht : TruthP x m c) : TruthP b m c := by
  refine ⟨fun k hk => ?_, ?_, fun k hk => ?_⟩
  · have := ht.fix k hk
    unfold fixN at this ⊢
    rwa [h.fixed] at this
  · have h1 := ht.cnt
    have h2 := h.repairs
    rw [h.kinds] at h1
    omega
  · obtain ⟨i, hi⟩ := ne_bit.1 (ht.val k (by rw [h.kinds]; exact hk))
    exact ne_bit.2 ⟨i, h.val hi⟩
theorem Sub.truths {x b : MBook} (h : Sub x b) {m c : Nat} (hc : c ∈ truthsL x m) : c ∈ truthsL b m := by
  obtain ⟨h1, h2⟩ := mem_truths.1 hc
  rw [h.kinds] at h1
  exact mem_truths.2 ⟨h1, h.truth h2⟩
theorem Sub.poss {x b : MBook} (h : Sub x b) {m : Nat} (hp : possB x m = true) : possB b m = true := by
  obtain ⟨c, h1, h2⟩ := poss_iff.1 hp
  rw [h.kinds] at h1
  exact poss_iff.2 ⟨c, h1, h.truth h2⟩
theorem Sub.who {x b : MBook} (h : Sub x b) {m : Nat} (hm : m ∈ whoL x) : m ∈ whoL b := by
  unfold whoL at hm ⊢
  rw [List.mem_filter, List.mem_range] at hm ⊢
  rw [h.makers] at hm
  exact ⟨hm.1, h.poss hm.2⟩
theorem Sub.can {x b : MBook} (h : Sub x b) {k i : Nat} (hv : (canN x k).testBit i = true) : (canN b k).testBit i = true := by
  obtain ⟨m, c, hm, hc, hb⟩ := can_bit.1 hv
  rw [h.makers] at hm
  exact can_bit.2 ⟨m, c, hm, h.truths hc, h.val hb⟩
theorem Sub.values {x b : MBook} (h : Sub x b) {k i : Nat} (hv : i ∈ valuesL x k) : i ∈ valuesL b k := by
  unfold valuesL at hv ⊢
  rw [List.mem_filter] at hv ⊢
  exact ⟨hv.1, h.can hv.2⟩
theorem seenL_app (l r : List (Int × Int)) (k : Nat) : seenL (l ++ r) k = r.foldl (fun s m => if m.1 = (k : Int) then s &&& m.2.toNat else s) (seenL l k) := by
  unfold seenL
  rw [List.foldl_append]
theorem seenF_bit (k i : Nat) : ∀ (l : List (Int × Int)) (s : Nat), (l.foldl (fun s m => if m.1 = (k : Int) then s &&& m.2.toNat else s) s).testBit i = true ↔ s.testBit i = true ∧ ∀ m ∈ l, m.1 = (k : Int) → m.2.toNat.testBit i = true
  | [], s => by simp
  | x :: l, s => by
    rw [List.foldl_cons, seenF_bit k i l]
    simp only [List.mem_cons]
    by_cases e : x.1 = (k : Int)
    · rw [if_pos e, Nat.testBit_and, Bool.and_eq_true]
      constructor
      · rintro ⟨⟨h1, h2⟩, h3⟩
        refine ⟨h1, fun m hm he => ?_⟩
        rcases hm with rfl | hm
        · exact h2
        · exact h3 m hm he
      · rintro ⟨h1, h2⟩
        exact ⟨⟨h1, h2 x (.inl rfl) e⟩, fun m hm he => h2 m (.inr hm) he⟩
    · rw [if_neg e]
      constructor
      · rintro ⟨h1, h2⟩
        refine ⟨h1, fun m hm he => ?_⟩
        rcases hm with rfl | hm
        · exact absurd he e
        · exact h2 m hm he
      · rintro ⟨h1, h2⟩
        exact ⟨h1, fun m hm he => h2 m (.inr hm) he⟩
theorem seen_bit {b : MBook} {k i : Nat} : (seenN b k).testBit i = true ↔ i < 5 ∧ ∀ m ∈ b.seen, m.1 = (k : Int) → m.2.toNat.testBit i = true := by
  unfold seenN seenL
  rw [seenF_bit]
  have e : (31 : Nat).testBit i = decide (i < 5) := by
    rw [show (31 : Nat) = 2 ^ 5 - 1 by decide, Nat.testBit_two_pow_sub_one]
  rw [e, decide_eq_true_eq]
def knowB (b : MBook) (k v : Nat) : MBook := { b with seen := b.seen ++ [((k : Int), 2 ^ v)] }
def exactB (b : MBook) (l : List Int) : MBook := { b with seen := (List.range l.length).map fun (k : Nat) => ((k : Int), 2 ^ (l.getD k 0).toNat) }
def unseenB (b : MBook) : MBook := { b with seen := [] }
theorem sub_more (b : MBook) (l : List (Int × Int)) : Sub { b with seen := b.seen ++ l } b := by
  refine ⟨rfl, fun k i h => ?_, Int.le_refl _, rfl⟩
  obtain ⟨h1, h2⟩ := seen_bit.1 h
  exact seen_bit.2 ⟨h1, fun m hm he => h2 m (List.mem_append_left _ hm) he⟩
theorem seen_unseen (b : MBook) (k : Nat) : seenN (unseenB b) k = 31 := rfl
end Go.Proofs.YtefehlekneahmaaGreat.Mk
namespace Go.Proofs.YtefehlekneahmaaGreat.Mk
open Go.RowKit
def exV (l : List Int) (k : Nat) : Nat := (l.getD k 0).toNat
def fiveL (l : List Int) : Prop := ∀ x ∈ l, 0 ≤ x ∧ x ≤ 4
theorem ex_five {l : List Int} (h : fiveL l) (k : Nat) : exV l k < 5 := by
  unfold exV
  rw [List.getD_eq_getElem?_getD]
  rcases Nat.lt_or_ge k l.length with hk | hk
  · rw [List.getElem?_eq_getElem hk]
    have := h _ (List.getElem_mem hk)
    show (l[k]).toNat < 5
    omega
  · rw [List.getElem?_eq_none hk]
    decide
theorem exact_seen {b : MBook} {l : List Int} (h : fiveL l) {k i : Nat} (hk : k < l.length) : (seenN (exactB b l) k).testBit i = true ↔ i = exV l k := by
  rw [seen_bit]
  have e : ∀ v : Nat, ((2 : Int) ^ v).toNat = 2 ^ v := fun v => by
    have : ((2 : Int) ^ v) = ((2 ^ v : Nat) : Int) := by norm_cast
    rw [this, Int.toNat_natCast]
  constructor
  · rintro ⟨-, h2⟩
    have := h2 ((k : Int), 2 ^ exV l k) (List.mem_map.2 ⟨k, List.mem_range.2 hk, rfl⟩) rfl
    rw [e, Nat.testBit_two_pow, decide_eq_true_eq] at this
    exact this.symm
  · rintro rfl
    refine ⟨ex_five h k, fun m hm he => ?_⟩
    obtain ⟨q, hq, rfl⟩ := List.mem_map.1 hm
    have : q = k := by
      have h9 : (q : Int) = (k : Int) := he
      omega
    subst this
    show ((2 : Int) ^ exV l q).toNat.testBit _ = true
    rw [e, Nat.testBit_two_pow_self]
theorem exact_zero {b : MBook} {l : List Int} (h : fiveL l) {m k : Nat} (hk : k < l.length) : zeroB (exactB b l) m k = !(mkN b m k).testBit (exV l k) := by
  unfold zeroB ownN
  show decide (mkN b m k &&& seenN (exactB b l) k = 0) = _
  cases hb : (mkN b m k).testBit (exV l k)
  · refine decide_eq_true (and_zero.2 fun i hi => ?_)
    rw [exact_seen h hk] at hi
    rw [hi.2, hb] at hi
    exact absurd hi.1 (by decide)
  · exact decide_eq_false (and_ne.2 ⟨_, hb, (exact_seen h hk).2 rfl⟩)
theorem exact_right {b : MBook} {l : List Int} (h : fiveL l) (hl : l.length = nK b) : rightB (exactB b l) = true := by
  refine List.all_eq_true.2 fun k hk => ?_
  have hk2 : k < l.length := by rw [hl]; exact List.mem_range.1 hk
  rw [decide_eq_true_eq]
  exact ne_bit.2 ⟨_, (exact_seen h hk2).2 rfl⟩
theorem poss_exact {b : MBook} {l : List Int} (h : fiveL l) (hl : l.length = nK b) {m : Nat} : possB (exactB b l) m = true ↔ (∀ k, k < nK b → (mkN b m k).testBit (exV l k) = false → (fixN b).testBit k = false) ∧ (((List.range (nK b)).filter fun k => !(mkN b m k).testBit (exV l k)).length : Int) ≤ b.repairs := by
  rw [poss_eq]
  have hz : zeros (exactB b l) m = ((List.range (nK b)).filter fun k => !(mkN b m k).testBit (exV l k)).length := by
    unfold zeros
    exact filt_eq fun k hk => exact_zero h (by rw [hl]; exact hk)
  rw [hz]
  show _ ∧ _ ∧ _ ≤ b.repairs ↔ _
  have hf : freeB (exactB b l) m = true ↔ ∀ k, k < nK b → (mkN b m k).testBit (exV l k) = false → (fixN b).testBit k = false := by
    constructor
    · intro hf k hk hb
      exact free_fix (b := exactB b l) hf hk (by rw [exact_zero h (by rw [hl]; exact hk), hb]; rfl)
    · intro H
      refine List.all_eq_true.2 fun k hk => ?_
      have hk := List.mem_range.1 hk
      rw [exact_zero h (by rw [hl]; exact hk)]
      cases hb : (mkN b m k).testBit (exV l k)
      · have := H k hk hb
        show (!(true && (fixN b).testBit k)) = true
        rw [this]
        rfl
      · rfl
  rw [hf]
  constructor
  · rintro ⟨-, h2, h3⟩
    exact ⟨h2, h3⟩
  · rintro ⟨h2, h3⟩
    exact ⟨exact_right h hl, h2, h3⟩
def dK (b : MBook) (o u k : Nat) : Bool := decide (mkN b o k &&& mkN b u k = 0)
def manyD (b : MBook) (o u k : Nat) : Nat := ((List.range k).filter (dK b o u)).length
def bothP (b : MBook) (o u : Nat) : Prop := ∃ c1 ∈ truthsL (unseenB b) o, ∃ c2 ∈ truthsL (unseenB b) u, ∀ k, k < nK b → valN (unseenB b) o c1 k &&& valN (unseenB b) u c2 k ≠ 0
def shareP (b : MBook) (o u : Nat) : Prop := (∀ k, k < nK b → dK b o u k = true → (fixN b).testBit k = false) ∧ (manyD b o u (nK b) : Int) ≤ 2 * b.repairs
theorem filt_or {n : Nat} {p q r : Nat → Bool} (h : ∀ k, k < n → r k = true → p k = true ∨ q k = true) : ((List.range n).filter r).length ≤ ((List.range n).filter p).length + ((List.range n).filter q).length := by
  induction n with
  | zero => simp
  | succ n ih =>
    have ih := ih fun k hk => h k (by omega)
    have hn := h n (by omega)
    simp only [List.range_succ, List.filter_append, List.length_append, List.filter_cons, List.filter_nil]
    cases hr : r n
    · simp
      omega
    · rcases hn hr with hp | hp
      · rw [hp]
        simp
        omega
      · rw [hp]
        simp
        omega
theorem both_share {b : MBook} {o u : Nat} (h : bothP b o u) : shareP b o u := by
  obtain ⟨c1, h1, c2, h2, hv⟩ := h
  obtain ⟨-, t1⟩ := mem_truths.1 h1
  obtain ⟨-, t2⟩ := mem_truths.1 h2
  have key : ∀ k, k < nK b → dK b o u k = true → c1.testBit k = true ∨ c2.testBit k = true := fun k hk hd => by
    cases e1 : c1.testBit k
    · cases e2 : c2.testBit k
      · exfalso
        obtain ⟨i, ha, hb⟩ := and_ne.1 (hv k hk)
        unfold valN at ha hb
        rw [e1, if_neg (by decide)] at ha
        rw [e2, if_neg (by decide)] at hb
        exact and_zero.1 (of_decide_eq_true hd) i ⟨(own_sub ha).2, (own_sub hb).2⟩
      · exact .inr rfl
    · exact .inl rfl
  refine ⟨fun k hk hd => ?_, ?_⟩
  · rcases key k hk hd with h | h
    · exact t1.fix k h
    · exact t2.fix k h
  · have h3 : manyD b o u (nK b) ≤ cntN c1 (nK b) + cntN c2 (nK b) := filt_or key
    have h4 : (cntN c1 (nK b) : Int) ≤ b.repairs := t1.cnt
    have h5 : (cntN c2 (nK b) : Int) ≤ b.repairs := t2.cnt
    omega
theorem exact_both {b : MBook} {o u : Nat} {l : List Int} (h : fiveL l) (hl : l.length = nK b) (h1 : possB (exactB b l) o = true) (h2 : possB (exactB b l) u = true) : bothP b o u := by
  have hs : Sub (exactB b l) (unseenB b) := by
    refine ⟨rfl, fun k i hi => ?_, Int.le_refl _, rfl⟩
    rw [seen_bit] at hi ⊢
    exact ⟨hi.1, fun m hm => by cases hm⟩
  obtain ⟨c1, l1, t1⟩ := poss_iff.1 h1
  obtain ⟨c2, l2, t2⟩ := poss_iff.1 h2
  refine ⟨c1, hs.truths (mem_truths.2 ⟨l1, t1⟩), c2, hs.truths (mem_truths.2 ⟨l2, t2⟩), fun k hk => ?_⟩
  have hk2 : k < l.length := by rw [hl]; exact hk
  obtain ⟨i, hi⟩ := ne_bit.1 (t1.val k hk)
  obtain ⟨j, hj⟩ := ne_bit.1 (t2.val k hk)
  have ei := (exact_seen h hk2).1 (val_seen hi)
  have ej := (exact_seen h hk2).1 (val_seen hj)
  subst ei
  subst ej
  exact and_ne.2 ⟨_, hs.val hi, hs.val hj⟩
/-- The values that two makers share, and of kinds without such as many of the one as repairs can have, and the rest of the other. -/
def pickN (b : MBook) (o u k : Nat) : Nat := if dK b o u k then (if b.repairs ≤ (manyD b o u k : Int) then mkN b u k else mkN b o k) else mkN b o k &&& mkN b u k
theorem many_next (b : MBook) (o u k : Nat) : manyD b o u (k + 1) = manyD b o u k + if dK b o u k then 1 else 0 := by
  unfold manyD
  rw [List.range_succ, List.filter_append, List.length_append]
  simp only [List.filter_cons, List.filter_nil]
  split <;> simp_all
theorem low_cnt (b : MBook) (o u : Nat) (r : Nat) : ∀ n, ((List.range n).filter fun k => dK b o u k && decide (manyD b o u k < r)).length = min r (manyD b o u n)
  | 0 => by simp [manyD]
  | n + 1 => by
    have ih := low_cnt b o u r n
    rw [List.range_succ, List.filter_append, List.length_append, ih, many_next]
    cases hd : dK b o u n
    · simp [hd]
    · by_cases hlt : manyD b o u n < r
      · simp [hd, hlt]
        omega
      · simp [hd, hlt]
        omega
theorem high_cnt (b : MBook) (o u : Nat) (r : Nat) : ∀ n, ((List.range n).filter fun k => dK b o u k && !decide (manyD b o u k < r)).length = manyD b o u n - r
  | 0 => by simp [manyD]
  | n + 1 => by
    have ih := high_cnt b o u r n
    rw [List.range_succ, List.filter_append, List.length_append, ih, many_next]
    cases hd : dK b o u n
    · simp [hd]
    · by_cases hlt : manyD b o u n < r
      · simp [hd, hlt]
        omega
      · simp [hd, hlt]
        omega
theorem share_exact {b : MBook} (hr : 0 ≤ b.repairs) {o u : Nat} (hs : shareP b o u) {l : List Int} (h : fiveL l) (hl : l.length = nK b) (hp : ∀ k, k < nK b → (pickN b o u k).testBit (exV l k) = true) : possB (exactB b l) o = true ∧ possB (exactB b l) u = true := by
  obtain ⟨r, er⟩ : ∃ r : Nat, b.repairs = r := ⟨b.repairs.toNat, by omega⟩
  obtain ⟨hf, hc⟩ := hs
  have k1 : ∀ k, k < nK b → (mkN b o k).testBit (exV l k) = false → (dK b o u k && !decide (manyD b o u k < r)) = true := fun k hk hb => by
    have := hp k hk
    unfold pickN at this
    split at this
    · rename_i hd
      rw [hd]
      split at this
      · rename_i hm
        simp
        omega
      · rw [hb] at this; cases this
    · rw [Nat.testBit_and, hb] at this
      cases this
  have k2 : ∀ k, k < nK b → (mkN b u k).testBit (exV l k) = false → (dK b o u k && decide (manyD b o u k < r)) = true := fun k hk hb => by
    have := hp k hk
    unfold pickN at this
    split at this
    · rename_i hd
      rw [hd]
      split at this
      · rw [hb] at this; cases this
      · rename_i hm
        simp
        omega
    · rw [Nat.testBit_and, hb, Bool.and_false] at this
      cases this
  refine ⟨(poss_exact h hl).2 ⟨fun k hk hb => hf k hk ?_, ?_⟩, (poss_exact h hl).2 ⟨fun k hk hb => hf k hk ?_, ?_⟩⟩
  · have := k1 k hk hb
    rw [Bool.and_eq_true] at this
    exact this.1
  · have h1 : ((List.range (nK b)).filter fun k => !(mkN b o k).testBit (exV l k)).length ≤ _ := filt_le (q := fun k => dK b o u k && !decide (manyD b o u k < r)) fun k hk hb => k1 k hk (by simpa using hb)
    rw [high_cnt] at h1
    omega
  · have := k2 k hk hb
    rw [Bool.and_eq_true] at this
    exact this.1
  · have h1 : ((List.range (nK b)).filter fun k => !(mkN b u k).testBit (exV l k)).length ≤ _ := filt_le (q := fun k => dK b o u k && decide (manyD b o u k < r)) fun k hk hb => k2 k hk (by simpa using hb)
    rw [low_cnt] at h1
    omega
end Go.Proofs.YtefehlekneahmaaGreat.Mk
