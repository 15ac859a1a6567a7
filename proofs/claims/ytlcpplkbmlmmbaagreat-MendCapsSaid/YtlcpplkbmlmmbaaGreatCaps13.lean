/- Mathematics of mend: a book in which something else is remembered of a job. Contracts of mend's statements: a book in which something else is remembered of a job. MendRaise. -/
import Derived.Test.YtlcpplkbmlmmbaaGreatCaps05
import Derived.Test.YtlcpplkbmlmmbaaGreatCaps12
namespace Go.Proofs.YtlcpplkbmlmmbaaGreat.Mk.Me
open Go.RowKit Ls
def capJ (j : Job) (m : Int) : Job := { j with cap := m }
def jobAt (b : EBook) (k : Nat) : Job := b.jobs.getD k ⟨0, 0, 0, 0, 0, 0⟩
def capB (b : EBook) (k : Nat) (m : Int) : EBook := { b with jobs := b.jobs.set k (capJ (jobAt b k) m) }
theorem jobAt_get {b : EBook} {k : Nat} (h : k < b.jobs.length) : b.jobs[k] = jobAt b k := by
  unfold jobAt
  rw [List.getD_eq_getElem?_getD, List.getElem?_eq_getElem h]
  rfl
theorem capB_len (b : EBook) (k : Nat) (m : Int) : (capB b k m).jobs.length = b.jobs.length := List.length_set ..
theorem capB_mem {b : EBook} {k : Nat} {m : Int} {j : Job} (h : j ∈ (capB b k m).jobs) : j ∈ b.jobs ∨ ∃ i ∈ b.jobs, j = capJ i m := by
  unfold capB at h
  by_cases hk : k < b.jobs.length
  · obtain ⟨i, hi, e⟩ := List.mem_iff_getElem.1 h
    rw [List.getElem_set] at e
    split at e
    · exact .inr ⟨b.jobs[k], List.getElem_mem hk, by rw [← e, jobAt_get hk]⟩
    · exact .inl (e ▸ List.getElem_mem _)
  · rw [List.set_eq_of_length_le (by omega)] at h
    exact .inl h
theorem fold_kind : ∀ (l : List Job) (s : Nat), l.foldl (fun s j => s ||| 2 ^ j.kind.toNat) s = (l.map (·.kind)).foldl (fun s k => s ||| 2 ^ k.toNat) s
  | [], _ => rfl
  | j :: l, s => by rw [List.foldl_cons, List.map_cons, List.foldl_cons, fold_kind l]
theorem capB_mends {b : EBook} {k : Nat} {m : Int} (hk : k < b.jobs.length) : mendS (capB b k m) = mendS b := by
  unfold mendS
  rw [fold_kind, fold_kind]
  congr 1
  unfold capB
  rw [List.map_set]
  have : (capJ (jobAt b k) m).kind = (b.jobs.map (·.kind))[k]'(by rw [List.length_map]; exact hk) := by
    rw [List.getElem_map, jobAt_get hk]
    rfl
  rw [this, List.set_getElem_self]
theorem capB_known {b : EBook} {k : Nat} {m : Int} (hk : k < b.jobs.length) : known (capB b k m) = known b := known_same rfl (capB_mends hk)
theorem capB_ok {b : EBook} {k : Nat} {m : Int} (ho : okE b) (hm : -1 ≤ m ∧ m ≤ 999) : okE (capB b k m) := by
  obtain ⟨h1, h2, h3, h4, h5, h6, h7⟩ := ho
  refine ⟨h1, by rw [capB_len]; exact h2, h3, fun j hj => ?_, h5, h6, h7⟩
  rcases capB_mem hj with hj | ⟨i, hi, rfl⟩
  · exact h4 j hj
  · obtain ⟨a1, a2, a3, -⟩ := h4 i hi
    exact ⟨a1, a2, a3, hm⟩
theorem capB_at {b : EBook} {k : Nat} {m : Int} (hk : k < b.jobs.length) : jobAt (capB b k m) k = capJ (jobAt b k) m := by
  unfold jobAt
  rw [List.getD_eq_getElem?_getD]
  unfold capB
  rw [List.getElem?_set_self hk]
  rfl
theorem capB_else {b : EBook} {k i : Nat} {m : Int} (h : k ≠ i) : jobAt (capB b k m) i = jobAt b i := by
  unfold jobAt
  rw [List.getD_eq_getElem?_getD, List.getD_eq_getElem?_getD]
  unfold capB
  rw [List.getElem?_set_ne h]
theorem each_cap (lo : Bool) (b : EBook) (k : Nat) (m : Int) (w : Nat) (t : Nat × Nat) (j : Job) : eachI lo (capB b k m) w t j = eachI lo b w t j := rfl
theorem each_cost (lo : Bool) (b : EBook) (t : Nat × Nat) (j : Job) (m : Int) : eachI lo b 0 t (capJ j m) = eachI lo b 0 t j := rfl
theorem jobs_one (lo : Bool) (b : EBook) (w : Nat) (j : Job) (t : Nat × Nat) : jobsI lo b w [j] t = eachI lo b w t j := by
  unfold jobsI
  rw [List.map_cons, List.map_nil, sum_cons]
  simp [sumI]
theorem capB_cost {b : EBook} {k : Nat} {m : Int} (hk : k < b.jobs.length) (lo : Bool) (j : Job) : outI lo (capB b k m) 0 [capJ j m] = outI lo b 0 [j] := by
  refine outI_eq (capB_known hk).symm fun t ht => ?_
  rw [jobs_one, jobs_one, each_cap, each_cost]
theorem sum_set_le {α : Type} {f : α → Int} : ∀ {l : List α} {k : Nat} {y : α} (h : k < l.length), f l[k] ≤ f y → sumI (l.map f) ≤ sumI ((l.set k y).map f)
  | x :: l, 0, y, _, h => by
    rw [List.set_cons_zero, List.map_cons, List.map_cons, sum_cons, sum_cons]
    rw [List.getElem_cons_zero] at h
    omega
  | x :: l, k + 1, y, hk, h => by
    rw [List.set_cons_succ, List.map_cons, List.map_cons, sum_cons, sum_cons]
    rw [List.getElem_cons_succ] at h
    have := sum_set_le (f := f) (l := l) (k := k) (y := y) (by rw [List.length_cons] at hk; omega) h
    omega
theorem sum_set_ge {α : Type} {f : α → Int} : ∀ {l : List α} {k : Nat} {y : α} (h : k < l.length), f y ≤ f l[k] → sumI ((l.set k y).map f) ≤ sumI (l.map f)
  | x :: l, 0, y, _, h => by
    rw [List.set_cons_zero, List.map_cons, List.map_cons, sum_cons, sum_cons]
    rw [List.getElem_cons_zero] at h
    omega
  | x :: l, k + 1, y, hk, h => by
    rw [List.set_cons_succ, List.map_cons, List.map_cons, sum_cons, sum_cons]
    rw [List.getElem_cons_succ] at h
    have := sum_set_ge (f := f) (l := l) (k := k) (y := y) (by rw [List.length_cons] at hk; omega) h
    omega
def capLe (c m : Int) : Prop := m = -1 ∨ (c ≠ -1 ∧ c ≤ m)
theorem paid_cap {j : Job} {m : Int} (h : capLe j.cap m) (c : Int) : paidI j c ≤ paidI (capJ j m) c := by
  unfold paidI capJ
  rcases h with h | ⟨h1, h2⟩
  · simp only [h, if_true]
    split <;> omega
  · rw [if_neg h1]
    simp only
    split <;> omega
theorem capB_paid {b : EBook} {k : Nat} {m : Int} (hk : k < b.jobs.length) (h : capLe (jobAt b k).cap m) (lo : Bool) : outI lo b 1 b.jobs ≤ outI lo (capB b k m) 1 (capB b k m).jobs := by
  refine outI_le (capB_known hk) fun t _ => ?_
  unfold jobsI
  show _ ≤ sumI ((b.jobs.set k (capJ (jobAt b k) m)).map (eachI lo b 1 t))
  refine sum_set_le hk ?_
  rw [jobAt_get hk]
  exact paid_cap h _
theorem capB_lost {b : EBook} {k : Nat} {m : Int} (hk : k < b.jobs.length) (h : capLe (jobAt b k).cap m) (lo : Bool) : outI lo (capB b k m) 2 (capB b k m).jobs ≤ outI lo b 2 b.jobs := by
  refine outI_le (capB_known hk).symm fun t _ => ?_
  unfold jobsI
  show sumI ((b.jobs.set k (capJ (jobAt b k) m)).map (eachI lo b 2 t)) ≤ _
  refine sum_set_ge hk ?_
  rw [jobAt_get hk]
  have := paid_cap h (costI b t (jobAt b k) (endH lo (jobAt b k)) (endPt lo (jobAt b k)))
  show costI b t (jobAt b k) (endH lo (jobAt b k)) (endPt lo (jobAt b k)) - paidI (capJ (jobAt b k) m) (costI b t (jobAt b k) (endH lo (jobAt b k)) (endPt lo (jobAt b k))) ≤ costI b t (jobAt b k) (endH lo (jobAt b k)) (endPt lo (jobAt b k)) - paidI (jobAt b k) (costI b t (jobAt b k) (endH lo (jobAt b k)) (endPt lo (jobAt b k)))
  omega
theorem capB_two (b : EBook) (k : Nat) (m n : Int) : capB (capB b k m) k n = capB b k n := by
  by_cases hk : k < b.jobs.length
  · unfold capB
    simp only [List.set_set]
    have e := capB_at (m := m) hk
    unfold capB at e
    rw [e]
    rfl
  · unfold capB
    rw [List.set_eq_of_length_le (by omega)]
def bareB (b : EBook) : Nat → EBook
  | 0 => b
  | i + 1 => capB (bareB b i) i (-1)
theorem bareB_len (b : EBook) : ∀ i, (bareB b i).jobs.length = b.jobs.length
  | 0 => rfl
  | i + 1 => by rw [bareB, capB_len, bareB_len b i]
theorem bareB_ok {b : EBook} (ho : okE b) : ∀ i, okE (bareB b i)
  | 0 => ho
  | i + 1 => capB_ok (bareB_ok ho i) (by omega)
theorem bareB_who (b : EBook) : ∀ i, (bareB b i).mb = b.mb
  | 0 => rfl
  | i + 1 => bareB_who b i
theorem bareB_cap {b : EBook} : ∀ (i : Nat), i ≤ b.jobs.length → ∀ k, k < i → (jobAt (bareB b i) k).cap = -1
  | 0, _, k, h => absurd h (by omega)
  | i + 1, hi, k, h => by
    rw [bareB]
    by_cases e : i = k
    · subst e
      rw [capB_at (by rw [bareB_len]; omega)]
      rfl
    · rw [capB_else e]
      exact bareB_cap i (by omega) k (by omega)
end Go.Proofs.YtlcpplkbmlmmbaaGreat.Mk.Me
namespace Go.Proofs.YtlcpplkbmlmmbaaGreat.Mk.Me
open Go.RowKit Ls
def ac33 : AC := (AC.seq (AC.ops [(AOp.mk (some 3) (AK.box 8 (AX.t 0)) none 0 false true), (AOp.mk (some 6) (AK.new (PV.agg [(PV.sl SK.full 0 []), (PV.sl SK.full 0 []), (PV.val (Value.int IntKind.i64 0)), (PV.val (Value.int IntKind.i64 0)), (PV.sl SK.full 0 []), (PV.val (Value.int IntKind.i64 0)), (PV.sl SK.full 0 []), (PV.sl SK.full 0 [])])) none 1 false true)]) (AC.seq (AC.ops [(AOp.mk (some 8) (AK.ld (some 8) (AX.t 3)) none 0 false true), (AOp.mk (some 7) (AK.new (PV.agg [(PV.sl SK.full 0 []), (PV.sl SK.full 0 []), (PV.val (Value.int IntKind.i64 0)), (PV.val (Value.int IntKind.i64 0)), (PV.sl SK.full 0 []), (PV.val (Value.int IntKind.i64 0)), (PV.sl SK.full 0 []), (PV.sl SK.full 0 [])])) none 1 false true), (AOp.mk none (AK.st 8 (AX.t 7) (AX.t 8)) none 2 false true)]) (AC.seq (AC.ops [(AOp.mk (some 9) (AK.bslice false 51 6 0 [(PV.val (Value.int IntKind.i64 0)), (PV.val (Value.int IntKind.i64 0)), (PV.val (Value.int IntKind.i64 0)), (PV.val (Value.int IntKind.i64 0)), (PV.val (Value.int IntKind.i64 0)), (PV.val (Value.int IntKind.i64 0))] []) none 0 false true), (AOp.mk (some 10) (AK.fadr 4 (AX.t 3)) none 1 false true), (AOp.mk (some 11) (AK.ld none (AX.t 10)) none 2 false true), (AOp.mk (some 12) (AK.app true 51 6 48 [(PV.val (Value.int IntKind.i64 0)), (PV.val (Value.int IntKind.i64 0)), (PV.val (Value.int IntKind.i64 0)), (PV.val (Value.int IntKind.i64 0)), (PV.val (Value.int IntKind.i64 0)), (PV.val (Value.int IntKind.i64 0))] (AX.t 9) (AX.t 11)) none 3 false true), (AOp.mk (some 13) (AK.fadr 4 (AX.t 7)) none 4 false true), (AOp.mk none (AK.st 1 (AX.t 13) (AX.t 12)) none 5 false true)]) (AC.seq (AC.ops [(AOp.mk (some 14) (AK.fadr 4 (AX.t 7)) none 0 false true), (AOp.mk (some 15) (AK.ld none (AX.t 14)) none 1 false true), (AOp.mk (some 16) (AK.mv (AX.t 1)) none 2 false true), (AOp.mk (some 17) (AK.mv (AX.t 2)) none 3 false true), (AOp.mk (some 18) (AK.iadrS 6 (AX.t 15) (AX.t 16)) none 4 false true), (AOp.mk (some 19) (AK.fadr 5 (AX.t 18)) none 5 false true), (AOp.mk none (AK.st 1 (AX.t 19) (AX.t 17)) none 6 false true)]) (AC.seq (AC.ops [(AOp.mk (some 20) (AK.ld (some 8) (AX.t 7)) none 0 false true), (AOp.mk none (AK.st 8 (AX.t 6) (AX.t 20)) none 1 false true)]) AC.ret)))))
theorem ac33_ok : cCode Tryz.prog (fun d => d == 12) Tryz.f33.ntmps (Tryz.f33.body.getD .skip) = some ac33 := by kernel_rfl
abbrev shJ (κ : KS) : KS := { κ with c := .sh }
theorem iadr_sli {id n k : Nat} (h : k < n) : iadrS' 6 (.sli id n 6) (.p (pi (k : Int))) = some (.loc id (k * 6)) := by
  simp [iadrS', h]
set_option maxHeartbeats 4000000 in
theorem capped_four (κ : KS) (b : EBook) (j : Job) (js : List Job) (hj : b.jobs = j :: js) (h4 : js.length ≤ 3) (k : Nat) (hk : k < b.jobs.length) (m : Int) : Sem1 33 [.agg (ebC κ b), pi k, pi m] (.agg (ebC (shJ κ) (capB b k m))) := by
  obtain ⟨mb, jobs, rate, extra, coins⟩ := b
  simp only at hj hk
  subst hj
  have hsh : shapeN Tryz.prog 29 = some (some 8) := by kernel_rfl
  match js, h4, k, hk with
  | [], _, 0, _ =>
    have ia := iadr_sli (id := 3) (n := 1) (k := 0) (by decide)
    refine semC_of_exec' mixed Tryz.func33 (by kernel_rfl) (by kernel_rfl) ac33_ok 3 rfl (by decide) [(.cell 6 29)] (by kernel_rfl) ?_
    intro hr C hC hI
    unfold ac33
    simp only [go_sem, Nat.reduceBEq, Nat.reduceAdd, Nat.reduceLeDiff, putCells]
    refine ⟨fun h => by simp at h, fun _ => ?_⟩
    simp only [go_sem, Nat.reduceBEq, Nat.reduceAdd, Nat.reduceMul, ia, putCells, List.flatten_cons, List.flatten_nil, List.cons_append, List.nil_append, List.append_nil]
    refine ⟨_, _, _, _, by simp only [resA, hsh]; rfl, rfl, PVle.refl _, rfl⟩
  | [a], _, 0, _ =>
    have ia := iadr_sli (id := 3) (n := 2) (k := 0) (by decide)
    refine semC_of_exec' mixed Tryz.func33 (by kernel_rfl) (by kernel_rfl) ac33_ok 3 rfl (by decide) [(.cell 6 29)] (by kernel_rfl) ?_
    intro hr C hC hI
    unfold ac33
    simp only [go_sem, Nat.reduceBEq, Nat.reduceAdd, Nat.reduceLeDiff, putCells]
    refine ⟨fun h => by simp at h, fun _ => ?_⟩
    simp only [go_sem, Nat.reduceBEq, Nat.reduceAdd, Nat.reduceLeDiff, Nat.reduceMul, ia, putCells, List.flatten_cons, List.flatten_nil, List.cons_append, List.nil_append, List.append_nil]
    refine ⟨_, _, _, _, by simp only [resA, hsh]; rfl, rfl, PVle.refl _, rfl⟩
  | [a], _, 1, _ =>
    have ia := iadr_sli (id := 3) (n := 2) (k := 1) (by decide)
    refine semC_of_exec' mixed Tryz.func33 (by kernel_rfl) (by kernel_rfl) ac33_ok 3 rfl (by decide) [(.cell 6 29)] (by kernel_rfl) ?_
    intro hr C hC hI
    unfold ac33
    simp only [go_sem, Nat.reduceBEq, Nat.reduceAdd, Nat.reduceLeDiff, putCells]
    refine ⟨fun h => by simp at h, fun _ => ?_⟩
    simp only [go_sem, Nat.reduceBEq, Nat.reduceAdd, Nat.reduceMul, ia, putCells, List.flatten_cons, List.flatten_nil, List.cons_append, List.nil_append, List.append_nil]
    refine ⟨_, _, _, _, by simp only [resA, hsh]; rfl, rfl, PVle.refl _, rfl⟩
  | [a, c], _, 0, _ =>
    have ia := iadr_sli (id := 3) (n := 3) (k := 0) (by decide)
    refine semC_of_exec' mixed Tryz.func33 (by kernel_rfl) (by kernel_rfl) ac33_ok 3 rfl (by decide) [(.cell 6 29)] (by kernel_rfl) ?_
    intro hr C hC hI
    unfold ac33
    simp only [go_sem, Nat.reduceBEq, Nat.reduceAdd, Nat.reduceLeDiff, putCells]
    refine ⟨fun h => by simp at h, fun _ => ?_⟩
    simp only [go_sem, Nat.reduceBEq, Nat.reduceAdd, Nat.reduceLeDiff, Nat.reduceMul, ia, putCells, List.flatten_cons, List.flatten_nil, List.cons_append, List.nil_append, List.append_nil]
    refine ⟨_, _, _, _, by simp only [resA, hsh]; rfl, rfl, PVle.refl _, rfl⟩
  | [a, c], _, 1, _ =>
    have ia := iadr_sli (id := 3) (n := 3) (k := 1) (by decide)
    refine semC_of_exec' mixed Tryz.func33 (by kernel_rfl) (by kernel_rfl) ac33_ok 3 rfl (by decide) [(.cell 6 29)] (by kernel_rfl) ?_
    intro hr C hC hI
    unfold ac33
    simp only [go_sem, Nat.reduceBEq, Nat.reduceAdd, Nat.reduceLeDiff, putCells]
    refine ⟨fun h => by simp at h, fun _ => ?_⟩
    simp only [go_sem, Nat.reduceBEq, Nat.reduceAdd, Nat.reduceLeDiff, Nat.reduceMul, ia, putCells, List.flatten_cons, List.flatten_nil, List.cons_append, List.nil_append, List.append_nil]
    refine ⟨_, _, _, _, by simp only [resA, hsh]; rfl, rfl, PVle.refl _, rfl⟩
  | [a, c], _, 2, _ =>
    have ia := iadr_sli (id := 3) (n := 3) (k := 2) (by decide)
    refine semC_of_exec' mixed Tryz.func33 (by kernel_rfl) (by kernel_rfl) ac33_ok 3 rfl (by decide) [(.cell 6 29)] (by kernel_rfl) ?_
    intro hr C hC hI
    unfold ac33
    simp only [go_sem, Nat.reduceBEq, Nat.reduceAdd, Nat.reduceLeDiff, putCells]
    refine ⟨fun h => by simp at h, fun _ => ?_⟩
    simp only [go_sem, Nat.reduceBEq, Nat.reduceAdd, Nat.reduceMul, ia, putCells, List.flatten_cons, List.flatten_nil, List.cons_append, List.nil_append, List.append_nil]
    refine ⟨_, _, _, _, by simp only [resA, hsh]; rfl, rfl, PVle.refl _, rfl⟩
  | [a, c, d], _, 0, _ =>
    have ia := iadr_sli (id := 3) (n := 4) (k := 0) (by decide)
    refine semC_of_exec' mixed Tryz.func33 (by kernel_rfl) (by kernel_rfl) ac33_ok 3 rfl (by decide) [(.cell 6 29)] (by kernel_rfl) ?_
    intro hr C hC hI
    unfold ac33
    simp only [go_sem, Nat.reduceBEq, Nat.reduceAdd, Nat.reduceLeDiff, putCells]
    refine ⟨fun h => by simp at h, fun _ => ?_⟩
    simp only [go_sem, Nat.reduceBEq, Nat.reduceAdd, Nat.reduceLeDiff, Nat.reduceMul, ia, putCells, List.flatten_cons, List.flatten_nil, List.cons_append, List.nil_append, List.append_nil]
    refine ⟨_, _, _, _, by simp only [resA, hsh]; rfl, rfl, PVle.refl _, rfl⟩
  | [a, c, d], _, 1, _ =>
    have ia := iadr_sli (id := 3) (n := 4) (k := 1) (by decide)
    refine semC_of_exec' mixed Tryz.func33 (by kernel_rfl) (by kernel_rfl) ac33_ok 3 rfl (by decide) [(.cell 6 29)] (by kernel_rfl) ?_
    intro hr C hC hI
    unfold ac33
    simp only [go_sem, Nat.reduceBEq, Nat.reduceAdd, Nat.reduceLeDiff, putCells]
    refine ⟨fun h => by simp at h, fun _ => ?_⟩
    simp only [go_sem, Nat.reduceBEq, Nat.reduceAdd, Nat.reduceLeDiff, Nat.reduceMul, ia, putCells, List.flatten_cons, List.flatten_nil, List.cons_append, List.nil_append, List.append_nil]
    refine ⟨_, _, _, _, by simp only [resA, hsh]; rfl, rfl, PVle.refl _, rfl⟩
  | [a, c, d], _, 2, _ =>
    have ia := iadr_sli (id := 3) (n := 4) (k := 2) (by decide)
    refine semC_of_exec' mixed Tryz.func33 (by kernel_rfl) (by kernel_rfl) ac33_ok 3 rfl (by decide) [(.cell 6 29)] (by kernel_rfl) ?_
    intro hr C hC hI
    unfold ac33
    simp only [go_sem, Nat.reduceBEq, Nat.reduceAdd, Nat.reduceLeDiff, putCells]
    refine ⟨fun h => by simp at h, fun _ => ?_⟩
    simp only [go_sem, Nat.reduceBEq, Nat.reduceAdd, Nat.reduceLeDiff, Nat.reduceMul, ia, putCells, List.flatten_cons, List.flatten_nil, List.cons_append, List.nil_append, List.append_nil]
    refine ⟨_, _, _, _, by simp only [resA, hsh]; rfl, rfl, PVle.refl _, rfl⟩
  | [a, c, d], _, 3, _ =>
    have ia := iadr_sli (id := 3) (n := 4) (k := 3) (by decide)
    refine semC_of_exec' mixed Tryz.func33 (by kernel_rfl) (by kernel_rfl) ac33_ok 3 rfl (by decide) [(.cell 6 29)] (by kernel_rfl) ?_
    intro hr C hC hI
    unfold ac33
    simp only [go_sem, Nat.reduceBEq, Nat.reduceAdd, Nat.reduceLeDiff, putCells]
    refine ⟨fun h => by simp at h, fun _ => ?_⟩
    simp only [go_sem, Nat.reduceBEq, Nat.reduceAdd, Nat.reduceMul, ia, putCells, List.flatten_cons, List.flatten_nil, List.cons_append, List.nil_append, List.append_nil]
    refine ⟨_, _, _, _, by simp only [resA, hsh]; rfl, rfl, PVle.refl _, rfl⟩
theorem capped_sem (κ : KS) {b : EBook} {k : Nat} (hk : k < b.jobs.length) (h4 : b.jobs.length ≤ 4) (m : Int) : Sem1 33 [.agg (ebC κ b), pi k, pi m] (.agg (ebC (shJ κ) (capB b k m))) := by
  obtain ⟨j, js, e⟩ : ∃ j js, b.jobs = j :: js := List.exists_cons_of_length_pos (by omega)
  exact capped_four κ b j js e (by rw [e, List.length_cons] at h4; omega) k hk m
end Go.Proofs.YtlcpplkbmlmmbaaGreat.Mk.Me
namespace Go.Proofs.YtlcpplkbmlmmbaaGreat.Mk.Me
open Go.RowKit Ls
def ac7 : AC := (AC.seq (AC.ops [(AOp.mk (some 2) (AK.box 8 (AX.t 0)) none 0 false true), (AOp.mk (some 4) (AK.mv (AX.c (PV.val (Value.bool false)))) none 1 false true)]) (AC.seq (AC.seq (AC.ops [(AOp.mk (some 12) (AK.ld (some 8) (AX.t 2)) none 0 false true), (AOp.mk (some 13) (AK.call 31 [(AX.t 12)]) none 1 false true), (AOp.mk (some 14) (AK.un UnOp.not (AX.t 13)) none 2 false true)]) (AC.cond (AX.t 14) (AC.seq (AC.ops [(AOp.mk (some 15) (AK.call 21 []) none 0 false true), (AOp.mk (some 4) (AK.mv (AX.t 15)) none 1 false true)]) AC.ret) AC.skip)) (AC.seq (AC.ops [(AOp.mk (some 16) (AK.mv (AX.t 1)) none 0 false true), (AOp.mk (some 17) (AK.fadr 4 (AX.t 2)) none 1 false true), (AOp.mk (some 18) (AK.ld none (AX.t 17)) none 2 false true), (AOp.mk (some 19) (AK.len (AX.t 18)) none 3 false true), (AOp.mk (some 20) (AK.call 32 [(AX.t 16), (AX.t 19)]) none 4 false true), (AOp.mk (some 5) (AK.mv (AX.t 20)) none 5 false true)]) (AC.seq (AC.ops [(AOp.mk (some 22) (AK.ld (some 8) (AX.t 2)) none 0 false true), (AOp.mk (some 23) (AK.mv (AX.t 5)) none 1 false true), (AOp.mk (some 24) (AK.call 19 [(AX.t 22), (AX.t 23)]) none 2 false true), (AOp.mk (some 21) (AK.mv (AX.t 24)) none 3 false true), (AOp.mk (some 25) (AK.ext (AX.t 21) 0) none 4 false true), (AOp.mk (some 26) (AK.ext (AX.t 21) 1) none 5 false true), (AOp.mk (some 6) (AK.mv (AX.t 25)) none 6 false true), (AOp.mk (some 7) (AK.mv (AX.t 26)) none 7 false true)]) (AC.seq (AC.seq (AC.ops [(AOp.mk (some 27) (AK.mv (AX.t 7)) none 0 false true), (AOp.mk (some 28) (AK.bin false BinOp.neq (AX.t 27) (AX.c (PV.val (Value.int IntKind.i64 0)))) none 1 false true)]) (AC.cond (AX.t 28) (AC.seq (AC.ops [(AOp.mk (some 29) (AK.mv (AX.t 7)) none 0 false true), (AOp.mk (some 30) (AK.bin false BinOp.eql (AX.t 29) (AX.c (PV.val (Value.int IntKind.i64 82)))) none 1 false true), (AOp.mk (some 31) (AK.mv (AX.t 30)) none 2 false true), (AOp.mk (some 32) (AK.mv (AX.t 6)) (some (31, true)) 3 false true), (AOp.mk (some 33) (AK.bin false BinOp.eql (AX.t 32) (AX.c (PV.val (Value.int IntKind.i64 0)))) (some (31, true)) 4 false true), (AOp.mk (some 34) (AK.pick (AX.t 31) (AX.t 33) (AX.c (PV.val (Value.bool false)))) none 5 false true), (AOp.mk (some 35) (AK.mv (AX.t 34)) none 6 false true), (AOp.mk (some 36) (AK.call 21 []) (some (35, true)) 7 false true), (AOp.mk (some 37) (AK.pick (AX.t 35) (AX.t 36) (AX.c (PV.val (Value.bool false)))) none 8 false true), (AOp.mk (some 4) (AK.mv (AX.t 37)) none 9 false true)]) AC.ret) AC.skip)) (AC.seq (AC.ops [(AOp.mk (some 38) (AK.fadr 4 (AX.t 2)) none 0 false true), (AOp.mk (some 39) (AK.ld none (AX.t 38)) none 1 false true), (AOp.mk (some 40) (AK.mv (AX.t 5)) none 2 false true), (AOp.mk (some 41) (AK.iadrS 6 (AX.t 39) (AX.t 40)) none 3 false true), (AOp.mk (some 42) (AK.fadr 5 (AX.t 41)) none 4 false true), (AOp.mk (some 43) (AK.ld none (AX.t 42)) none 5 false true), (AOp.mk (some 8) (AK.mv (AX.t 43)) none 6 false true)]) (AC.seq (AC.seq (AC.ops [(AOp.mk (some 44) (AK.mv (AX.t 8)) none 0 false true), (AOp.mk (some 45) (AK.bin false BinOp.eql (AX.t 44) (AX.c (PV.val (Value.int IntKind.i64 (-1))))) none 1 false true), (AOp.mk (some 46) (AK.mv (AX.t 45)) none 2 false true), (AOp.mk (some 47) (AK.mv (AX.t 6)) (some (46, false)) 3 false true), (AOp.mk (some 48) (AK.bin false BinOp.eql (AX.t 47) (AX.c (PV.val (Value.int IntKind.i64 0)))) (some (46, false)) 4 false true), (AOp.mk (some 49) (AK.pick (AX.t 46) (AX.c (PV.val (Value.bool true))) (AX.t 48)) none 5 false true)]) (AC.cond (AX.t 49) (AC.seq (AC.ops [(AOp.mk (some 50) (AK.mv (AX.t 6)) none 0 false true), (AOp.mk (some 51) (AK.bin false BinOp.eql (AX.t 50) (AX.c (PV.val (Value.int IntKind.i64 0)))) none 1 false true), (AOp.mk (some 52) (AK.mv (AX.t 51)) none 2 false true), (AOp.mk (some 53) (AK.call 21 []) (some (52, true)) 3 false true), (AOp.mk (some 54) (AK.pick (AX.t 52) (AX.t 53) (AX.c (PV.val (Value.bool false)))) none 4 false true), (AOp.mk (some 4) (AK.mv (AX.t 54)) none 5 false true)]) AC.ret) AC.skip)) (AC.seq (AC.seq (AC.ops [(AOp.mk (some 55) (AK.mv (AX.t 6)) none 0 false true), (AOp.mk (some 56) (AK.bin false BinOp.lss (AX.t 55) (AX.c (PV.val (Value.int IntKind.i64 0)))) none 1 false true), (AOp.mk (some 57) (AK.mv (AX.t 56)) none 2 false true), (AOp.mk (some 58) (AK.mv (AX.t 6)) (some (57, false)) 3 false true), (AOp.mk (some 59) (AK.bin false BinOp.gtr (AX.t 58) (AX.c (PV.val (Value.int IntKind.i64 1000)))) (some (57, false)) 4 false true), (AOp.mk (some 60) (AK.pick (AX.t 57) (AX.c (PV.val (Value.bool true))) (AX.t 59)) none 5 false true)]) (AC.cond (AX.t 60) (AC.seq (AC.ops [(AOp.mk (some 4) (AK.mv (AX.c (PV.val (Value.bool false)))) none 0 false true)]) AC.ret) AC.skip)) (AC.seq (AC.seq (AC.ops [(AOp.mk (some 9) (AK.mv (AX.c (PV.val (Value.int IntKind.i64 0)))) none 0 false true)]) (AC.block 0 (AC.loop (AC.seq (AC.seq (AC.ops [(AOp.mk (some 61) (AK.mv (AX.t 9)) none 0 false true), (AOp.mk (some 62) (AK.bin false BinOp.lss (AX.t 61) (AX.c (PV.val (Value.int IntKind.i64 2)))) none 1 false true)]) (AC.cond (AX.t 62) AC.skip (AC.exit 0))) (AC.seq (AC.block 1 (AC.seq (AC.seq (AC.ops [(AOp.mk (some 65) (AK.mv (AX.t 8)) none 0 false true), (AOp.mk (some 66) (AK.mv (AX.t 6)) none 1 false true), (AOp.mk (some 67) (AK.bin false BinOp.add (AX.t 65) (AX.t 66)) none 2 false true), (AOp.mk (some 68) (AK.mv (AX.t 9)) none 3 false true), (AOp.mk (some 69) (AK.bin false BinOp.sub (AX.t 67) (AX.t 68)) none 4 false true), (AOp.mk (some 70) (AK.bin false BinOp.gtr (AX.t 69) (AX.c (PV.val (Value.int IntKind.i64 999)))) none 5 false true)]) (AC.cond (AX.t 70) (AC.exit 1) AC.skip)) (AC.seq (AC.ops [(AOp.mk (some 72) (AK.ld (some 8) (AX.t 2)) none 0 false true), (AOp.mk (some 73) (AK.mv (AX.t 5)) none 1 false true), (AOp.mk (some 74) (AK.mv (AX.t 8)) none 2 false true), (AOp.mk (some 75) (AK.mv (AX.t 6)) none 3 false true), (AOp.mk (some 76) (AK.bin false BinOp.add (AX.t 74) (AX.t 75)) none 4 false true), (AOp.mk (some 77) (AK.mv (AX.t 9)) none 5 false true), (AOp.mk (some 78) (AK.bin false BinOp.sub (AX.t 76) (AX.t 77)) none 6 false true), (AOp.mk (some 79) (AK.call 33 [(AX.t 72), (AX.t 73), (AX.t 78)]) none 7 false true), (AOp.mk (some 80) (AK.mv (AX.t 5)) none 8 false true), (AOp.mk (some 81) (AK.call 19 [(AX.t 79), (AX.t 80)]) none 9 false true), (AOp.mk (some 71) (AK.mv (AX.t 81)) none 10 false true), (AOp.mk (some 82) (AK.ext (AX.t 71) 0) none 11 false true), (AOp.mk (some 83) (AK.ext (AX.t 71) 1) none 12 false true), (AOp.mk (some 10) (AK.mv (AX.t 82)) none 13 false true), (AOp.mk (some 11) (AK.mv (AX.t 83)) none 14 false true)]) (AC.seq (AC.ops [(AOp.mk (some 84) (AK.mv (AX.t 11)) none 0 false true), (AOp.mk (some 85) (AK.bin false BinOp.neq (AX.t 84) (AX.c (PV.val (Value.int IntKind.i64 0)))) none 1 false true), (AOp.mk (some 86) (AK.mv (AX.t 85)) none 2 false true), (AOp.mk (some 87) (AK.mv (AX.t 10)) (some (86, false)) 3 false true), (AOp.mk (some 88) (AK.mv (AX.t 9)) (some (86, false)) 4 false true), (AOp.mk (some 89) (AK.bin false BinOp.neq (AX.t 87) (AX.t 88)) (some (86, false)) 5 false true), (AOp.mk (some 90) (AK.pick (AX.t 86) (AX.c (PV.val (Value.bool true))) (AX.t 89)) none 6 false true)]) (AC.cond (AX.t 90) (AC.seq (AC.ops [(AOp.mk (some 4) (AK.mv (AX.c (PV.val (Value.bool false)))) none 0 false true)]) AC.ret) AC.skip))))) (AC.ops [(AOp.mk (some 63) (AK.mv (AX.t 9)) none 0 false true), (AOp.mk (some 64) (AK.bin false BinOp.add (AX.t 63) (AX.c (PV.val (Value.int IntKind.i64 1)))) none 1 false true), (AOp.mk (some 9) (AK.mv (AX.t 64)) none 2 false true)])))))) (AC.seq (AC.ops [(AOp.mk (some 91) (AK.call 21 []) none 0 false true), (AOp.mk (some 4) (AK.mv (AX.t 91)) none 1 false true)]) AC.ret))))))))))
theorem capB_errF {b : EBook} {k : Nat} {m : Int} (ho : okE b) (hw : whoL b.mb ≠ []) (hm : -1 ≤ m ∧ m ≤ 999) : errF (capB b k m) true = 0 := errF_of (capB_ok ho hm) hw
end Go.Proofs.YtlcpplkbmlmmbaaGreat.Mk.Me
