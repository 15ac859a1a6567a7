/- MendRaise returns true for every book and number; no condition. MendRaise. Contracts of mend's statements: a book in which something else is remembered of a job. Mathematics of mend: a book in which something else is remembered of a job. -/
import Derived.Test.YtlcpplkbmlmmbaaGreatRai05
import Derived.Test.YtlcpplkbmlmmbaaGreatRai12
import Derived.Test.YtlcpplkbmlmmbaaGreatGa17
namespace Go.Proofs.YtlcpplkbmlmmbaaGreat.Mk.Me
open Go.RowKit Ls
def capJ (j : Job) (m : Int) : Job := { j with cap := m }
def jobAt (b : EBook) (k : Nat) : Job := b.jobs.getD k ⟨0, 0, 0, 0, 0, 0⟩
def capB (b : EBook) (k : Nat) (m : Int) : EBook := { b with jobs := b.jobs.set k (capJ (jobAt b k) m) }
theorem jobAt_get {b : EBook} {k : Nat} (h : k < b.jobs.length) : b.jobs[k] = jobAt b k := by
  unfold jobAt
  rw [List.getD_eq_getElem?_getD, List.getElem?_eq_getElem h]
  rfl
theorem capB_len (b : EBook) (k : Nat) (m : Int) : (capB b k m).jobs.length = b.jobs.length := List.length_set ..
theorem capB_mem {b : EBook} {k : Nat} {m : Int} {j : Job} (h : j ∈ (capB b k m).jobs) : j ∈ b.jobs ∨ ∃ i ∈ b.jobs, j = capJ i m := by
  unfold capB at h
  by_cases hk : k < b.jobs.length
  · obtain ⟨i, hi, e⟩ := List.mem_iff_getElem.1 h
    rw [List.getElem_set] at e
    split at e
    · exact .inr ⟨b.jobs[k], List.getElem_mem hk, by rw [← e, jobAt_get hk]⟩
    · exact .inl (e ▸ List.getElem_mem _)
  · rw [List.set_eq_of_length_le (by omega)] at h
    exact .inl h
theorem fold_kind : ∀ (l : List Job) (s : Nat), l.foldl (fun s j => s ||| 2 ^ j.kind.toNat) s = (l.map (·.kind)).foldl (fun s k => s ||| 2 ^ k.toNat) s
  | [], _ => rfl
  | j :: l, s => by rw [List.foldl_cons, List.map_cons, List.foldl_cons, fold_kind l]
theorem capB_mends {b : EBook} {k : Nat} {m : Int} (hk : k < b.jobs.length) : mendS (capB b k m) = mendS b := by
  unfold mendS
  rw [fold_kind, fold_kind]
  congr 1
  unfold capB
  rw [List.map_set]
  have : (capJ (jobAt b k) m).kind = (b.jobs.map (·.kind))[k]'(by rw [List.length_map]; exact hk) := by
    rw [List.getElem_map, jobAt_get hk]
    rfl
  rw [this, List.set_getElem_self]
theorem capB_known {b : EBook} {k : Nat} {m : Int} (hk : k < b.jobs.length) : known (capB b k m) = known b := known_same rfl (capB_mends hk)
theorem capB_ok {b : EBook} {k : Nat} {m : Int} (ho : okE b) (hm : -1 ≤ m ∧ m ≤ 999) : okE (capB b k m) := by
  obtain ⟨h1, h2, h3, h4, h5, h6, h7⟩ := ho
  refine ⟨h1, by rw [capB_len]; exact h2, h3, fun j hj => ?_, h5, h6, h7⟩
  rcases capB_mem hj with hj | ⟨i, hi, rfl⟩
  · exact h4 j hj
  · obtain ⟨a1, a2, a3, -⟩ := h4 i hi
    exact ⟨a1, a2, a3, hm⟩
theorem capB_at {b : EBook} {k : Nat} {m : Int} (hk : k < b.jobs.length) : jobAt (capB b k m) k = capJ (jobAt b k) m := by
  unfold jobAt
  rw [List.getD_eq_getElem?_getD]
  unfold capB
  rw [List.getElem?_set_self hk]
  rfl
theorem each_cap (lo : Bool) (b : EBook) (k : Nat) (m : Int) (w : Nat) (t : Nat × Nat) (j : Job) : eachI lo (capB b k m) w t j = eachI lo b w t j := rfl
/-- Whatever is remembered, a job costs the same. -/
theorem each_cost (lo : Bool) (b : EBook) (t : Nat × Nat) (j : Job) (m : Int) : eachI lo b 0 t (capJ j m) = eachI lo b 0 t j := rfl
theorem jobs_one (lo : Bool) (b : EBook) (w : Nat) (j : Job) (t : Nat × Nat) : jobsI lo b w [j] t = eachI lo b w t j := by
  unfold jobsI
  rw [List.map_cons, List.map_nil, sum_cons]
  simp [sumI]
theorem capB_cost {b : EBook} {k : Nat} {m : Int} (hk : k < b.jobs.length) (lo : Bool) (j : Job) : outI lo (capB b k m) 0 [capJ j m] = outI lo b 0 [j] := by
  refine outI_eq (capB_known hk).symm fun t ht => ?_
  rw [jobs_one, jobs_one, each_cap, each_cost]
theorem capB_loss {b : EBook} {k : Nat} {m : Int} (hk : k < b.jobs.length) (hne : known b ≠ []) (hm : 0 ≤ m) : lossI (capB b k m) (jobAt (capB b k m) k) = max 0 (outI false b 0 [jobAt b k] - m) := by
  rw [capB_at hk]
  have h := loss_eq (b := capB b k m) (j := capJ (jobAt b k) m) (by rw [capB_known hk]; exact hne) hm
  rw [capB_cost hk] at h
  exact h
/-- One may remember more. -/
def capLe (c m : Int) : Prop := m = -1 ∨ (c ≠ -1 ∧ c ≤ m)
/-- All jobs below an end without what is remembered. -/
def bareB (b : EBook) : Nat → EBook
  | 0 => b
  | i + 1 => capB (bareB b i) i (-1)
end Go.Proofs.YtlcpplkbmlmmbaaGreat.Mk.Me
namespace Go.Proofs.YtlcpplkbmlmmbaaGreat.Mk.Me
open Go.RowKit Ls
def ac33 : AC := (AC.seq (AC.ops [(AOp.mk (some 3) (AK.box 8 (AX.t 0)) none 0 false true), (AOp.mk (some 6) (AK.new (PV.agg [(PV.sl SK.full 0 []), (PV.sl SK.full 0 []), (PV.val (Value.int IntKind.i64 0)), (PV.val (Value.int IntKind.i64 0)), (PV.sl SK.full 0 []), (PV.val (Value.int IntKind.i64 0)), (PV.sl SK.full 0 []), (PV.sl SK.full 0 [])])) none 1 false true)]) (AC.seq (AC.ops [(AOp.mk (some 8) (AK.ld (some 8) (AX.t 3)) none 0 false true), (AOp.mk (some 7) (AK.new (PV.agg [(PV.sl SK.full 0 []), (PV.sl SK.full 0 []), (PV.val (Value.int IntKind.i64 0)), (PV.val (Value.int IntKind.i64 0)), (PV.sl SK.full 0 []), (PV.val (Value.int IntKind.i64 0)), (PV.sl SK.full 0 []), (PV.sl SK.full 0 [])])) none 1 false true), (AOp.mk none (AK.st 8 (AX.t 7) (AX.t 8)) none 2 false true)]) (AC.seq (AC.ops [(AOp.mk (some 9) (AK.bslice false 51 6 0 [(PV.val (Value.int IntKind.i64 0)), (PV.val (Value.int IntKind.i64 0)), (PV.val (Value.int IntKind.i64 0)), (PV.val (Value.int IntKind.i64 0)), (PV.val (Value.int IntKind.i64 0)), (PV.val (Value.int IntKind.i64 0))] []) none 0 false true), (AOp.mk (some 10) (AK.fadr 4 (AX.t 3)) none 1 false true), (AOp.mk (some 11) (AK.ld none (AX.t 10)) none 2 false true), (AOp.mk (some 12) (AK.app true 51 6 48 [(PV.val (Value.int IntKind.i64 0)), (PV.val (Value.int IntKind.i64 0)), (PV.val (Value.int IntKind.i64 0)), (PV.val (Value.int IntKind.i64 0)), (PV.val (Value.int IntKind.i64 0)), (PV.val (Value.int IntKind.i64 0))] (AX.t 9) (AX.t 11)) none 3 false true), (AOp.mk (some 13) (AK.fadr 4 (AX.t 7)) none 4 false true), (AOp.mk none (AK.st 1 (AX.t 13) (AX.t 12)) none 5 false true)]) (AC.seq (AC.ops [(AOp.mk (some 14) (AK.fadr 4 (AX.t 7)) none 0 false true), (AOp.mk (some 15) (AK.ld none (AX.t 14)) none 1 false true), (AOp.mk (some 16) (AK.mv (AX.t 1)) none 2 false true), (AOp.mk (some 17) (AK.mv (AX.t 2)) none 3 false true), (AOp.mk (some 18) (AK.iadrS 6 (AX.t 15) (AX.t 16)) none 4 false true), (AOp.mk (some 19) (AK.fadr 5 (AX.t 18)) none 5 false true), (AOp.mk none (AK.st 1 (AX.t 19) (AX.t 17)) none 6 false true)]) (AC.seq (AC.ops [(AOp.mk (some 20) (AK.ld (some 8) (AX.t 7)) none 0 false true), (AOp.mk none (AK.st 8 (AX.t 6) (AX.t 20)) none 1 false true)]) AC.ret)))))
theorem ac33_ok : cCode Tryz.prog (fun d => d == 12) Tryz.f33.ntmps (Tryz.f33.body.getD .skip) = some ac33 := by kernel_rfl
abbrev shJ (κ : KS) : KS := { κ with c := .sh }
theorem iadr_sli {id n k : Nat} (h : k < n) : iadrS' 6 (.sli id n 6) (.p (pi (k : Int))) = some (.loc id (k * 6)) := by
  simp [iadrS', h]
set_option maxHeartbeats 4000000 in
theorem capped_four (κ : KS) (b : EBook) (j : Job) (js : List Job) (hj : b.jobs = j :: js) (h4 : js.length ≤ 3) (k : Nat) (hk : k < b.jobs.length) (m : Int) : Sem1 33 [.agg (ebC κ b), pi k, pi m] (.agg (ebC (shJ κ) (capB b k m))) := by
  obtain ⟨mb, jobs, rate, extra, coins⟩ := b
  simp only at hj hk
  subst hj
  have hsh : shapeN Tryz.prog 29 = some (some 8) := by kernel_rfl
  match js, h4, k, hk with
  | [], _, 0, _ =>
    have ia := iadr_sli (id := 3) (n := 1) (k := 0) (by decide)
    refine semC_of_exec' mixed Tryz.func33 (by kernel_rfl) (by kernel_rfl) ac33_ok 3 rfl (by decide) [(.cell 6 29)] (by kernel_rfl) ?_
    intro hr C hC hI
    unfold ac33
    simp only [go_sem, Nat.reduceBEq, Nat.reduceAdd, Nat.reduceLeDiff, putCells]
    refine ⟨fun h => by simp at h, fun _ => ?_⟩
    simp only [go_sem, Nat.reduceBEq, Nat.reduceAdd, Nat.reduceMul, ia, putCells, List.flatten_cons, List.flatten_nil, List.cons_append, List.nil_append, List.append_nil]
    refine ⟨_, _, _, _, by simp only [resA, hsh]; rfl, rfl, PVle.refl _, rfl⟩
  | [a], _, 0, _ =>
    have ia := iadr_sli (id := 3) (n := 2) (k := 0) (by decide)
    refine semC_of_exec' mixed Tryz.func33 (by kernel_rfl) (by kernel_rfl) ac33_ok 3 rfl (by decide) [(.cell 6 29)] (by kernel_rfl) ?_
    intro hr C hC hI
    unfold ac33
    simp only [go_sem, Nat.reduceBEq, Nat.reduceAdd, Nat.reduceLeDiff, putCells]
    refine ⟨fun h => by simp at h, fun _ => ?_⟩
    simp only [go_sem, Nat.reduceBEq, Nat.reduceAdd, Nat.reduceLeDiff, Nat.reduceMul, ia, putCells, List.flatten_cons, List.flatten_nil, List.cons_append, List.nil_append, List.append_nil]
    refine ⟨_, _, _, _, by simp only [resA, hsh]; rfl, rfl, PVle.refl _, rfl⟩
  | [a], _, 1, _ =>
    have ia := iadr_sli (id := 3) (n := 2) (k := 1) (by decide)
    refine semC_of_exec' mixed Tryz.func33 (by kernel_rfl) (by kernel_rfl) ac33_ok 3 rfl (by decide) [(.cell 6 29)] (by kernel_rfl) ?_
    intro hr C hC hI
    unfold ac33
    simp only [go_sem, Nat.reduceBEq, Nat.reduceAdd, Nat.reduceLeDiff, putCells]
    refine ⟨fun h => by simp at h, fun _ => ?_⟩
    simp only [go_sem, Nat.reduceBEq, Nat.reduceAdd, Nat.reduceMul, ia, putCells, List.flatten_cons, List.flatten_nil, List.cons_append, List.nil_append, List.append_nil]
    refine ⟨_, _, _, _, by simp only [resA, hsh]; rfl, rfl, PVle.refl _, rfl⟩
  | [a, c], _, 0, _ =>
    have ia := iadr_sli (id := 3) (n := 3) (k := 0) (by decide)
    refine semC_of_exec' mixed Tryz.func33 (by kernel_rfl) (by kernel_rfl) ac33_ok 3 rfl (by decide) [(.cell 6 29)] (by kernel_rfl) ?_
    intro hr C hC hI
    unfold ac33
    simp only [go_sem, Nat.reduceBEq, Nat.reduceAdd, Nat.reduceLeDiff, putCells]
    refine ⟨fun h => by simp at h, fun _ => ?_⟩
    simp only [go_sem, Nat.reduceBEq, Nat.reduceAdd, Nat.reduceLeDiff, Nat.reduceMul, ia, putCells, List.flatten_cons, List.flatten_nil, List.cons_append, List.nil_append, List.append_nil]
    refine ⟨_, _, _, _, by simp only [resA, hsh]; rfl, rfl, PVle.refl _, rfl⟩
  | [a, c], _, 1, _ =>
    have ia := iadr_sli (id := 3) (n := 3) (k := 1) (by decide)
    refine semC_of_exec' mixed Tryz.func33 (by kernel_rfl) (by kernel_rfl) ac33_ok 3 rfl (by decide) [(.cell 6 29)] (by kernel_rfl) ?_
    intro hr C hC hI
    unfold ac33
    simp only [go_sem, Nat.reduceBEq, Nat.reduceAdd, Nat.reduceLeDiff, putCells]
    refine ⟨fun h => by simp at h, fun _ => ?_⟩
    simp only [go_sem, Nat.reduceBEq, Nat.reduceAdd, Nat.reduceLeDiff, Nat.reduceMul, ia, putCells, List.flatten_cons, List.flatten_nil, List.cons_append, List.nil_append, List.append_nil]
    refine ⟨_, _, _, _, by simp only [resA, hsh]; rfl, rfl, PVle.refl _, rfl⟩
  | [a, c], _, 2, _ =>
    have ia := iadr_sli (id := 3) (n := 3) (k := 2) (by decide)
    refine semC_of_exec' mixed Tryz.func33 (by kernel_rfl) (by kernel_rfl) ac33_ok 3 rfl (by decide) [(.cell 6 29)] (by kernel_rfl) ?_
    intro hr C hC hI
    unfold ac33
    simp only [go_sem, Nat.reduceBEq, Nat.reduceAdd, Nat.reduceLeDiff, putCells]
    refine ⟨fun h => by simp at h, fun _ => ?_⟩
    simp only [go_sem, Nat.reduceBEq, Nat.reduceAdd, Nat.reduceMul, ia, putCells, List.flatten_cons, List.flatten_nil, List.cons_append, List.nil_append, List.append_nil]
    refine ⟨_, _, _, _, by simp only [resA, hsh]; rfl, rfl, PVle.refl _, rfl⟩
  | [a, c, d], _, 0, _ =>
    have ia := iadr_sli (id := 3) (n := 4) (k := 0) (by decide)
    refine semC_of_exec' mixed Tryz.func33 (by kernel_rfl) (by kernel_rfl) ac33_ok 3 rfl (by decide) [(.cell 6 29)] (by kernel_rfl) ?_
    intro hr C hC hI
    unfold ac33
    simp only [go_sem, Nat.reduceBEq, Nat.reduceAdd, Nat.reduceLeDiff, putCells]
    refine ⟨fun h => by simp at h, fun _ => ?_⟩
    simp only [go_sem, Nat.reduceBEq, Nat.reduceAdd, Nat.reduceLeDiff, Nat.reduceMul, ia, putCells, List.flatten_cons, List.flatten_nil, List.cons_append, List.nil_append, List.append_nil]
    refine ⟨_, _, _, _, by simp only [resA, hsh]; rfl, rfl, PVle.refl _, rfl⟩
  | [a, c, d], _, 1, _ =>
    have ia := iadr_sli (id := 3) (n := 4) (k := 1) (by decide)
    refine semC_of_exec' mixed Tryz.func33 (by kernel_rfl) (by kernel_rfl) ac33_ok 3 rfl (by decide) [(.cell 6 29)] (by kernel_rfl) ?_
    intro hr C hC hI
    unfold ac33
    simp only [go_sem, Nat.reduceBEq, Nat.reduceAdd, Nat.reduceLeDiff, putCells]
    refine ⟨fun h => by simp at h, fun _ => ?_⟩
    simp only [go_sem, Nat.reduceBEq, Nat.reduceAdd, Nat.reduceLeDiff, Nat.reduceMul, ia, putCells, List.flatten_cons, List.flatten_nil, List.cons_append, List.nil_append, List.append_nil]
    refine ⟨_, _, _, _, by simp only [resA, hsh]; rfl, rfl, PVle.refl _, rfl⟩
  | [a, c, d], _, 2, _ =>
    have ia := iadr_sli (id := 3) (n := 4) (k := 2) (by decide)
    refine semC_of_exec' mixed Tryz.func33 (by kernel_rfl) (by kernel_rfl) ac33_ok 3 rfl (by decide) [(.cell 6 29)] (by kernel_rfl) ?_
    intro hr C hC hI
    unfold ac33
    simp only [go_sem, Nat.reduceBEq, Nat.reduceAdd, Nat.reduceLeDiff, putCells]
    refine ⟨fun h => by simp at h, fun _ => ?_⟩
    simp only [go_sem, Nat.reduceBEq, Nat.reduceAdd, Nat.reduceLeDiff, Nat.reduceMul, ia, putCells, List.flatten_cons, List.flatten_nil, List.cons_append, List.nil_append, List.append_nil]
    refine ⟨_, _, _, _, by simp only [resA, hsh]; rfl, rfl, PVle.refl _, rfl⟩
  | [a, c, d], _, 3, _ =>
    have ia := iadr_sli (id := 3) (n := 4) (k := 3) (by decide)
    refine semC_of_exec' mixed Tryz.func33 (by kernel_rfl) (by kernel_rfl) ac33_ok 3 rfl (by decide) [(.cell 6 29)] (by kernel_rfl) ?_
    intro hr C hC hI
    unfold ac33
    simp only [go_sem, Nat.reduceBEq, Nat.reduceAdd, Nat.reduceLeDiff, putCells]
    refine ⟨fun h => by simp at h, fun _ => ?_⟩
    simp only [go_sem, Nat.reduceBEq, Nat.reduceAdd, Nat.reduceMul, ia, putCells, List.flatten_cons, List.flatten_nil, List.cons_append, List.nil_append, List.append_nil]
    refine ⟨_, _, _, _, by simp only [resA, hsh]; rfl, rfl, PVle.refl _, rfl⟩
theorem capped_sem (κ : KS) {b : EBook} {k : Nat} (hk : k < b.jobs.length) (h4 : b.jobs.length ≤ 4) (m : Int) : Sem1 33 [.agg (ebC κ b), pi k, pi m] (.agg (ebC (shJ κ) (capB b k m))) := by
  obtain ⟨j, js, e⟩ : ∃ j js, b.jobs = j :: js := List.exists_cons_of_length_pos (by omega)
  exact capped_four κ b j js e (by rw [e, List.length_cons] at h4; omega) k hk m
end Go.Proofs.YtlcpplkbmlmmbaaGreat.Mk.Me
namespace Go.Proofs.YtlcpplkbmlmmbaaGreat.Mk.Me
open Go.RowKit Ls
def ac7 : AC := (AC.seq (AC.ops [(AOp.mk (some 2) (AK.box 8 (AX.t 0)) none 0 false true), (AOp.mk (some 4) (AK.mv (AX.c (PV.val (Value.bool false)))) none 1 false true)]) (AC.seq (AC.seq (AC.ops [(AOp.mk (some 12) (AK.ld (some 8) (AX.t 2)) none 0 false true), (AOp.mk (some 13) (AK.call 31 [(AX.t 12)]) none 1 false true), (AOp.mk (some 14) (AK.un UnOp.not (AX.t 13)) none 2 false true)]) (AC.cond (AX.t 14) (AC.seq (AC.ops [(AOp.mk (some 15) (AK.call 21 []) none 0 false true), (AOp.mk (some 4) (AK.mv (AX.t 15)) none 1 false true)]) AC.ret) AC.skip)) (AC.seq (AC.ops [(AOp.mk (some 16) (AK.mv (AX.t 1)) none 0 false true), (AOp.mk (some 17) (AK.fadr 4 (AX.t 2)) none 1 false true), (AOp.mk (some 18) (AK.ld none (AX.t 17)) none 2 false true), (AOp.mk (some 19) (AK.len (AX.t 18)) none 3 false true), (AOp.mk (some 20) (AK.call 32 [(AX.t 16), (AX.t 19)]) none 4 false true), (AOp.mk (some 5) (AK.mv (AX.t 20)) none 5 false true)]) (AC.seq (AC.ops [(AOp.mk (some 22) (AK.ld (some 8) (AX.t 2)) none 0 false true), (AOp.mk (some 23) (AK.mv (AX.t 5)) none 1 false true), (AOp.mk (some 24) (AK.call 19 [(AX.t 22), (AX.t 23)]) none 2 false true), (AOp.mk (some 21) (AK.mv (AX.t 24)) none 3 false true), (AOp.mk (some 25) (AK.ext (AX.t 21) 0) none 4 false true), (AOp.mk (some 26) (AK.ext (AX.t 21) 1) none 5 false true), (AOp.mk (some 6) (AK.mv (AX.t 25)) none 6 false true), (AOp.mk (some 7) (AK.mv (AX.t 26)) none 7 false true)]) (AC.seq (AC.seq (AC.ops [(AOp.mk (some 27) (AK.mv (AX.t 7)) none 0 false true), (AOp.mk (some 28) (AK.bin false BinOp.neq (AX.t 27) (AX.c (PV.val (Value.int IntKind.i64 0)))) none 1 false true)]) (AC.cond (AX.t 28) (AC.seq (AC.ops [(AOp.mk (some 29) (AK.mv (AX.t 7)) none 0 false true), (AOp.mk (some 30) (AK.bin false BinOp.eql (AX.t 29) (AX.c (PV.val (Value.int IntKind.i64 82)))) none 1 false true), (AOp.mk (some 31) (AK.mv (AX.t 30)) none 2 false true), (AOp.mk (some 32) (AK.mv (AX.t 6)) (some (31, true)) 3 false true), (AOp.mk (some 33) (AK.bin false BinOp.eql (AX.t 32) (AX.c (PV.val (Value.int IntKind.i64 0)))) (some (31, true)) 4 false true), (AOp.mk (some 34) (AK.pick (AX.t 31) (AX.t 33) (AX.c (PV.val (Value.bool false)))) none 5 false true), (AOp.mk (some 35) (AK.mv (AX.t 34)) none 6 false true), (AOp.mk (some 36) (AK.call 21 []) (some (35, true)) 7 false true), (AOp.mk (some 37) (AK.pick (AX.t 35) (AX.t 36) (AX.c (PV.val (Value.bool false)))) none 8 false true), (AOp.mk (some 4) (AK.mv (AX.t 37)) none 9 false true)]) AC.ret) AC.skip)) (AC.seq (AC.ops [(AOp.mk (some 38) (AK.fadr 4 (AX.t 2)) none 0 false true), (AOp.mk (some 39) (AK.ld none (AX.t 38)) none 1 false true), (AOp.mk (some 40) (AK.mv (AX.t 5)) none 2 false true), (AOp.mk (some 41) (AK.iadrS 6 (AX.t 39) (AX.t 40)) none 3 false true), (AOp.mk (some 42) (AK.fadr 5 (AX.t 41)) none 4 false true), (AOp.mk (some 43) (AK.ld none (AX.t 42)) none 5 false true), (AOp.mk (some 8) (AK.mv (AX.t 43)) none 6 false true)]) (AC.seq (AC.seq (AC.ops [(AOp.mk (some 44) (AK.mv (AX.t 8)) none 0 false true), (AOp.mk (some 45) (AK.bin false BinOp.eql (AX.t 44) (AX.c (PV.val (Value.int IntKind.i64 (-1))))) none 1 false true), (AOp.mk (some 46) (AK.mv (AX.t 45)) none 2 false true), (AOp.mk (some 47) (AK.mv (AX.t 6)) (some (46, false)) 3 false true), (AOp.mk (some 48) (AK.bin false BinOp.eql (AX.t 47) (AX.c (PV.val (Value.int IntKind.i64 0)))) (some (46, false)) 4 false true), (AOp.mk (some 49) (AK.pick (AX.t 46) (AX.c (PV.val (Value.bool true))) (AX.t 48)) none 5 false true)]) (AC.cond (AX.t 49) (AC.seq (AC.ops [(AOp.mk (some 50) (AK.mv (AX.t 6)) none 0 false true), (AOp.mk (some 51) (AK.bin false BinOp.eql (AX.t 50) (AX.c (PV.val (Value.int IntKind.i64 0)))) none 1 false true), (AOp.mk (some 52) (AK.mv (AX.t 51)) none 2 false true), (AOp.mk (some 53) (AK.call 21 []) (some (52, true)) 3 false true), (AOp.mk (some 54) (AK.pick (AX.t 52) (AX.t 53) (AX.c (PV.val (Value.bool false)))) none 4 false true), (AOp.mk (some 4) (AK.mv (AX.t 54)) none 5 false true)]) AC.ret) AC.skip)) (AC.seq (AC.seq (AC.ops [(AOp.mk (some 55) (AK.mv (AX.t 6)) none 0 false true), (AOp.mk (some 56) (AK.bin false BinOp.lss (AX.t 55) (AX.c (PV.val (Value.int IntKind.i64 0)))) none 1 false true), (AOp.mk (some 57) (AK.mv (AX.t 56)) none 2 false true), (AOp.mk (some 58) (AK.mv (AX.t 6)) (some (57, false)) 3 false true), (AOp.mk (some 59) (AK.bin false BinOp.gtr (AX.t 58) (AX.c (PV.val (Value.int IntKind.i64 1000)))) (some (57, false)) 4 false true), (AOp.mk (some 60) (AK.pick (AX.t 57) (AX.c (PV.val (Value.bool true))) (AX.t 59)) none 5 false true)]) (AC.cond (AX.t 60) (AC.seq (AC.ops [(AOp.mk (some 4) (AK.mv (AX.c (PV.val (Value.bool false)))) none 0 false true)]) AC.ret) AC.skip)) (AC.seq (AC.seq (AC.ops [(AOp.mk (some 9) (AK.mv (AX.c (PV.val (Value.int IntKind.i64 0)))) none 0 false true)]) (AC.block 0 (AC.loop (AC.seq (AC.seq (AC.ops [(AOp.mk (some 61) (AK.mv (AX.t 9)) none 0 false true), (AOp.mk (some 62) (AK.bin false BinOp.lss (AX.t 61) (AX.c (PV.val (Value.int IntKind.i64 2)))) none 1 false true)]) (AC.cond (AX.t 62) AC.skip (AC.exit 0))) (AC.seq (AC.block 1 (AC.seq (AC.seq (AC.ops [(AOp.mk (some 65) (AK.mv (AX.t 8)) none 0 false true), (AOp.mk (some 66) (AK.mv (AX.t 6)) none 1 false true), (AOp.mk (some 67) (AK.bin false BinOp.add (AX.t 65) (AX.t 66)) none 2 false true), (AOp.mk (some 68) (AK.mv (AX.t 9)) none 3 false true), (AOp.mk (some 69) (AK.bin false BinOp.sub (AX.t 67) (AX.t 68)) none 4 false true), (AOp.mk (some 70) (AK.bin false BinOp.gtr (AX.t 69) (AX.c (PV.val (Value.int IntKind.i64 999)))) none 5 false true)]) (AC.cond (AX.t 70) (AC.exit 1) AC.skip)) (AC.seq (AC.ops [(AOp.mk (some 72) (AK.ld (some 8) (AX.t 2)) none 0 false true), (AOp.mk (some 73) (AK.mv (AX.t 5)) none 1 false true), (AOp.mk (some 74) (AK.mv (AX.t 8)) none 2 false true), (AOp.mk (some 75) (AK.mv (AX.t 6)) none 3 false true), (AOp.mk (some 76) (AK.bin false BinOp.add (AX.t 74) (AX.t 75)) none 4 false true), (AOp.mk (some 77) (AK.mv (AX.t 9)) none 5 false true), (AOp.mk (some 78) (AK.bin false BinOp.sub (AX.t 76) (AX.t 77)) none 6 false true), (AOp.mk (some 79) (AK.call 33 [(AX.t 72), (AX.t 73), (AX.t 78)]) none 7 false true), (AOp.mk (some 80) (AK.mv (AX.t 5)) none 8 false true), (AOp.mk (some 81) (AK.call 19 [(AX.t 79), (AX.t 80)]) none 9 false true), (AOp.mk (some 71) (AK.mv (AX.t 81)) none 10 false true), (AOp.mk (some 82) (AK.ext (AX.t 71) 0) none 11 false true), (AOp.mk (some 83) (AK.ext (AX.t 71) 1) none 12 false true), (AOp.mk (some 10) (AK.mv (AX.t 82)) none 13 false true), (AOp.mk (some 11) (AK.mv (AX.t 83)) none 14 false true)]) (AC.seq (AC.ops [(AOp.mk (some 84) (AK.mv (AX.t 11)) none 0 false true), (AOp.mk (some 85) (AK.bin false BinOp.neq (AX.t 84) (AX.c (PV.val (Value.int IntKind.i64 0)))) none 1 false true), (AOp.mk (some 86) (AK.mv (AX.t 85)) none 2 false true), (AOp.mk (some 87) (AK.mv (AX.t 10)) (some (86, false)) 3 false true), (AOp.mk (some 88) (AK.mv (AX.t 9)) (some (86, false)) 4 false true), (AOp.mk (some 89) (AK.bin false BinOp.neq (AX.t 87) (AX.t 88)) (some (86, false)) 5 false true), (AOp.mk (some 90) (AK.pick (AX.t 86) (AX.c (PV.val (Value.bool true))) (AX.t 89)) none 6 false true)]) (AC.cond (AX.t 90) (AC.seq (AC.ops [(AOp.mk (some 4) (AK.mv (AX.c (PV.val (Value.bool false)))) none 0 false true)]) AC.ret) AC.skip))))) (AC.ops [(AOp.mk (some 63) (AK.mv (AX.t 9)) none 0 false true), (AOp.mk (some 64) (AK.bin false BinOp.add (AX.t 63) (AX.c (PV.val (Value.int IntKind.i64 1)))) none 1 false true), (AOp.mk (some 9) (AK.mv (AX.t 64)) none 2 false true)])))))) (AC.seq (AC.ops [(AOp.mk (some 91) (AK.call 21 []) none 0 false true), (AOp.mk (some 4) (AK.mv (AX.t 91)) none 1 false true)]) AC.ret))))))))))
theorem ac7_ok : cCode Tryz.prog (fun _ => false) Tryz.f7.ntmps (Tryz.f7.body.getD .skip) = some ac7 := by kernel_rfl
theorem jobAt_N (b : EBook) (k : Nat) : jobAt b k = jobN b k := rfl
theorem capB_errF {b : EBook} {k : Nat} {m : Int} (ho : okE b) (hw : whoL b.mb ≠ []) (hm : -1 ≤ m ∧ m ≤ 999) : errF (capB b k m) true = 0 := errF_of (capB_ok ho hm) hw
set_option maxHeartbeats 2000000 in
theorem Raise_law (κ : KS) (b : EBook) (n : Int) : Sem1 7 [.agg (ebC κ b), pi n] (pb true) := by
  by_cases ho : okE b
  rotate_left
  · refine semC_of_exec' mixed Tryz.func7 (by kernel_rfl) (by kernel_rfl) ac7_ok 2 rfl (by decide) [(.tmp 4)] (by kernel_rfl) ?_
    intro hr C hC hI
    unfold ac7
    simp only [go_sem, Nat.reduceBEq, Nat.reduceAdd]
    refine call_pure2 hC (sound_sem κ b) rfl (PVleL_refl _) ?_
    rintro r rfl
    simp only [go_sem, Nat.reduceBEq, decide_eq_false ho, Int.reduceNeg]
    refine call_pure2 hC (exs_sem) rfl (PVleL_refl _) ?_
    rintro r rfl
    simp only [go_sem, Nat.reduceBEq]
    exact retQ_one rfl rfl
  obtain ⟨k, ek, hk⟩ := rnd_job ho n
  by_cases hw : whoL b.mb = []
  · have hF := errF_no ho hw
    refine semC_of_exec' mixed Tryz.func7 (by kernel_rfl) (by kernel_rfl) ac7_ok 2 rfl (by decide) [(.tmp 4)] (by kernel_rfl) ?_
    intro hr C hC hI
    unfold ac7
    simp only [go_sem, Nat.reduceBEq, Nat.reduceAdd]
    refine call_pure2 hC (sound_sem κ b) rfl (PVleL_refl _) ?_
    rintro r rfl
    simp only [go_sem, Nat.reduceBEq, decide_eq_true ho, List.length_map, Int.reduceNeg]
    refine call_pure2 hC (Round_sem n (b.jobs.length : Int)) rfl (PVleL_refl _) ?_
    rintro r rfl
    simp only [go_sem, Nat.reduceBEq, Nat.reduceAdd, ek]
    refine call_pure2 hC (Raise_no κ hF hk) rfl (PVleL_refl _) ?_
    rintro r rfl
    simp only [go_sem, Nat.reduceBEq, decide_true, not_false_eq_true, Int.reduceEq, Int.reduceNeg]
    refine call_pure2 hC (exs_sem) rfl (PVleL_refl _) ?_
    rintro r rfl
    simp only [go_sem, Nat.reduceBEq]
    exact retQ_one rfl rfl
  have hF := errF_of ho hw
  have hne := known_ne hw
  have hnn := loss_nn ho hne hk
  have hcap := (ho.2.2.2.1 _ (jobN_mem hk)).2.2.2
  have h4 := ho.2.1.2
  have ei := iadr_map (f := jobC) (kd := κ.c) (sz := 6) hk
  rw [jobN_get hk] at ei
  have hOk := Raise_ok κ hF hk
  have hl0 := loss_none (b := b) hne (j := jobN b k)
  have hl1 := loss_eq (b := b) hne (j := jobN b k)
  obtain ⟨c, hc⟩ : ∃ c, (jobN b k).cap = c := ⟨_, rfl⟩
  obtain ⟨O, hO⟩ : ∃ O, outI false b 0 [jobN b k] = O := ⟨_, rfl⟩
  obtain ⟨R, hR⟩ : ∃ R, lossI b (jobN b k) = R := ⟨_, rfl⟩
  rw [hR, hc] at hl0 hl1
  rw [hO] at hl1
  rw [hc] at hcap
  rw [hR] at hOk hnn
  by_cases h1 : c = -1
  · subst h1
    rw [hl0 rfl] at hOk
    refine semC_of_exec' mixed Tryz.func7 (by kernel_rfl) (by kernel_rfl) ac7_ok 2 rfl (by decide) [(.tmp 4)] (by kernel_rfl) ?_
    intro hr C hC hI
    unfold ac7
    simp only [go_sem, Nat.reduceBEq, Nat.reduceAdd]
    refine call_pure2 hC (sound_sem κ b) rfl (PVleL_refl _) ?_
    rintro r rfl
    simp only [go_sem, Nat.reduceBEq, decide_eq_true ho, List.length_map, Int.reduceNeg]
    refine call_pure2 hC (Round_sem n (b.jobs.length : Int)) rfl (PVleL_refl _) ?_
    rintro r rfl
    simp only [go_sem, Nat.reduceBEq, Nat.reduceAdd, ek]
    refine call_pure2 hC (hOk) rfl (PVleL_refl _) ?_
    rintro r rfl
    simp only [go_sem, Nat.reduceBEq, ei, hc, decide_true, decide_false, not_true_eq_false, Int.reduceNeg]
    refine call_pure2 hC (exs_sem) rfl (PVleL_refl _) ?_
    rintro r rfl
    simp only [go_sem, Nat.reduceBEq]
    exact retQ_one rfl rfl
  have hRe := hl1 (by omega)
  by_cases h2 : R = 0
  · rw [h2] at hOk
    refine semC_of_exec' mixed Tryz.func7 (by kernel_rfl) (by kernel_rfl) ac7_ok 2 rfl (by decide) [(.tmp 4)] (by kernel_rfl) ?_
    intro hr C hC hI
    unfold ac7
    simp only [go_sem, Nat.reduceBEq, Nat.reduceAdd]
    refine call_pure2 hC (sound_sem κ b) rfl (PVleL_refl _) ?_
    rintro r rfl
    simp only [go_sem, Nat.reduceBEq, decide_eq_true ho, List.length_map, Int.reduceNeg]
    refine call_pure2 hC (Round_sem n (b.jobs.length : Int)) rfl (PVleL_refl _) ?_
    rintro r rfl
    simp only [go_sem, Nat.reduceBEq, Nat.reduceAdd, ek]
    refine call_pure2 hC (hOk) rfl (PVleL_refl _) ?_
    rintro r rfl
    simp only [go_sem, Nat.reduceBEq, ei, hc, eq_false h1, decide_true, decide_false, not_true_eq_false, Int.reduceNeg]
    refine call_pure2 hC (exs_sem) rfl (PVleL_refl _) ?_
    rintro r rfl
    simp only [go_sem, Nat.reduceBEq]
    exact retQ_one rfl rfl
  have h3 : ¬ R < 0 := by omega
  have h5 : ¬ 1000 < R := by omega
  have hk2 : k < (capB b k c).jobs.length := by rw [capB_len]; exact hk
  refine semC_of_exec' mixed Tryz.func7 (by kernel_rfl) (by kernel_rfl) ac7_ok 2 rfl (by decide) [(.tmp 4)] (by kernel_rfl) ?_
  intro hr C hC hI
  unfold ac7
  simp only [go_sem, Nat.reduceBEq, Nat.reduceAdd]
  refine call_pure2 hC (sound_sem κ b) rfl (PVleL_refl _) ?_
  rintro r rfl
  simp only [go_sem, Nat.reduceBEq, decide_eq_true ho, List.length_map, Int.reduceNeg]
  refine call_pure2 hC (Round_sem n (b.jobs.length : Int)) rfl (PVleL_refl _) ?_
  rintro r rfl
  simp only [go_sem, Nat.reduceBEq, Nat.reduceAdd, ek]
  refine call_pure2 hC (hOk) rfl (PVleL_refl _) ?_
  rintro r rfl
  simp only [go_sem, Nat.reduceBEq, ei, hc, eq_false h1, eq_false h2, eq_false h3, eq_false h5, decide_false, not_true_eq_false, Int.reduceNeg]
  refine loop_k 2 (fun _ => True) [2, 5, 6, 8] (fun i => [(9, .p (pi i))]) trivial rfl ⟨rfl, by simp, by simp⟩ (by simp [wkT, look, AV.lo]) ?_
  rintro i ⟨hi, -⟩
  simp only [go_sem, Nat.reduceBEq, Nat.reduceAdd]
  refine ⟨fun d5 => ?_, fun d5 => ?_⟩
  · have hi2 : i < 2 := by omega
    have hR2 : R = O - c := by omega
    obtain ⟨m, hm⟩ : ∃ m, c + R - (i : Int) = m := ⟨_, rfl⟩
    have w1 : IntKind.i64.wrap (c + R) = c + R := wrap_id (by omega) (by omega)
    have w2 : IntKind.i64.wrap (c + R - (i : Int)) = m := by rw [hm]; exact wrap_id (by omega) (by omega)
    simp only [go_sem, w1, w2, wrap_succ (k := i) (by omega)]
    refine ⟨fun g1 => ?_, fun g1 => ?_⟩
    · refine ⟨⟨i + 1, hi2, trivial⟩, by simp only; omega, ?_⟩
      simp [Wk, wkT, wkL, look, AV.lo, AV.lo.loL, ABlk.toZ]
    · have hk3 : k < (capB b k m).jobs.length := by rw [capB_len]; exact hk
      have hm2 : -1 ≤ m ∧ m ≤ 999 := by omega
      have hOk2 := Raise_ok (shJ κ) (capB_errF (k := k) ho hw hm2) hk3
      have hL := capB_loss hk hne (show 0 ≤ m by omega)
      rw [jobAt_N, jobAt_N, hO] at hL
      rw [hL, show max 0 (O - m) = (i : Int) by omega] at hOk2
      refine call_pure2 hC (capped_sem κ hk h4 m) rfl (PVleL_refl _) ?_
      rintro r rfl
      simp only [go_sem, Nat.reduceBEq]
      refine call_pure2 hC (hOk2) rfl (PVleL_refl _) ?_
      rintro r rfl
      simp only [go_sem, Nat.reduceBEq, wrap_succ (k := i) (by omega), decide_false, not_true_eq_false]
      refine ⟨⟨i + 1, hi2, trivial⟩, by simp only; omega, ?_⟩
      simp [Wk, wkT, wkL, look, AV.lo, AV.lo.loL, ABlk.toZ]
  · refine call_pure2 hC (exs_sem) rfl (PVleL_refl _) ?_
    rintro r rfl
    simp only [go_sem, Nat.reduceBEq]
    exact retQ_one rfl rfl
set_option maxRecDepth 100000 in
theorem Raise_row {l0 l1 : List PV} (T0 : Ty Tryz.prog 10 29 l0) (T1 : Ty Tryz.prog 10 3 l1) : SemC Tryz.prog 7 [argPV Tryz.prog 29 l0, argPV Tryz.prog 3 l1] (fun r => r = pb true) := by
  obtain ⟨b, rfl⟩ := ty_ebook T0
  obtain ⟨n, rfl⟩ := tyInt uInt T1
  rw [argStruct Tryz.underlying29, argInt uInt]
  exact Raise_law shK b n
end Go.Proofs.YtlcpplkbmlmmbaaGreat.Mk.Me
namespace Go.Proofs.YtlcpplkbmlmmbaaGreat
open Go.Proofs.YtlcpplkbmlmmbaaGreat Go.ChangeShapes Go.WideShapes Go.ChangeAt Go.RowKit Go.Deep

set_option maxRecDepth 100000 in
theorem mendRaise_lifted (os : Os) (started : os.Started) (H : Type) (enc : TypeId × Value → H) :
    ReturnsInHanded {} Tryz.checked os 7 .any (Rows.mendRaiseSpec.pre6 enc Tryz.prog Tryz.f7 Rows.mendRaiseRow.domain false) (Rows.mendRaiseSpec.post enc Tryz.prog Tryz.f7 false true false false) := by
  refine returnsInHanded_of_change_sized (C := Tryz.checked) ownKnobs started (by kernel_rfl) Tryz.func7
    (ChangeSpec.witness6 (enc := enc) (C := Tryz.checked) false ⟨#[], #[.agg #[.slice none 0 0, .slice none 0 0, .int .i64 0, .int .i64 0, .slice none 0 0, .int .i64 0, .slice none 0 0, .slice none 0 0], .int .i64 0], []⟩ 8 (by kernel_rfl) (by kernel_rfl) (by kernel_rfl) (by kernel_rfl)) ?_
  intro W base args ds gs before hval0 hW hcnd hsz0 _
  have hval : ∀ (j : Nat) t v, Tryz.f7.params[j]? = some t → args[j]? = some v → Value.okWide Tryz.prog W .any base t v := hval0
  have hsz : (DataW.weightsEach Tryz.prog (Tryz.f7.params.toList ++ Rows.mendRaiseSpec.plain.varTypes Tryz.prog) (ds ++ gs)).all (· ≤ reachBytes) = true := hsz0
  have hW' := hW
  obtain ⟨p, q, hA0, hV, rfl, hfz, hnd⟩ := hW
  have hA : DataW.TrodAll enc Tryz.prog W 0 (fun _ => true) true Tryz.f7.params.toList args.toList ds p := hA0
  rw [Tryz.params7] at hA hval hsz
  obtain ⟨v0, vs0, d0, ds0, p0, q0, hargs, rfl, rfl, h0, r0⟩ := trodAll_cons hA
  obtain ⟨v1, vs1, d1, ds1, p1, q1, rfl, rfl, rfl, h1, r1⟩ := trodAll_cons r0
  obtain ⟨rfl, rfl, rfl⟩ := trodAll_nil r1
  obtain rfl : args = #[v0, v1] := by cases args; simp_all
  obtain ⟨rfl, rfl⟩ := trodVars_none hV
  have lt0 : ∀ x ∈ p0, x.block < W.heap.size := by obtain ⟨m, hm⟩ := h0; exact DataW.trod_lt m _ _ _ hm
  have lt1 : ∀ x ∈ p1, x.block < W.heap.size := by obtain ⟨m, hm⟩ := h1; exact DataW.trod_lt m _ _ _ hm
  have z0 : SizedP Tryz.prog 29 d0 := sizedP_each hsz (j := 0) rfl rfl
  obtain ⟨l0, T0, R0⟩ := rd_arg 10 (by kernel_rfl) (hval 0 29 v0 rfl rfl) h0 z0
  have z1 : SizedP Tryz.prog 3 d1 := sizedP_each hsz (j := 1) rfl rfl
  obtain ⟨l1, T1, R1⟩ := rd_arg 10 (by kernel_rfl) (hval 1 3 v1 rfl rfl) h1 z1
  clear hA0 hval0 hsz0
  refine (law_calls (Mk.Me.Raise_row T0 T1) (argsP_cons R0 (argsP_cons R1 argsP_nil))).mono fun e W' ⟨he, bel⟩ => ?_
  subst he
  exact ⟨_, rfl, _, _, _, [], _, [], hW', trodAll_mk1 (shut_bool Tryz.underlying4 _), (trodAll_cons_mk (Below.trod laidOut (by kernel_rfl) (of_decide_eq_true (by kernel_rfl)) h0 bel lt0) (trodAll_cons_mk (Below.trod laidOut (by kernel_rfl) (of_decide_eq_true (by kernel_rfl)) h1 bel lt1) trodAll_mk0)), rfl, bel.frame _, fun h => by cases h⟩

theorem mendRaise_joined : joinedFacts Tryz.prog 7 Tryz.f7 Rows.mendRaiseSpec Rows.mendRaiseRow = true := by
  simp only [joinedFacts, Bool.and_eq_true]
  repeat' apply And.intro
  all_goals first | with_reducible exact laidOut | with_reducible exact mapsR | with_reducible exact stopsH | with_reducible exact mayE | (rw [lift0]; kernel_rfl) | (rw [make0]; kernel_rfl) | kernel_rfl

theorem mendRaise_holds : Rows.MendRaiseSaid :=
  OpenClaim.holds_of_wide 7 Tryz.f7 rfl rfl rfl rfl rfl rfl rfl ⟨rfl, rfl, rfl, rfl, rfl⟩ rfl rfl rfl rfl rfl (by kernel_rfl) Tryz.func7 mendRaise_joined
    (of_decide_eq_true (by kernel_rfl)) (by unfold Func.isWrapper; first | (rw [if_pos (by decide +kernel)]; kernel_rfl) | (rw [if_neg (by decide +kernel)]; exact ⟨rfl, rfl⟩))
    (fun os started H enc _ => mendRaise_lifted os started H enc)
end Go.Proofs.YtlcpplkbmlmmbaaGreat
