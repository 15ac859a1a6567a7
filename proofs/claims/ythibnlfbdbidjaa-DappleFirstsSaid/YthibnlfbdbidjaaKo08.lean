/- The specification of dapple: the first two, and how many pairs. Mathematics of dapple: which horses must go. Contracts of dapple's statements: what is told of all pairs. -/
import Derived.Test.YthibnlfbdbidjaaKo07
namespace Go.Proofs.Ythibnlfbdbidjaa
open Go.RowKit
def ac84 : AC := (AC.seq (AC.ops [(AOp.mk (some 2) (AK.box 2 (AX.t 0)) none 0 false true), (AOp.mk (some 4) (AK.mv (AX.c (PV.val (Value.int IntKind.i64 0)))) none 1 false true), (AOp.mk (some 5) (AK.mv (AX.c (PV.val (Value.int IntKind.i64 0)))) none 2 false true), (AOp.mk (some 6) (AK.mv (AX.c (PV.val (Value.int IntKind.i64 0)))) none 3 false true)]) (AC.seq (AC.seq (AC.ops [(AOp.mk (some 10) (AK.ld (some 2) (AX.t 2)) none 0 false true), (AOp.mk (some 11) (AK.call 22 [(AX.t 10)]) none 1 false true), (AOp.mk (some 7) (AK.mv (AX.t 11)) none 2 false true)]) (AC.seq (AC.ops [(AOp.mk (some 12) (AK.mv (AX.t 7)) none 0 false true), (AOp.mk (some 13) (AK.bin false BinOp.neq (AX.t 12) (AX.c (PV.val (Value.int IntKind.i64 0)))) none 1 false true)]) (AC.cond (AX.t 13) (AC.seq (AC.ops [(AOp.mk (some 14) (AK.mv (AX.t 7)) none 0 false true), (AOp.mk (some 4) (AK.mv (AX.c (PV.val (Value.int IntKind.i64 0)))) none 1 false true), (AOp.mk (some 5) (AK.mv (AX.c (PV.val (Value.int IntKind.i64 0)))) none 2 false true), (AOp.mk (some 6) (AK.mv (AX.t 14)) none 3 false true)]) AC.ret) AC.skip))) (AC.seq (AC.seq (AC.ops [(AOp.mk (some 8) (AK.mv (AX.c (PV.val (Value.int IntKind.i64 0)))) none 0 false true)]) (AC.block 0 (AC.loop (AC.seq (AC.seq (AC.ops [(AOp.mk (some 15) (AK.mv (AX.t 8)) none 0 false true), (AOp.mk (some 16) (AK.fadr 1 (AX.t 2)) none 1 false true), (AOp.mk (some 17) (AK.ld none (AX.t 16)) none 2 false true), (AOp.mk (some 18) (AK.len (AX.t 17)) none 3 false true), (AOp.mk (some 19) (AK.bin false BinOp.lss (AX.t 15) (AX.t 18)) none 4 false true)]) (AC.cond (AX.t 19) AC.skip (AC.exit 0))) (AC.seq (AC.block 1 (AC.seq (AC.ops [(AOp.mk (some 22) (AK.mv (AX.t 8)) none 0 false true), (AOp.mk (some 23) (AK.bin false BinOp.add (AX.t 22) (AX.c (PV.val (Value.int IntKind.i64 1)))) none 1 false true), (AOp.mk (some 9) (AK.mv (AX.t 23)) none 2 false true)]) (AC.block 2 (AC.loop (AC.seq (AC.seq (AC.ops [(AOp.mk (some 24) (AK.mv (AX.t 9)) none 0 false true), (AOp.mk (some 25) (AK.fadr 1 (AX.t 2)) none 1 false true), (AOp.mk (some 26) (AK.ld none (AX.t 25)) none 2 false true), (AOp.mk (some 27) (AK.len (AX.t 26)) none 3 false true), (AOp.mk (some 28) (AK.bin false BinOp.lss (AX.t 24) (AX.t 27)) none 4 false true)]) (AC.cond (AX.t 28) AC.skip (AC.exit 2))) (AC.seq (AC.block 3 (AC.seq (AC.ops [(AOp.mk (some 31) (AK.ld (some 2) (AX.t 2)) none 0 false true), (AOp.mk (some 32) (AK.mv (AX.t 8)) none 1 false true), (AOp.mk (some 33) (AK.mv (AX.t 9)) none 2 false true), (AOp.mk (some 34) (AK.call 74 [(AX.t 31), (AX.t 32), (AX.t 33)]) none 3 false true), (AOp.mk (some 35) (AK.mv (AX.t 1)) none 4 false true), (AOp.mk (some 36) (AK.bin false BinOp.geq (AX.t 34) (AX.t 35)) none 5 false true)]) (AC.cond (AX.t 36) (AC.seq (AC.ops [(AOp.mk (some 37) (AK.mv (AX.t 8)) none 0 false true), (AOp.mk (some 38) (AK.mv (AX.t 9)) none 1 false true), (AOp.mk (some 4) (AK.mv (AX.t 37)) none 2 false true), (AOp.mk (some 5) (AK.mv (AX.t 38)) none 3 false true), (AOp.mk (some 6) (AK.mv (AX.c (PV.val (Value.int IntKind.i64 0)))) none 4 false true)]) AC.ret) AC.skip))) (AC.ops [(AOp.mk (some 29) (AK.mv (AX.t 9)) none 0 false true), (AOp.mk (some 30) (AK.bin false BinOp.add (AX.t 29) (AX.c (PV.val (Value.int IntKind.i64 1)))) none 1 false true), (AOp.mk (some 9) (AK.mv (AX.t 30)) none 2 false true)]))))))) (AC.ops [(AOp.mk (some 20) (AK.mv (AX.t 8)) none 0 false true), (AOp.mk (some 21) (AK.bin false BinOp.add (AX.t 20) (AX.c (PV.val (Value.int IntKind.i64 1)))) none 1 false true), (AOp.mk (some 8) (AK.mv (AX.t 21)) none 2 false true)])))))) (AC.seq (AC.ops [(AOp.mk (some 4) (AK.mv (AX.c (PV.val (Value.int IntKind.i64 0)))) none 0 false true), (AOp.mk (some 5) (AK.mv (AX.c (PV.val (Value.int IntKind.i64 0)))) none 1 false true), (AOp.mk (some 6) (AK.mv (AX.c (PV.val (Value.int IntKind.i64 4)))) none 2 false true)]) AC.ret))))
theorem ac84_ok : cCode Try.prog (fun _ => false) Try.f84.ntmps (Try.f84.body.getD .skip) = some ac84 := by kernel_rfl
def ac87 : AC := (AC.seq (AC.ops [(AOp.mk (some 2) (AK.box 2 (AX.t 0)) none 0 false true), (AOp.mk (some 4) (AK.mv (AX.c (PV.val (Value.int IntKind.i64 0)))) none 1 false true)]) (AC.seq (AC.ops [(AOp.mk (some 5) (AK.mv (AX.c (PV.val (Value.int IntKind.i64 0)))) none 0 false true)]) (AC.seq (AC.seq (AC.ops [(AOp.mk (some 6) (AK.mv (AX.c (PV.val (Value.int IntKind.i64 0)))) none 0 false true)]) (AC.block 0 (AC.loop (AC.seq (AC.seq (AC.ops [(AOp.mk (some 8) (AK.mv (AX.t 6)) none 0 false true), (AOp.mk (some 9) (AK.fadr 1 (AX.t 2)) none 1 false true), (AOp.mk (some 10) (AK.ld none (AX.t 9)) none 2 false true), (AOp.mk (some 11) (AK.len (AX.t 10)) none 3 false true), (AOp.mk (some 12) (AK.bin false BinOp.lss (AX.t 8) (AX.t 11)) none 4 false true)]) (AC.cond (AX.t 12) AC.skip (AC.exit 0))) (AC.seq (AC.block 1 (AC.seq (AC.ops [(AOp.mk (some 15) (AK.mv (AX.t 6)) none 0 false true), (AOp.mk (some 16) (AK.bin false BinOp.add (AX.t 15) (AX.c (PV.val (Value.int IntKind.i64 1)))) none 1 false true), (AOp.mk (some 7) (AK.mv (AX.t 16)) none 2 false true)]) (AC.block 2 (AC.loop (AC.seq (AC.seq (AC.ops [(AOp.mk (some 17) (AK.mv (AX.t 7)) none 0 false true), (AOp.mk (some 18) (AK.fadr 1 (AX.t 2)) none 1 false true), (AOp.mk (some 19) (AK.ld none (AX.t 18)) none 2 false true), (AOp.mk (some 20) (AK.len (AX.t 19)) none 3 false true), (AOp.mk (some 21) (AK.bin false BinOp.lss (AX.t 17) (AX.t 20)) none 4 false true)]) (AC.cond (AX.t 21) AC.skip (AC.exit 2))) (AC.seq (AC.block 3 (AC.seq (AC.ops [(AOp.mk (some 24) (AK.mv (AX.t 1)) none 0 false true), (AOp.mk (some 25) (AK.mv (AX.t 6)) none 1 false true), (AOp.mk (some 26) (AK.call 50 [(AX.t 24), (AX.t 25)]) none 2 false true), (AOp.mk (some 27) (AK.un UnOp.not (AX.t 26)) none 3 false true), (AOp.mk (some 28) (AK.mv (AX.t 27)) none 4 false true), (AOp.mk (some 29) (AK.mv (AX.t 1)) (some (28, true)) 5 false true), (AOp.mk (some 30) (AK.mv (AX.t 7)) (some (28, true)) 6 false true), (AOp.mk (some 31) (AK.call 50 [(AX.t 29), (AX.t 30)]) (some (28, true)) 7 false true), (AOp.mk (some 32) (AK.un UnOp.not (AX.t 31)) (some (28, true)) 8 false true), (AOp.mk (some 33) (AK.pick (AX.t 28) (AX.t 32) (AX.c (PV.val (Value.bool false)))) none 9 false true), (AOp.mk (some 34) (AK.mv (AX.t 33)) none 10 false true), (AOp.mk (some 35) (AK.ld (some 2) (AX.t 2)) (some (34, true)) 11 false true), (AOp.mk (some 36) (AK.mv (AX.t 6)) (some (34, true)) 12 false true), (AOp.mk (some 37) (AK.mv (AX.t 7)) (some (34, true)) 13 false true), (AOp.mk (some 38) (AK.call 74 [(AX.t 35), (AX.t 36), (AX.t 37)]) (some (34, true)) 14 false true), (AOp.mk (some 39) (AK.bin false BinOp.gtr (AX.t 38) (AX.c (PV.val (Value.int IntKind.i64 0)))) (some (34, true)) 15 false true), (AOp.mk (some 40) (AK.pick (AX.t 34) (AX.t 39) (AX.c (PV.val (Value.bool false)))) none 16 false true)]) (AC.cond (AX.t 40) (AC.ops [(AOp.mk (some 41) (AK.mv (AX.t 5)) none 0 false true), (AOp.mk (some 42) (AK.bin false BinOp.add (AX.t 41) (AX.c (PV.val (Value.int IntKind.i64 1)))) none 1 false true), (AOp.mk (some 5) (AK.mv (AX.t 42)) none 2 false true)]) AC.skip))) (AC.ops [(AOp.mk (some 22) (AK.mv (AX.t 7)) none 0 false true), (AOp.mk (some 23) (AK.bin false BinOp.add (AX.t 22) (AX.c (PV.val (Value.int IntKind.i64 1)))) none 1 false true), (AOp.mk (some 7) (AK.mv (AX.t 23)) none 2 false true)]))))))) (AC.ops [(AOp.mk (some 13) (AK.mv (AX.t 6)) none 0 false true), (AOp.mk (some 14) (AK.bin false BinOp.add (AX.t 13) (AX.c (PV.val (Value.int IntKind.i64 1)))) none 1 false true), (AOp.mk (some 6) (AK.mv (AX.t 14)) none 2 false true)])))))) (AC.seq (AC.ops [(AOp.mk (some 43) (AK.mv (AX.t 5)) none 0 false true), (AOp.mk (some 4) (AK.mv (AX.t 43)) none 1 false true)]) AC.ret))))
theorem ac87_ok : cCode Try.prog (fun _ => false) Try.f87.ntmps (Try.f87.body.getD .skip) = some ac87 := by kernel_rfl
theorem pair_find {e : Nat} {P : Nat → Nat → Bool} {i k : Nat} (h : i < k) (hk : k < e) (hp : P i k = true) (hb : ∀ p q, p < q → q < e → (p < i ∨ p = i ∧ q < k) → P p q = false) : (listsL e 2).find? (pairP P) = some [(i : Int), (k : Int)] := by
  cases hf : (listsL e 2).find? (pairP P) with
  | none =>
    have := pair_none hf h hk
    rw [hp] at this
    cases this
  | some l =>
    obtain ⟨i', k', rfl, h1, h2, h3, h4⟩ := pair_some hf
    rcases Nat.lt_trichotomy i i' with c | rfl | c
    · have := h4 i k h hk (.inl c)
      rw [hp] at this
      cases this
    · rcases Nat.lt_trichotomy k k' with c | rfl | c
      · have := h4 i k h hk (.inr ⟨rfl, c⟩)
        rw [hp] at this
        cases this
      · rfl
      · have := hb i k' h1 h2 (.inr ⟨rfl, c⟩)
        rw [h3] at this
        cases this
    · have := hb i' k' h1 h2 (.inl c)
      rw [h3] at this
      cases this
theorem pair_find_no {e : Nat} {P : Nat → Nat → Bool} (hb : ∀ p q, p < q → q < e → P p q = false) : (listsL e 2).find? (pairP P) = none := by
  cases hf : (listsL e 2).find? (pairP P) with
  | none => rfl
  | some l =>
    obtain ⟨i', k', rfl, h1, h2, h3, -⟩ := pair_some hf
    have := hb i' k' h1 h2
    rw [h3] at this
    cases this
def leastP (b : DBook) (n : Int) (i j : Nat) : Bool := decide (n ≤ sameI b i j)
theorem rfirst_sem (k : SK) (b : DBook) (n : Int) : Sem1 84 [.agg (bookC k b), pi n] (twoE b ((listsL b.horses.length 2).find? (pairP (leastP b n)))) := by
  by_cases ho : okBook b
  rotate_left
  · have he : ∀ o, twoE b o = .tup [pi 0, pi 0, pi 70] := fun o => by unfold twoE; rw [if_neg ho]
    rw [he]
    refine semC_of_exec' mixed Try.func84 (by kernel_rfl) (by kernel_rfl) ac84_ok 2 rfl (by decide) [(.tmp 4), (.tmp 5), (.tmp 6)] (by kernel_rfl) ?_
    intro hr C hC hI
    unfold ac84
    simp only [go_sem, Nat.reduceBEq, Nat.reduceAdd]
    refine call_pure2 hC (rCheck_sem k b) rfl (PVleL_refl _) ?_
    rintro r rfl
    simp only [go_sem, Nat.reduceBEq]
    rw [if_neg ho]
    exact ⟨fun _ => retQ_three rfl rfl rfl rfl, fun h => absurd h (by decide)⟩
  have h6 := ho.2.1
  have he : ∀ o, twoE b o = twoP o := fun o => by unfold twoE; rw [if_pos ho]
  rw [he]
  refine semC_of_exec' mixed Try.func84 (by kernel_rfl) (by kernel_rfl) ac84_ok 2 rfl (by decide) [(.tmp 4), (.tmp 5), (.tmp 6)] (by kernel_rfl) ?_
  intro hr C hC hI
  unfold ac84
  simp only [go_sem, Nat.reduceBEq, Nat.reduceAdd]
  refine call_pure2 hC (rCheck_sem k b) rfl (PVleL_refl _) ?_
  rintro r rfl
  simp only [go_sem, Nat.reduceBEq]
  rw [if_pos ho]
  refine ⟨fun h => absurd rfl h, fun _ => ?_⟩
  refine loop_k b.horses.length (fun i => ∀ p q : Nat, p < i → p < q → q < b.horses.length → leastP b n p q = false) [1, 2] (fun i => [(8, .p (pi i))]) (fun p q h => absurd h (by omega)) rfl ⟨rfl, by simp, by simp⟩ (by simp [wkT, look, AV.lo]) ?_
  rintro i ⟨hi, hok⟩
  simp only [go_sem, Nat.reduceBEq, List.length_map]
  refine ⟨fun h5 => ?_, fun h5 => ?_⟩
  · have hi2 : i < b.horses.length := by omega
    simp only [go_sem, wrap_succ (k := i) (by omega)]
    refine loop_k (b.horses.length - (i + 1)) (fun q => ∀ x : Nat, i < x → x < i + 1 + q → leastP b n i x = false) [1, 2, 8] (fun q => [(9, .p (pi ((i + 1 + q : Nat) : Int)))]) (fun x h1 h2 => absurd h1 (by omega)) rfl ⟨rfl, by simp, by simp⟩ (by simp [wkT, look, AV.lo]) ?_
    rintro q ⟨hq, hok2⟩
    simp only [go_sem, Nat.reduceBEq, Nat.reduceAdd, List.length_map]
    refine ⟨fun h7 => ?_, fun h7 => ?_⟩
    · have hq2 : i + 1 + q < b.horses.length := by omega
      have hnx : IntKind.i64.wrap (((i + 1 + q : Nat) : Int) + 1) = ((i + 1 + (q + 1) : Nat) : Int) := wrap_succ (by omega)
      refine call_pure2 hC (rsame_sem k ho hi2 hq2) rfl (PVleL_refl _) ?_
      rintro r rfl
      simp only [go_sem, Nat.reduceBEq]
      refine ⟨fun h9 => ?_, fun h9 => ?_⟩
      · have hf := pair_find (P := leastP b n) (show i < i + 1 + q by omega) hq2 (decide_eq_true h9) (fun p x h1 h2 h3 => by
          rcases h3 with h3 | ⟨rfl, h3⟩
          · exact hok p x h3 h1 h2
          · exact hok2 x h1 h3)
        rw [hf]
        exact retQ_three rfl rfl rfl rfl
      · simp only [go_sem, hnx]
        refine ⟨⟨q + 1, by omega, fun x h1 h2 => ?_⟩, by simp only; omega, by simp [Wk, wkT, wkL, look, AV.lo, AV.lo.loL, ABlk.toZ]⟩
        by_cases e : x = i + 1 + q
        · rw [e]; exact decide_eq_false h9
        · exact hok2 x h1 (by omega)
    · simp only [go_sem, wrap_succ (k := i) (by omega)]
      refine ⟨⟨i + 1, hi2, fun p x h1 h2 h3 => ?_⟩, by simp only; omega, by simp [Wk, wkT, wkL, look, AV.lo, AV.lo.loL, ABlk.toZ]⟩
      by_cases e : p = i
      · subst e; exact hok2 x h2 (by omega)
      · exact hok p x (by omega) h2 h3
  · rw [pair_find_no fun p q h1 h2 => hok p q (by omega) h1 h2]
    exact retQ_three rfl rfl rfl rfl
def manyP (b : DBook) (s : Int) (i k : Nat) : Bool := !ofI s i && !ofI s k && decide (0 < sameI b i k)
def rowM (b : DBook) (s : Int) (i j : Nat) : Nat := ((List.range j).filter fun q => manyP b s i (i + 1 + q)).length
def totM (b : DBook) (s : Int) (i : Nat) : Nat := ((List.range i).map fun x => rowM b s x (b.horses.length - (x + 1))).sum
theorem rowM_next (b : DBook) (s : Int) (i j : Nat) : rowM b s i (j + 1) = rowM b s i j + if manyP b s i (i + 1 + j) then 1 else 0 := by
  unfold rowM
  rw [List.range_succ, List.filter_append, List.length_append]
  simp only [List.filter_cons, List.filter_nil]
  split <;> simp_all
theorem totM_next (b : DBook) (s : Int) (i : Nat) : totM b s (i + 1) = totM b s i + rowM b s i (b.horses.length - (i + 1)) := by
  unfold totM
  rw [List.range_succ, List.map_append, List.sum_append]
  simp
theorem rowM_le (b : DBook) (s : Int) (i j : Nat) : rowM b s i j ≤ j := by
  unfold rowM
  exact Nat.le_trans (List.length_filter_le ..) (by simp)
theorem totM_le {b : DBook} (s : Int) (h6 : b.horses.length ≤ 6) : ∀ i, i ≤ b.horses.length → totM b s i ≤ 6 * i
  | 0, _ => by simp [totM]
  | i + 1, h => by
    have ih := totM_le s h6 i (by omega)
    have := rowM_le b s i (b.horses.length - (i + 1))
    rw [totM_next]
    omega
theorem totM_zero {b : DBook} {s : Int} : totM b s b.horses.length = 0 ↔ ∀ i k : Nat, i < k → k < b.horses.length → manyP b s i k = false := by
  unfold totM
  rw [List.sum_eq_zero_iff_forall_eq_nat]
  constructor
  · intro H i k hi hk
    have h1 := H _ (List.mem_map.2 ⟨i, List.mem_range.2 (by omega), rfl⟩)
    unfold rowM at h1
    have h2 := List.eq_nil_of_length_eq_zero h1
    rw [List.filter_eq_nil_iff] at h2
    have h3 := h2 (k - (i + 1)) (List.mem_range.2 (by omega))
    rw [show i + 1 + (k - (i + 1)) = k by omega] at h3
    simpa using h3
  · intro H x hx
    obtain ⟨i, hi, rfl⟩ := List.mem_map.1 hx
    unfold rowM
    rw [List.length_eq_zero_iff, List.filter_eq_nil_iff]
    intro q hq
    rw [H i (i + 1 + q) (by omega) (by have := List.mem_range.1 hq; omega)]
    simp
theorem many_sem (k : SK) {b : DBook} (ho : okBook b) (s : Int) : Sem1 87 [.agg (bookC k b), pi s] (pi (totM b s b.horses.length : Nat)) := by
  have h6 := ho.2.1
  refine semC_of_exec' mixed Try.func87 (by kernel_rfl) (by kernel_rfl) ac87_ok 2 rfl (by decide) [(.tmp 4)] (by kernel_rfl) ?_
  intro hr C hC hI
  unfold ac87
  simp only [go_sem, Nat.reduceBEq, Nat.reduceAdd]
  refine loop_k b.horses.length (fun _ => True) [1, 2] (fun i => [(5, .p (pi (totM b s i : Nat))), (6, .p (pi i))]) trivial rfl ⟨rfl, by simp, by simp⟩ (by simp [totM, wkT, look, AV.lo]) ?_
  rintro i ⟨hi, -⟩
  simp only [go_sem, Nat.reduceBEq, List.length_map]
  refine ⟨fun h5 => ?_, fun h5 => ?_⟩
  · have hi2 : i < b.horses.length := by omega
    have htl := totM_le (b := b) s (by omega) i (by omega)
    have htn := totM_next b s i
    simp only [go_sem, wrap_succ (k := i) (by omega)]
    refine loop_k (b.horses.length - (i + 1)) (fun _ => True) [1, 2, 6] (fun q => [(5, .p (pi ((totM b s i + rowM b s i q : Nat) : Int))), (7, .p (pi ((i + 1 + q : Nat) : Int)))]) trivial rfl ⟨rfl, by simp, by simp⟩ (by simp [rowM, wkT, look, AV.lo]) ?_
    rintro q ⟨hq, -⟩
    simp only [go_sem, Nat.reduceBEq, List.length_map]
    refine ⟨fun h7 => ?_, fun h7 => ?_⟩
    · have hq2 : i + 1 + q < b.horses.length := by omega
      have hrn := rowM_next b s i q
      have hrl := rowM_le b s i q
      have hnx : IntKind.i64.wrap (((i + 1 + q : Nat) : Int) + 1) = ((i + 1 + (q + 1) : Nat) : Int) := wrap_succ (by omega)
      have hmp : manyP b s i (i + 1 + q) = (!ofI s i && !ofI s ((i + 1 + q : Nat) : Int) && decide (0 < sameI b i (i + 1 + q))) := rfl
      refine call_pure2 hC (Of_sem s i (by omega)) rfl (PVleL_refl _) ?_
      rintro r rfl
      simp only [go_sem, Nat.reduceBEq]
      cases hc1 : ofI s i
      rotate_left
      · have hf : manyP b s i (i + 1 + q) = false := by rw [hmp, hc1]; rfl
        rw [hf, if_neg (by decide), Nat.add_zero] at hrn
        simp only [go_sem, Nat.reduceBEq, hnx]
        refine ⟨⟨q + 1, by omega, trivial⟩, by simp only; omega, ?_⟩
        simp only [hrn]
        exact by simp [Wk, wkT, wkL, look, AV.lo, AV.lo.loL, ABlk.toZ]
      simp only [go_sem, Nat.reduceBEq]
      refine call_pure2 hC (Of_sem s ((i + 1 + q : Nat) : Int) (by omega)) rfl (PVleL_refl _) ?_
      rintro r rfl
      simp only [go_sem, Nat.reduceBEq]
      cases hc2 : ofI s ((i + 1 + q : Nat) : Int)
      rotate_left
      · have hf : manyP b s i (i + 1 + q) = false := by rw [hmp, hc1, hc2]; rfl
        rw [hf, if_neg (by decide), Nat.add_zero] at hrn
        simp only [go_sem, Nat.reduceBEq, hnx]
        refine ⟨⟨q + 1, by omega, trivial⟩, by simp only; omega, ?_⟩
        simp only [hrn]
        exact by simp [Wk, wkT, wkL, look, AV.lo, AV.lo.loL, ABlk.toZ]
      simp only [go_sem, Nat.reduceBEq, Nat.reduceAdd]
      refine call_pure2 hC (rsame_sem k ho hi2 hq2) rfl (PVleL_refl _) ?_
      rintro r rfl
      simp only [go_sem, Nat.reduceBEq]
      refine ⟨fun h9 => ?_, fun h9 => ?_⟩
      · have hf : manyP b s i (i + 1 + q) = true := by rw [hmp, hc1, hc2, decide_eq_true h9]; rfl
        rw [hf, if_pos rfl] at hrn
        simp only [go_sem, hnx, wrap_succ (k := totM b s i + rowM b s i q) (by omega)]
        refine ⟨⟨q + 1, by omega, trivial⟩, by simp only; omega, ?_⟩
        simp only [hrn, ← Nat.add_assoc]
        exact by simp [Wk, wkT, wkL, look, AV.lo, AV.lo.loL, ABlk.toZ]
      · have hf : manyP b s i (i + 1 + q) = false := by rw [hmp, decide_eq_false h9, Bool.and_false]
        rw [hf, if_neg (by decide), Nat.add_zero] at hrn
        simp only [go_sem, hnx]
        refine ⟨⟨q + 1, by omega, trivial⟩, by simp only; omega, ?_⟩
        simp only [hrn]
        exact by simp [Wk, wkT, wkL, look, AV.lo, AV.lo.loL, ABlk.toZ]
    · have hqn : q = b.horses.length - (i + 1) := by omega
      subst hqn
      simp only [go_sem, wrap_succ (k := i) (by omega)]
      refine ⟨⟨i + 1, hi2, trivial⟩, by simp only; omega, ?_⟩
      simp only [htn]
      exact by simp [Wk, wkT, wkL, look, AV.lo, AV.lo.loL, ABlk.toZ]
  · have hin : i = b.horses.length := by omega
    subst hin
    exact retQ_one rfl rfl
end Go.Proofs.Ythibnlfbdbidjaa
namespace Go.Proofs.Ythibnlfbdbidjaa
open Go.RowKit
theorem rid_iff {b : DBook} {out : List Int} : ridP b out = true ↔ ∀ i k : Nat, i < k → k < b.horses.length → leftP b out i k = false := by
  unfold ridP
  cases h : (listsL b.horses.length 2).find? (pairP (leftP b out)) with
  | none => exact ⟨fun _ i k hi hk => pair_none h hi hk, fun _ => rfl⟩
  | some l =>
    obtain ⟨i, k, -, h1, h2, h3, -⟩ := pair_some h
    refine ⟨(fun e => by cases e), fun e => ?_⟩
    rw [e i k h1 h2] at h3
    cases h3
theorem all_mem (n : Nat) : natL (List.range n) ∈ listsL n n := by
  rw [mem_listsL]
  unfold natL
  refine ⟨by simp, ?_, fun x hx => ?_⟩
  · unfold incL
    rw [List.pairwise_map]
    exact (List.pairwise_lt_range (n := n)).imp fun {a b} h => by omega
  · obtain ⟨y, hy, rfl⟩ := List.mem_map.1 hx
    have := List.mem_range.1 hy
    omega
theorem all_rid (b : DBook) : ridP b (natL (List.range b.horses.length)) = true := by
  rw [rid_iff]
  intro i k hi hk
  unfold leftP
  have : (i : Int) ∈ natL (List.range b.horses.length) := List.mem_map.2 ⟨i, List.mem_range.2 (by omega), rfl⟩
  rw [decide_eq_true this]
  rfl
theorem drop_facts (b : DBook) : growsI (dropI b) b.horses.length ∧ ridP b (dropI b) = true ∧ ∀ l, growsI l b.horses.length → shortB l (dropI b) = true → ridP b l = false := by
  have hne : dropO b ≠ none := by
    unfold dropO
    rw [Ne, List.findSome?_eq_none_iff]
    intro h
    have h2 := h b.horses.length (List.mem_range.2 (by omega))
    unfold dropAt at h2
    have := List.find?_eq_none.1 h2 _ (all_mem _)
    rw [all_rid] at this
    exact this rfl
  obtain ⟨d, hd⟩ := Option.ne_none_iff_exists'.1 hne
  have hdi : dropI b = d := by unfold dropI; rw [hd]; rfl
  rw [hdi]
  unfold dropO at hd
  obtain ⟨l1, a, l2, e, h1, h2⟩ := List.findSome?_eq_some_iff.1 hd
  unfold dropAt at h1
  obtain ⟨g1, g2, g3⟩ := find_first (lists_pw _ _) h1
  obtain ⟨m1, m2⟩ := mem_listsL.1 g1
  have hp := List.pairwise_lt_range (n := b.horses.length + 1)
  rw [e, List.pairwise_append] at hp
  have ha : a < b.horses.length + 1 := List.mem_range.1 (by rw [e]; simp)
  refine ⟨m2, g2, fun l hl hs => ?_⟩
  unfold shortB at hs
  split at hs
  · rename_i hlen
    exact g3 l (mem_listsL.2 ⟨by omega, hl⟩) hs
  · rename_i hlen
    have hlt : l.length < a := by have := of_decide_eq_true hs; omega
    have hm : l.length ∈ l1 := by
      have : l.length ∈ List.range (b.horses.length + 1) := List.mem_range.2 (by omega)
      rw [e] at this
      rcases List.mem_append.1 this with h | h
      · exact h
      · exfalso
        rcases List.mem_cons.1 h with h | h
        · omega
        · have := (List.pairwise_cons.1 hp.2.1).1 _ h
          omega
    have h3 := h2 _ hm
    unfold dropAt at h3
    have := List.find?_eq_none.1 h3 l (mem_listsL.2 ⟨rfl, hl⟩)
    simpa using this
theorem drop_nil (b : DBook) : dropI b = [] ↔ ∀ i k : Nat, i < k → k < b.horses.length → sameI b i k = 0 := by
  obtain ⟨h1, h2, h3⟩ := drop_facts b
  have key : ridP b [] = true ↔ ∀ i k : Nat, i < k → k < b.horses.length → sameI b i k = 0 := by
    rw [rid_iff]
    refine forall_congr' fun i => forall_congr' fun k => forall_congr' fun _ => forall_congr' fun _ => ?_
    simp [leftP]
  rw [← key]
  constructor
  · intro e; rw [e] at h2; exact h2
  · intro e
    cases hd : dropI b with
    | nil => rfl
    | cons x l =>
      have := h3 [] ⟨List.Pairwise.nil, by simp⟩ (by rw [hd]; simp [shortB])
      rw [this] at e; cases e
end Go.Proofs.Ythibnlfbdbidjaa
namespace Go.Proofs.Ythibnlfbdbidjaa
open Go.RowKit
theorem live_d {o o2 : Option Nat} {t : Nat} (h : (o.toList ++ o2.toList).Nodup) : ∀ x ∈ o.toList ++ (some t).toList, x ∈ t :: dropT o2 (o.toList ++ o2.toList) := by
  cases o2 with
  | none => exact live_a
  | some t2 => exact live_b h
theorem nodup_d {o o2 : Option Nat} {t : Nat} (ht : ¬ t ∈ o.toList ++ o2.toList) : (o.toList ++ (some t).toList).Nodup := by
  cases o with
  | none => simp
  | some x => simp at ht ⊢; exact fun e => ht.1 e.symm
theorem rowsO_add2 {e : TypeId} {ts : List Nat} {rows : List (List Int)} (h : ts.length = rows.length) (t : Nat) (r : List Int) : rowsO e (ts ++ [t]) (rows ++ [r]) = rowsO e ts rows ++ [[slG e (some t) (r.map fun x => [pi x])]] := rowsO_add h t r
set_option maxRecDepth 100000 in
theorem kinds_sem (k : SK) {b : DBook} (ho : okBook b) : Sem1 47 [.agg (bookC k b)] (.sl .sh 1 (rowsC (kindsL b b.horses.length))) := by
  obtain ⟨h1, h8, hn⟩ := okR ho
  have h6 := ho.2.1
  refine semC_of_exec' mixed Try.func47 (by kernel_rfl) (by kernel_rfl) ac47_ok 1 rfl (by decide) [(.tmp 2)] (by kernel_rfl) ?_
  intro hr C hC hI
  unfold ac47
  simp only [go_sem, Nat.reduceBEq, Nat.reduceAdd]
  refine loop_g (α := Nat × Option Nat × List Nat) (fun a => a.1 ≤ b.horses.length ∧ a.2.2.length = a.1 ∧ (a.2.1 = none → a.1 = 0)) (fun a => b.horses.length - a.1) [1] (fun a => [(3, .p (slG 26 a.2.1 (rowsO 3 a.2.2 (kindsL b a.1)))), (4, .p (pi a.1))]) (fun _ => [.cells ((bookC k b).map .p)]) (fun a => a.2.1.toList) (0, none, []) ⟨by omega, rfl, fun _ => rfl⟩ (by simp [Wk, wkT, wkL, look, AV.lo, AV.lo.loL, upS_eq, keepS_nil, keepS_cons, slG]) ?_
  rintro ⟨i, o, ts⟩ ⟨hi, hts, hok⟩
  replace hi : i ≤ b.horses.length := hi
  replace hts : ts.length = i := hts
  replace hok : o = none → i = 0 := hok
  have hkl := kindsL_len b i
  have h0 : o = none → rowsO 3 ts (kindsL b i) = [] := fun e => List.eq_nil_of_length_eq_zero (by rw [rowsO_len (by rw [hts, hkl]), hkl]; exact hok e)
  simp only [go_sem, Nat.reduceBEq, List.length_map]
  refine ⟨fun h5 => ?_, fun h5 => ?_⟩
  · have hi2 : i < b.horses.length := by omega
    obtain ⟨V, hV⟩ : ∃ V, slG 26 o (rowsO 3 ts (kindsL b i)) = V := ⟨_, rfl⟩
    rw [hV]
    refine loop_g (α := Nat × Option Nat) (fun a => a.1 ≤ b.horses.length ∧ (a.2 = none → a.1 = 0) ∧ (o.toList ++ a.2.toList).Nodup) (fun a => b.horses.length - a.1) [1, 3, 4] (fun a => [(5, .p (slG 3 a.2 ((kindR b i a.1).map fun x => [pi x]))), (6, .p (pi a.1))]) (fun _ => [.cells ((bookC k b).map .p)]) (fun a => o.toList ++ a.2.toList) (0, none) ⟨by omega, fun _ => rfl, by cases o <;> simp⟩ (by cases o <;> simp [Wk, wkT, wkL, look, AV.lo, AV.lo.loL, upS_eq, keepS_nil, keepS_cons, slG]) ?_
    rintro ⟨j, o2⟩ ⟨hj, hok2, hnd⟩
    replace hj : j ≤ b.horses.length := hj
    replace hok2 : o2 = none → j = 0 := hok2
    replace hnd : (o.toList ++ o2.toList).Nodup := hnd
    have h02 : o2 = none → ((kindR b i j).map fun x => [pi x]) = [] := fun e => by rw [hok2 e]; rfl
    have hnx := kindR_next b i j
    simp only [go_sem, Nat.reduceBEq, Nat.reduceAdd, List.length_map]
    refine ⟨fun h6 => ?_, fun h6 => ?_⟩
    · have hj2 : j < b.horses.length := by omega
      refine ⟨fun h7 => ?_, fun h7 => ?_⟩
      · have hne : ¬ j = i := by omega
        have hx : kindJ b i j = sameI b i j := if_neg hne
        rw [hx] at hnx
        refine call_pure2 hC (Same_ok k ho hi2 hj2 (fun e => hne e.symm)) rfl (PVleL_refl _) ?_
        rintro r rfl
        simp only [go_sem, Nat.reduceBEq, decide_false, not_true_eq_false]
        refine app_slG h02 (by rw [List.length_map, kindR_len]; omega) (fun t ht => List.mem_append_right _ ht) fun tk htk => ?_
        simp only [go_sem, Nat.reduceBEq, wrap_succ (k := j) (by omega)]
        refine ⟨⟨(j + 1, some tk), hj2, (fun h => by cases h), nodup_d htk⟩, by simp only; omega, ?_⟩
        simp only [hnx]
        exact ⟨by simp [wkT, look, AV.lo], by simp [wkL, AV.lo, AV.lo.loL], live_d hnd, nodup_d htk, rfl, rfl, by simp⟩
      · have he : j = i := by omega
        have hx : kindJ b i j = 0 := if_pos he
        rw [hx] at hnx
        refine app_slG h02 (by rw [List.length_map, kindR_len]; omega) (fun t ht => List.mem_append_right _ ht) fun tk htk => ?_
        simp only [go_sem, Nat.reduceBEq, wrap_succ (k := j) (by omega)]
        refine ⟨⟨(j + 1, some tk), hj2, (fun h => by cases h), nodup_d htk⟩, by simp only; omega, ?_⟩
        simp only [hnx]
        exact ⟨by simp [wkT, look, AV.lo], by simp [wkL, AV.lo, AV.lo.loL], live_d hnd, nodup_d htk, rfl, rfl, by simp⟩
    · have hjn : j = b.horses.length := by omega
      subst hjn
      cases o2 with
      | none => exact absurd (hok2 rfl) (by omega)
      | some tk =>
        simp only [slG]
        simp only [go_sem, Nat.reduceBEq]
        rw [← hV]
        refine app_slG h0 (by rw [rowsO_len (by rw [hts, hkl]), hkl]; omega) (fun t ht => List.mem_append_left _ ht) fun t ht => ?_
        simp only [go_sem, Nat.reduceBEq, wrap_succ (k := i) (by omega)]
        refine ⟨⟨(i + 1, some t, ts ++ [tk]), hi2, by simp [hts], (fun h => by cases h)⟩, by simp only; omega, ?_⟩
        have hn1 := kindsL_next b i
        simp only [hn1, rowsO_add2 (show ts.length = (kindsL b i).length by rw [hts, hkl])]
        exact ⟨by simp [wkT, look, AV.lo, slG], by simp [wkL, AV.lo, AV.lo.loL], by simp, by simp, rfl, rfl, by simp⟩
  · have hin : i = b.horses.length := by omega
    subst hin
    cases o with
    | none => exact absurd (hok rfl) (by omega)
    | some t => exact retQ_le rfl (PVle.rows (rowsO_le _ _ _ (by rw [hts, hkl]))) rfl
end Go.Proofs.Ythibnlfbdbidjaa
