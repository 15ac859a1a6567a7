/- The specification of dapple: the horses that must go. Mathematics of dapple: the dapple at which it is best to look. Mathematics of dapple: how many pairs. Mathematics of dapple: rows that no horse has. Mathematics of dapple: if more is known. Contracts of dapple's statements: a book in which the size of a dapple is known. -/
import Derived.Test.YthibnlfbdbidjaaKo08
import Derived.Test.YthibnlfbdbidjaaKo09
import Derived.Test.YthibnlfbdbidjaaKo05
import Derived.Test.YthibnlfbdbidjaaKo06
import Derived.Test.YthibnlfbdbidjaaKo07
namespace Go.Proofs.Ythibnlfbdbidjaa
open Go.RowKit
def ac35 : AC := (AC.seq (AC.ops [(AOp.mk (some 1) (AK.box 2 (AX.t 0)) none 0 false true), (AOp.mk (some 2) (AK.mv (AX.c (PV.sl SK.full 0 []))) none 1 false true), (AOp.mk (some 3) (AK.mv (AX.c (PV.val (Value.int IntKind.i64 0)))) none 2 false true)]) (AC.seq (AC.seq (AC.ops [(AOp.mk (some 9) (AK.ld (some 2) (AX.t 1)) none 0 false true), (AOp.mk (some 10) (AK.call 22 [(AX.t 9)]) none 1 false true), (AOp.mk (some 4) (AK.mv (AX.t 10)) none 2 false true)]) (AC.seq (AC.ops [(AOp.mk (some 11) (AK.mv (AX.t 4)) none 0 false true), (AOp.mk (some 12) (AK.bin false BinOp.neq (AX.t 11) (AX.c (PV.val (Value.int IntKind.i64 0)))) none 1 false true)]) (AC.cond (AX.t 12) (AC.seq (AC.ops [(AOp.mk (some 13) (AK.mv (AX.t 4)) none 0 false true), (AOp.mk (some 2) (AK.mv (AX.c (PV.sl SK.full 0 []))) none 1 false true), (AOp.mk (some 3) (AK.mv (AX.t 13)) none 2 false true)]) AC.ret) AC.skip))) (AC.seq (AC.ops [(AOp.mk (some 14) (AK.fadr 1 (AX.t 1)) none 0 false true), (AOp.mk (some 15) (AK.ld none (AX.t 14)) none 1 false true), (AOp.mk (some 16) (AK.len (AX.t 15)) none 2 false true), (AOp.mk (some 5) (AK.mv (AX.t 16)) none 3 false true)]) (AC.seq (AC.ops [(AOp.mk (some 17) (AK.mv (AX.t 5)) none 0 false true), (AOp.mk (some 18) (AK.bin false BinOp.shl (AX.c (PV.val (Value.int IntKind.i64 1))) (AX.t 17)) none 1 false true), (AOp.mk (some 19) (AK.bin false BinOp.sub (AX.t 18) (AX.c (PV.val (Value.int IntKind.i64 1)))) none 2 false true), (AOp.mk (some 20) (AK.mv (AX.t 5)) none 3 false true), (AOp.mk (some 21) (AK.call 48 [(AX.t 19), (AX.t 20)]) none 4 false true), (AOp.mk (some 6) (AK.mv (AX.t 21)) none 5 false true)]) (AC.seq (AC.seq (AC.ops [(AOp.mk (some 7) (AK.mv (AX.c (PV.val (Value.int IntKind.i64 0)))) none 0 false true)]) (AC.block 0 (AC.loop (AC.seq (AC.seq (AC.ops [(AOp.mk (some 22) (AK.mv (AX.t 7)) none 0 false true), (AOp.mk (some 23) (AK.mv (AX.t 5)) none 1 false true), (AOp.mk (some 24) (AK.bin false BinOp.shl (AX.c (PV.val (Value.int IntKind.i64 1))) (AX.t 23)) none 2 false true), (AOp.mk (some 25) (AK.bin false BinOp.lss (AX.t 22) (AX.t 24)) none 3 false true)]) (AC.cond (AX.t 25) AC.skip (AC.exit 0))) (AC.seq (AC.block 1 (AC.seq (AC.ops [(AOp.mk (some 28) (AK.mv (AX.t 7)) none 0 false true), (AOp.mk (some 29) (AK.mv (AX.t 5)) none 1 false true), (AOp.mk (some 30) (AK.call 48 [(AX.t 28), (AX.t 29)]) none 2 false true), (AOp.mk (some 8) (AK.mv (AX.t 30)) none 3 false true)]) (AC.seq (AC.ops [(AOp.mk (some 31) (AK.mv (AX.t 8)) none 0 false true), (AOp.mk (some 32) (AK.mv (AX.t 6)) none 1 false true), (AOp.mk (some 33) (AK.call 53 [(AX.t 31), (AX.t 32)]) none 2 false true), (AOp.mk (some 34) (AK.mv (AX.t 33)) none 3 false true), (AOp.mk (some 35) (AK.ld (some 2) (AX.t 1)) (some (34, true)) 4 false true), (AOp.mk (some 36) (AK.mv (AX.t 7)) (some (34, true)) 5 false true), (AOp.mk (some 37) (AK.call 87 [(AX.t 35), (AX.t 36)]) (some (34, true)) 6 false true), (AOp.mk (some 38) (AK.bin false BinOp.eql (AX.t 37) (AX.c (PV.val (Value.int IntKind.i64 0)))) (some (34, true)) 7 false true), (AOp.mk (some 39) (AK.pick (AX.t 34) (AX.t 38) (AX.c (PV.val (Value.bool false)))) none 8 false true)]) (AC.cond (AX.t 39) (AC.ops [(AOp.mk (some 40) (AK.mv (AX.t 8)) none 0 false true), (AOp.mk (some 6) (AK.mv (AX.t 40)) none 1 false true)]) AC.skip)))) (AC.ops [(AOp.mk (some 26) (AK.mv (AX.t 7)) none 0 false true), (AOp.mk (some 27) (AK.bin false BinOp.add (AX.t 26) (AX.c (PV.val (Value.int IntKind.i64 1)))) none 1 false true), (AOp.mk (some 7) (AK.mv (AX.t 27)) none 2 false true)])))))) (AC.seq (AC.ops [(AOp.mk (some 41) (AK.mv (AX.t 6)) none 0 false true), (AOp.mk (some 2) (AK.mv (AX.t 41)) none 1 false true), (AOp.mk (some 3) (AK.mv (AX.c (PV.val (Value.int IntKind.i64 0)))) none 2 false true)]) AC.ret))))))
theorem ac35_ok : cCode Try.prog (fun _ => false) Try.f35.ntmps (Try.f35.body.getD .skip) = some ac35 := by kernel_rfl
theorem of_bit {s i : Nat} (h : i ≤ 64) : ofI (s : Int) (i : Int) = s.testBit i := by
  unfold ofI
  rw [Int.toNat_natCast, Nat.min_eq_left h, Nat.testBit_eq_decide_div_mod_eq, Int.fdiv_eq_ediv_of_nonneg _ (by have : (0 : Int) < 2 ^ i := Int.pow_pos (by decide); omega)]
  refine decide_eq_decide.2 ?_
  have e : ((2 : Int) ^ i) = ((2 ^ i : Nat) : Int) := by norm_cast
  rw [e]
  norm_cast
theorem bits_ex (p : Nat → Bool) : ∀ m : Nat, ∃ s : Nat, s < 2 ^ m ∧ ∀ i, i < m → s.testBit i = p i
  | 0 => ⟨0, by decide, fun i h => absurd h (by omega)⟩
  | m + 1 => by
    obtain ⟨s, hs, hp⟩ := bits_ex p m
    cases hm : p m
    · refine ⟨s, by rw [Nat.pow_succ]; omega, fun i hi => ?_⟩
      by_cases e : i = m
      · rw [e, hm]
        exact Nat.testBit_lt_two_pow hs
      · exact hp i (by omega)
    · refine ⟨2 ^ m + s, by rw [Nat.pow_succ]; omega, fun i hi => ?_⟩
      by_cases e : i = m
      · rw [e, hm, Nat.testBit_two_pow_add_eq, Nat.testBit_lt_two_pow hs]
        rfl
      · rw [Nat.testBit_two_pow_add_gt (by omega)]
        exact hp i (by omega)
theorem grows_bits {l : List Int} {m : Nat} (hm : m ≤ 64) (h : growsI l m) : ∃ s : Nat, s < 2 ^ m ∧ l = listI s m := by
  obtain ⟨s, hs, he⟩ := bits_ex (fun i => decide ((i : Int) ∈ l)) m
  refine ⟨s, hs, inc_ext h.1 (listI_inc _ _) fun n => ?_⟩
  constructor
  · intro hn
    obtain ⟨h0, h1⟩ := h.2 n hn
    have e : n = ((n.toNat : Nat) : Int) := by omega
    rw [e, mem_listI (by omega), of_bit (by omega), he _ (by omega), ← e]
    exact decide_eq_true hn
  · intro hn
    unfold listI at hn
    rw [List.mem_map] at hn
    obtain ⟨i, hi, rfl⟩ := hn
    rw [List.mem_filter, List.mem_range] at hi
    have := he i hi.1
    rw [← of_bit (by omega), hi.2] at this
    exact of_decide_eq_true this.symm
theorem shl6 {m : Nat} (h : m ≤ 6) : IntKind.i64.wrap (1 * 2 ^ (min (m : Int).toNat 64)) = ((2 ^ m : Nat) : Int) := by
  have : m = 0 ∨ m = 1 ∨ m = 2 ∨ m = 3 ∨ m = 4 ∨ m = 5 ∨ m = 6 := by omega
  rcases this with rfl | rfl | rfl | rfl | rfl | rfl | rfl <;> decide
theorem bits6 : ∀ m : Nat, m < 7 → ∀ i : Nat, i < m → ofI (((2 ^ m : Nat) : Int) - 1) (i : Int) = true := by decide
theorem many_rid {b : DBook} (ho : okBook b) {s : Int} : totM b s b.horses.length = 0 ↔ ridP b (listI s b.horses.length) = true := by
  rw [totM_zero, rid_iff]
  refine forall_congr' fun i => forall_congr' fun k => forall_congr' fun hi => forall_congr' fun hk => ?_
  have e : ∀ j : Nat, j < b.horses.length → ofI s j = decide ((j : Int) ∈ listI s b.horses.length) := fun j hj => by
    rw [Bool.eq_iff_iff, decide_eq_true_eq, mem_listI hj]
  have hr := same_range ho i k
  have h0 : decide (0 < sameI b i k) = decide (sameI b i k ≠ 0) := decide_eq_decide.2 (by omega)
  unfold manyP leftP
  rw [e i (by omega), e k hk, h0]
theorem rDrop_sem (k : SK) (b : DBook) : Sem1 35 [.agg (bookC k b)] (if okBook b then .tup [pis (dropI b), pi 0] else .tup [pis [], pi 70]) := by
  by_cases ho : okBook b
  rotate_left
  · rw [if_neg ho]
    refine semC_of_exec' mixed Try.func35 (by kernel_rfl) (by kernel_rfl) ac35_ok 1 rfl (by decide) [(.tmp 2), (.tmp 3)] (by kernel_rfl) ?_
    intro hr C hC hI
    unfold ac35
    simp only [go_sem, Nat.reduceBEq, Nat.reduceAdd]
    refine call_pure2 hC (rCheck_sem k b) rfl (PVleL_refl _) ?_
    rintro r rfl
    simp only [go_sem, Nat.reduceBEq]
    rw [if_neg ho]
    exact ⟨fun _ => retQ_two_le rfl rfl (PVle.nil _ _ _) (PVle.refl _) rfl, fun h => absurd h (by decide)⟩
  have h6 := ho.2.1
  rw [if_pos ho]
  obtain ⟨g1, g2, g3⟩ := drop_facts b
  have w1 : IntKind.i64.wrap (((2 ^ b.horses.length : Nat) : Int) - 1) = ((2 ^ b.horses.length : Nat) : Int) - 1 := by
    have : b.horses.length = 1 ∨ b.horses.length = 2 ∨ b.horses.length = 3 ∨ b.horses.length = 4 ∨ b.horses.length = 5 ∨ b.horses.length = 6 := by omega
    rcases this with e | e | e | e | e | e <;> rw [e] <;> decide
  have hpow : 2 ^ b.horses.length ≤ 64 := Nat.pow_le_pow_right (n := 2) (by decide) (show b.horses.length ≤ 6 by omega)
  let bestS : Nat → List Int := fun s => (List.range s).foldl (fun m x => if shortB (listI (x : Nat) b.horses.length) m && decide (totM b (x : Nat) b.horses.length = 0) then listI (x : Nat) b.horses.length else m) (listI (((2 ^ b.horses.length : Nat) : Int) - 1) b.horses.length)
  have hbn : ∀ s, bestS (s + 1) = if shortB (listI (s : Nat) b.horses.length) (bestS s) && decide (totM b (s : Nat) b.horses.length = 0) then listI (s : Nat) b.horses.length else bestS s := fun s => by
    show (List.range (s + 1)).foldl _ _ = _
    rw [List.range_succ, List.foldl_append]
    rfl
  have hinv : ∀ s, growsI (bestS s) b.horses.length ∧ ridP b (bestS s) = true ∧ ∀ x : Nat, x < s → shortB (listI x b.horses.length) (bestS s) = true → ridP b (listI x b.horses.length) = false := by
    intro s
    induction s with
    | zero =>
      refine ⟨listI_grows .., ?_, fun x h => absurd h (by omega)⟩
      rw [rid_iff]
      intro i q hi hq
      have : (i : Int) ∈ listI (((2 ^ b.horses.length : Nat) : Int) - 1) b.horses.length := (mem_listI (by omega)).2 (bits6 _ (by omega) i (by omega))
      unfold leftP
      rw [show bestS 0 = listI (((2 ^ b.horses.length : Nat) : Int) - 1) b.horses.length from rfl, decide_eq_true this]
      rfl
    | succ s ih =>
      obtain ⟨i1, i2, i3⟩ := ih
      rw [hbn]
      by_cases hc : (shortB (listI (s : Nat) b.horses.length) (bestS s) && decide (totM b (s : Nat) b.horses.length = 0)) = true
      · rw [if_pos hc]
        rw [Bool.and_eq_true, decide_eq_true_eq, many_rid ho] at hc
        refine ⟨listI_grows .., hc.2, fun x hx hsh => ?_⟩
        by_cases e : x = s
        · subst e
          rw [shortB_irr] at hsh
          cases hsh
        · exact i3 x (by omega) (shortB_trans hsh hc.1)
      · rw [if_neg hc]
        refine ⟨i1, i2, fun x hx hsh => ?_⟩
        by_cases e : x = s
        · subst e
          rw [hsh, Bool.true_and, decide_eq_true_eq, many_rid ho] at hc
          simpa using hc
        · exact i3 x (by omega) hsh
  have hend : bestS (2 ^ b.horses.length) = dropI b := by
    obtain ⟨i1, i2, i3⟩ := hinv (2 ^ b.horses.length)
    refine shortB_total ?_ ?_
    · rw [Bool.eq_false_iff]
      intro h
      rw [g3 _ i1 h] at i2
      cases i2
    · rw [Bool.eq_false_iff]
      intro h
      obtain ⟨s, hs, e⟩ := grows_bits (by omega) g1
      rw [e] at h
      have := i3 s hs h
      rw [← e, g2] at this
      cases this
  have hb0 : listI (((2 ^ b.horses.length : Nat) : Int) - 1) b.horses.length = bestS 0 := rfl
  clear_value bestS
  refine semC_of_exec' mixed Try.func35 (by kernel_rfl) (by kernel_rfl) ac35_ok 1 rfl (by decide) [(.tmp 2), (.tmp 3)] (by kernel_rfl) ?_
  intro hr C hC hI
  unfold ac35
  simp only [go_sem, Nat.reduceBEq, Nat.reduceAdd]
  refine call_pure2 hC (rCheck_sem k b) rfl (PVleL_refl _) ?_
  rintro r rfl
  simp only [go_sem, Nat.reduceBEq]
  rw [if_pos ho]
  refine ⟨fun h => absurd rfl h, fun _ => ?_⟩
  simp only [go_sem, Nat.reduceBEq, List.length_map, bin_shl (show ¬ (b.horses.length : Int) < 0 by omega), shl6 (m := b.horses.length) (by omega), w1]
  refine call_pure2 hC (List_sem (((2 ^ b.horses.length : Nat) : Int) - 1) b.horses.length (by omega)) rfl (PVleL_refl _) ?_
  rintro r rfl
  simp only [go_sem, Nat.reduceBEq, hb0]
  refine loop_k (2 ^ b.horses.length) (fun _ => True) [1, 5] (fun s => [(6, .p (pis (bestS s))), (7, .p (pi s))]) trivial rfl ⟨rfl, by simp, by simp⟩ (by simp [wkT, look, AV.lo]) ?_
  rintro s ⟨hs, -⟩
  simp only [go_sem, Nat.reduceBEq, bin_shl (show ¬ (b.horses.length : Int) < 0 by omega), shl6 (m := b.horses.length) (by omega)]
  refine ⟨fun h5 => ?_, fun h5 => ?_⟩
  · have hs2 : s < 2 ^ b.horses.length := by omega
    have hn := hbn s
    refine call_pure2 hC (List_sem (s : Nat) b.horses.length (by omega)) rfl (PVleL_refl _) ?_
    rintro r rfl
    simp only [go_sem, Nat.reduceBEq]
    refine call_pure2 hC (Shorter_sem (listI (s : Nat) b.horses.length) (bestS s)) rfl (PVleL_refl _) ?_
    rintro r rfl
    simp only [go_sem, Nat.reduceBEq]
    cases hsh : shortB (listI (s : Nat) b.horses.length) (bestS s)
    · rw [hsh, Bool.false_and, if_neg (by decide)] at hn
      simp only [go_sem, Nat.reduceBEq, wrap_succ (k := s) (by omega)]
      refine ⟨⟨s + 1, hs2, trivial⟩, by simp only; omega, ?_⟩
      simp only [hn]
      exact by simp [Wk, wkT, wkL, look, AV.lo, AV.lo.loL, ABlk.toZ]
    · rw [hsh, Bool.true_and] at hn
      simp only [go_sem, Nat.reduceBEq, Nat.reduceAdd]
      refine call_pure2 hC (many_sem k ho (s : Nat)) rfl (PVleL_refl _) ?_
      rintro r rfl
      simp only [go_sem, Nat.reduceBEq]
      refine ⟨fun h9 => ?_, fun h9 => ?_⟩
      · rw [decide_eq_true (show totM b (s : Nat) b.horses.length = 0 by omega), if_pos rfl] at hn
        simp only [go_sem, wrap_succ (k := s) (by omega)]
        refine ⟨⟨s + 1, hs2, trivial⟩, by simp only; omega, ?_⟩
        simp only [hn]
        exact by simp [Wk, wkT, wkL, look, AV.lo, AV.lo.loL, ABlk.toZ]
      · rw [decide_eq_false (show ¬ totM b (s : Nat) b.horses.length = 0 by omega), if_neg (by decide)] at hn
        simp only [go_sem, wrap_succ (k := s) (by omega)]
        refine ⟨⟨s + 1, hs2, trivial⟩, by simp only; omega, ?_⟩
        simp only [hn]
        exact by simp [Wk, wkT, wkL, look, AV.lo, AV.lo.loL, ABlk.toZ]
  · have hsn : s = 2 ^ b.horses.length := by omega
    subst hsn
    rw [hend]
    exact retQ_two rfl rfl rfl
end Go.Proofs.Ythibnlfbdbidjaa
namespace Go.Proofs.Ythibnlfbdbidjaa
open Go.RowKit
theorem open_ne {b : DBook} (ho : okBook b) {h p : Nat} (hh : h < b.horses.length) (hp : p < nR b) : openF b h p ≠ 0 ↔ openB (hsI b h p) = true := by
  have hs := hs_set ho hh hp
  have e : (rowL b h 0).getD p 0 = hsI b h p := by rw [rowL_get ho hp, rowI_0 hp]
  unfold openF
  rw [e]
  unfold setB at hs
  cases openB (hsI b h p) <;> simp <;> omega
theorem mem_choice {b : DBook} (ho : okBook b) {h p : Nat} : (h, p) ∈ chL b 0 ↔ h < b.horses.length ∧ p < nR b ∧ openB (hsI b h p) = true := by
  rw [mem_chL]
  constructor
  · rintro ⟨hh, -, h0⟩
    exact ⟨hh, openF_lt h0, (open_ne ho hh (openF_lt h0)).1 h0⟩
  · rintro ⟨hh, hp, h0⟩
    obtain ⟨-, h8, -⟩ := okR ho
    exact ⟨hh, by omega, (open_ne ho hh hp).2 h0⟩
theorem known_choice {b : DBook} : knownB b = true ↔ chL b 0 = [] := by
  constructor
  · intro hk
    refine List.eq_nil_iff_forall_not_mem.2 ?_
    rintro ⟨h, p⟩ hm
    obtain ⟨hh, hp, h0⟩ := mem_chL.1 hm
    unfold knownB at hk
    exact h0 (knownH_iff.1 (List.all_eq_true.1 hk h (List.mem_range.2 hh)) p hp)
  · intro he
    cases hk : knownB b
    · exact absurd he (chL_ne hk)
    · rfl
def ltP (v w : Nat × Nat) : Prop := v.1 < w.1 ∨ v.1 = w.1 ∧ v.2 < w.2
theorem ltP_trans {u v w : Nat × Nat} (h1 : ltP u v) (h2 : ltP v w) : ltP u w := by
  unfold ltP at *
  omega
theorem chL_pw (b : DBook) : (chL b 0).Pairwise ltP := by
  unfold chL chIL
  simp only [List.drop_zero]
  rw [List.pairwise_flatMap]
  refine ⟨fun h _ => ?_, ?_⟩
  · rw [List.pairwise_map]
    exact (List.pairwise_lt_range.filter _).imp fun h => .inr ⟨rfl, h⟩
  · refine List.pairwise_lt_range.imp fun {i j} h => ?_
    intro x hx y hy
    obtain ⟨p, -, rfl⟩ := List.mem_map.1 hx
    obtain ⟨q, -, rfl⟩ := List.mem_map.1 hy
    exact .inl h
theorem best_facts (b : DBook) : ∀ (l : List (Nat × Nat)) (v : Nat × Nat), (v :: l).Pairwise ltP → bestF b v l ∈ v :: l ∧ ∀ c ∈ v :: l, worstI b (bestF b v l).1 (bestF b v l).2 < worstI b c.1 c.2 ∨ worstI b (bestF b v l).1 (bestF b v l).2 = worstI b c.1 c.2 ∧ (bestF b v l = c ∨ ltP (bestF b v l) c)
  | [], v, _ => by
    refine ⟨by simp [bestF], fun c hc => ?_⟩
    rw [List.mem_singleton] at hc
    subst hc
    exact .inr ⟨rfl, .inl rfl⟩
  | c :: l, v, hp => by
    obtain ⟨hv, hp1⟩ := List.pairwise_cons.1 hp
    obtain ⟨hc, hp2⟩ := List.pairwise_cons.1 hp1
    have hvc := hv c (List.mem_cons_self ..)
    have e : bestF b v (c :: l) = bestF b (if lessC b c v then c else v) l := rfl
    rw [e]
    cases hl : lessC b c v
    · rw [if_neg (by decide)]
      obtain ⟨h1, h2⟩ := best_facts b l v (List.pairwise_cons.2 ⟨fun d hd => hv d (List.mem_cons_of_mem _ hd), hp2⟩)
      have hge : ¬ worstI b c.1 c.2 < worstI b v.1 v.2 := of_decide_eq_false hl
      refine ⟨?_, fun d hd => ?_⟩
      · rcases List.mem_cons.1 h1 with h | h
        · exact List.mem_cons.2 (.inl h)
        · exact List.mem_cons_of_mem _ (List.mem_cons_of_mem _ h)
      · rcases List.mem_cons.1 hd with rfl | hd
        · exact h2 _ (List.mem_cons_self ..)
        rcases List.mem_cons.1 hd with rfl | hd
        · rcases h2 v (List.mem_cons_self ..) with h | ⟨h, h3⟩
          · exact .inl (by omega)
          · rcases Int.lt_or_le (worstI b v.1 v.2) (worstI b d.1 d.2) with h4 | h4
            · exact .inl (by omega)
            · refine .inr ⟨by omega, .inr ?_⟩
              rcases h3 with h3 | h3
              · rw [h3]; exact hvc
              · exact ltP_trans h3 hvc
        · exact h2 d (List.mem_cons_of_mem _ hd)
    · rw [if_pos rfl]
      obtain ⟨h1, h2⟩ := best_facts b l c hp1
      have hlt : worstI b c.1 c.2 < worstI b v.1 v.2 := of_decide_eq_true hl
      refine ⟨List.mem_cons_of_mem _ h1, fun d hd => ?_⟩
      rcases List.mem_cons.1 hd with rfl | hd
      · rcases h2 c (List.mem_cons_self ..) with h | ⟨h, -⟩
        · exact .inl (by omega)
        · exact .inl (by omega)
      · exact h2 d hd
theorem look_facts {b : DBook} (ho : okBook b) (hk : knownB b = false) : ∃ h p : Nat, lookI b = (h, p) ∧ h < b.horses.length ∧ p < nR b ∧ openB (hsI b h p) = true ∧
    ∀ i k, i < b.horses.length → k < nR b → openB (hsI b i k) = true → worstI b h p < worstI b i k ∨ worstI b h p = worstI b i k ∧ (h < i ∨ h = i ∧ p ≤ k) := by
  obtain ⟨v, zs, hl⟩ : ∃ v zs, chL b 0 = v :: zs := List.exists_cons_of_ne_nil (chL_ne hk)
  have hp := chL_pw b
  rw [hl] at hp
  have e : lookI b = bestF b v zs := by
    unfold lookI
    rw [hl]
    show bestF b (if lessC b v v then v else v) zs = _
    rw [ite_self]
  obtain ⟨h1, h2⟩ := best_facts b zs v hp
  obtain ⟨h, p, em⟩ : ∃ h p, bestF b v zs = (h, p) := ⟨_, _, rfl⟩
  rw [em] at h1 h2 e
  rw [← hl] at h1 h2
  obtain ⟨hh, hpp, hop⟩ := (mem_choice ho).1 h1
  refine ⟨h, p, e, hh, hpp, hop, fun i k hi hkk hik => ?_⟩
  rcases h2 (i, k) ((mem_choice ho).2 ⟨hi, hkk, hik⟩) with h3 | ⟨h3, h4⟩
  · exact .inl h3
  · refine .inr ⟨h3, ?_⟩
    rcases h4 with h4 | h4
    · rw [Prod.mk.injEq] at h4
      omega
    · unfold ltP at h4
      simp only at h4
      omega
def rowO (b : DBook) (h j : Nat) : Bool := (List.range j).any fun p => openB (hsI b h p)
def anyO (b : DBook) (i : Nat) : Bool := (List.range i).any fun h => rowO b h (nR b)
theorem rowO_next (b : DBook) (h j : Nat) : rowO b h (j + 1) = (rowO b h j || openB (hsI b h j)) := by
  unfold rowO
  rw [List.range_succ, List.any_append, List.any_cons, List.any_nil, Bool.or_false]
theorem anyO_next (b : DBook) (i : Nat) : anyO b (i + 1) = (anyO b i || rowO b i (nR b)) := by
  unfold anyO
  rw [List.range_succ, List.any_append, List.any_cons, List.any_nil, Bool.or_false]
theorem anyO_known {b : DBook} (ho : okBook b) : anyO b b.horses.length = !knownB b := by
  have h1 : anyO b b.horses.length = true ↔ chL b 0 ≠ [] := by
    unfold anyO rowO
    simp only [List.any_eq_true, List.mem_range]
    constructor
    · rintro ⟨h, hh, p, hp, hop⟩ he
      have := (mem_choice ho).2 ⟨hh, hp, hop⟩
      rw [he] at this
      exact absurd this (by simp)
    · intro hne
      obtain ⟨v, zs, hl⟩ := List.exists_cons_of_ne_nil hne
      have hm : (v.1, v.2) ∈ chL b 0 := by rw [hl]; exact List.mem_cons_self ..
      obtain ⟨hh, hp, hop⟩ := (mem_choice ho).1 hm
      exact ⟨_, hh, _, hp, hop⟩
  cases hk : knownB b
  · exact h1.2 (chL_ne hk)
  · cases ha : anyO b b.horses.length
    · rfl
    · exact absurd (known_choice.1 hk) (h1.1 ha)
end Go.Proofs.Ythibnlfbdbidjaa
namespace Go.Proofs.Ythibnlfbdbidjaa
open Go.RowKit
theorem lists_two (e : Nat) : listsL e 2 = (List.range e).flatMap fun i => (List.range (e - (i + 1))).map fun q => [(i : Int), ((i + 1 + q : Nat) : Int)] := by
  unfold listsL
  simp only [listsF]
  rw [List.flatMap_map]
  simp only [Nat.sub_zero, Nat.zero_add, List.nil_append]
  congr 1
  funext i
  rw [List.flatMap_map]
  simp only [List.singleton_append]
  rw [← List.map_eq_flatMap]
def rowC (b : DBook) (i j : Nat) : Nat := ((List.range j).filter fun q => decide (0 < kindJ b i (i + 1 + q))).length
def totC (b : DBook) (i : Nat) : Nat := ((List.range i).map fun x => rowC b x (b.horses.length - (x + 1))).sum
theorem rowC_next (b : DBook) (i j : Nat) : rowC b i (j + 1) = rowC b i j + if 0 < kindJ b i (i + 1 + j) then 1 else 0 := by
  unfold rowC
  rw [List.range_succ, List.filter_append, List.length_append]
  simp only [List.filter_cons, List.filter_nil]
  split <;> simp_all
theorem totC_next (b : DBook) (i : Nat) : totC b (i + 1) = totC b i + rowC b i (b.horses.length - (i + 1)) := by
  unfold totC
  rw [List.range_succ, List.map_append, List.sum_append]
  simp
theorem rowC_le (b : DBook) (i j : Nat) : rowC b i j ≤ j := by
  unfold rowC
  exact Nat.le_trans (List.length_filter_le ..) (by simp)
theorem totC_le {b : DBook} (h6 : b.horses.length ≤ 6) : ∀ i, i ≤ b.horses.length → totC b i ≤ 6 * i
  | 0, _ => by simp [totC]
  | i + 1, h => by
    have ih := totC_le h6 i (by omega)
    have := rowC_le b i (b.horses.length - (i + 1))
    rw [totC_next]
    omega
theorem clash_tot {b : DBook} (ho : okBook b) : clashI b = totC b b.horses.length := by
  unfold clashI totC
  rw [lists_two, List.countP_flatMap]
  congr 1
  refine List.map_congr_left fun i _ => ?_
  show List.countP (clashP b) ((List.range (b.horses.length - (i + 1))).map fun q => [(i : Int), ((i + 1 + q : Nat) : Int)]) = rowC b i _
  rw [List.countP_map, List.countP_eq_length_filter]
  unfold rowC
  congr 1
  refine List.filter_congr fun q _ => ?_
  show clashP b [(i : Int), ((i + 1 + q : Nat) : Int)] = _
  unfold clashP
  rw [pairP_two]
  have := same_range ho i (i + 1 + q)
  unfold kindJ
  rw [if_neg (by omega)]
  refine decide_eq_decide.2 ?_
  omega
theorem list_sizes {b : DBook} (ho : okBook b) {h p : Nat} (hh : h < b.horses.length) (hp : p < nR b) : listI (hsI b h p) 4 = natL (sizesL (hsI b h p)) := by
  unfold listI natL sizesL
  congr 1
  refine List.filter_congr fun s hs => of_has (hs_set ho hh hp) (List.mem_range.1 hs)
theorem worst_row {b : DBook} (ho : okBook b) {h p : Nat} (hp : p < nR b) : (rowL b h p).getD 0 0 = hsI b h p := by
  rw [rowL_get ho (by omega), rowI_hs, Nat.zero_add, Nat.mod_eq_of_lt hp]
end Go.Proofs.Ythibnlfbdbidjaa
namespace Go.Proofs.Ythibnlfbdbidjaa
open Go.RowKit
/-- All rows of so many sizes, the first one first. -/
def sufs : Nat → List (List Int)
  | 0 => [[]]
  | r + 1 => (List.range 4).flatMap fun (s : Nat) => (sufs r).map fun t => (s : Int) :: t
def leftF (w : Nat → Nat → Nat) : Nat → List Int → Nat → Nat
  | _, [], m => m
  | p, s :: t, m => leftF w (p + 1) t (m &&& w p s.toNat)
theorem filter_flat {α β : Type} (p : β → Bool) (f : α → List β) : ∀ l : List α, (l.flatMap f).filter p = l.flatMap fun x => (f x).filter p
  | [] => rfl
  | x :: l => by rw [List.flatMap_cons, List.flatMap_cons, List.filter_append, filter_flat p f l]
theorem map_flat {α β γ : Type} (g : β → γ) (f : α → List β) : ∀ l : List α, (l.flatMap f).map g = l.flatMap fun x => (f x).map g
  | [] => rfl
  | x :: l => by rw [List.flatMap_cons, List.flatMap_cons, List.map_append, map_flat g f l]
theorem freeF_eq (w : Nat → Nat → Nat) : ∀ (r : Nat) (l : List Int) (m : Nat), freeF w r l m = ((sufs r).filter fun t => decide (leftF w l.length t m = 0)).map fun t => l ++ t
  | 0, l, m => by
    unfold freeF sufs
    by_cases h : m = 0
    · simp [leftF, h]
    · simp [leftF, h]
  | r + 1, l, m => by
    unfold freeF sufs
    rw [filter_flat, map_flat]
    congr 1
    funext s
    rw [freeF_eq w r, List.filter_map, List.map_map, List.length_append, List.length_singleton]
    have e : (fun t => decide (leftF w l.length t m = 0)) ∘ (fun t => (s : Int) :: t) = fun t => decide (leftF w (l.length + 1) t (m &&& w l.length s) = 0) := by
      funext t
      show decide (leftF w (l.length + 1) t (m &&& w l.length ((s : Int).toNat)) = 0) = _
      rw [Int.toNat_natCast]
    rw [e]
    congr 1
    funext t
    simp
theorem mem_sufs : ∀ {r : Nat} {t : List Int}, t ∈ sufs r ↔ t.length = r ∧ ∀ x ∈ t, 0 ≤ x ∧ x ≤ 3
  | 0, t => by
    unfold sufs
    rw [List.mem_singleton]
    constructor
    · rintro rfl; simp
    · rintro ⟨h, -⟩; exact List.eq_nil_of_length_eq_zero h
  | r + 1, t => by
    unfold sufs
    rw [List.mem_flatMap]
    constructor
    · rintro ⟨s, hs, ht⟩
      obtain ⟨u, hu, rfl⟩ := List.mem_map.1 ht
      obtain ⟨h1, h2⟩ := mem_sufs.1 hu
      have hs := List.mem_range.1 hs
      refine ⟨by simp [h1], fun x hx => ?_⟩
      rcases List.mem_cons.1 hx with rfl | hx
      · omega
      · exact h2 x hx
    · rintro ⟨h1, h2⟩
      cases t with
      | nil => simp at h1
      | cons x u =>
        have hx := h2 x (by simp)
        refine ⟨x.toNat, List.mem_range.2 (by omega), List.mem_map.2 ⟨u, mem_sufs.2 ⟨by simpa using h1, fun y hy => h2 y (by simp [hy])⟩, ?_⟩⟩
        rw [show ((x.toNat : Nat) : Int) = x by omega]
theorem sufs_pw : ∀ r : Nat, (sufs r).Pairwise fun a b => lexB a b = true
  | 0 => by unfold sufs; exact List.pairwise_singleton _ _
  | r + 1 => by
    unfold sufs
    rw [List.pairwise_flatMap]
    constructor
    · intro s _
      rw [List.pairwise_map]
      exact (sufs_pw r).imp fun {a b} h => by simp [lexB, h]
    · refine (List.pairwise_lt_range (n := 4)).imp fun {a b} hab x hx y hy => ?_
      obtain ⟨u, -, rfl⟩ := List.mem_map.1 hx
      obtain ⟨v, -, rfl⟩ := List.mem_map.1 hy
      simp only [lexB]
      rw [if_neg (by omega)]
      simp; omega
theorem left_bit (w : Nat → Nat → Nat) (q : Nat) : ∀ (t : List Int) (p m : Nat), (leftF w p t m).testBit q = true ↔ m.testBit q = true ∧ ∀ i, i < t.length → (w (p + i) (t.getD i 0).toNat).testBit q = true
  | [], p, m => by simp [leftF]
  | s :: t, p, m => by
    unfold leftF
    rw [left_bit w q t, Nat.testBit_and, Bool.and_eq_true]
    constructor
    · rintro ⟨⟨h1, h2⟩, h3⟩
      refine ⟨h1, fun i hi => ?_⟩
      cases i with
      | zero => simpa using h2
      | succ i =>
        have := h3 i (by simpa using hi)
        rw [show p + 1 + i = p + (i + 1) by omega] at this
        simpa using this
    · rintro ⟨h1, h2⟩
      refine ⟨⟨h1, by simpa using h2 0 (by simp)⟩, fun i hi => ?_⟩
      have := h2 (i + 1) (by simpa using hi)
      rw [show p + (i + 1) = p + 1 + i by omega] at this
      simpa using this
theorem own_bit {b : DBook} (p s q : Nat) : ∀ (l : List (Nat × Nat)) (m : Nat), (l.foldl (addO b p s) m).testBit q = true ↔ m.testBit q = true ∨ ∃ v ∈ l, ownK v = q ∧ hasS ((rowL b v.1 v.2).getD p 0) s = true
  | [], m => by simp
  | v :: l, m => by
    rw [List.foldl_cons, own_bit p s q l]
    have e : (addO b p s m v).testBit q = true ↔ m.testBit q = true ∨ (ownK v = q ∧ hasS ((rowL b v.1 v.2).getD p 0) s = true) := by
      unfold addO
      split
      · rename_i h
        rw [Nat.testBit_or, Bool.or_eq_true, Nat.testBit_two_pow, decide_eq_true_eq]
        exact or_congr Iff.rfl ⟨fun e => ⟨e, h⟩, fun e => e.1⟩
      · rename_i h
        exact ⟨.inl, fun e => e.elim id fun e => absurd e.2 h⟩
    rw [e]
    simp only [List.mem_cons, exists_eq_or_imp]
    exact or_assoc
theorem ownW_bit {b : DBook} (p s q : Nat) : (ownW b p s).testBit q = true ↔ ∃ v ∈ viewsL b, ownK v = q ∧ hasS ((rowL b v.1 v.2).getD p 0) s = true := by
  unfold ownW ownF
  rw [List.take_length, own_bit]
  simp
theorem mem_views2 {b : DBook} {v : Nat × Nat} (h : v ∈ viewsL b) : v.1 < b.horses.length ∧ v.2 < nR b := by
  obtain ⟨i, hi, rfl⟩ := List.mem_iff_getElem.1 h
  obtain ⟨hh, t, e, h1, h2⟩ := views_get hi
  rw [e]
  exact ⟨h1, h2⟩
theorem ownK_inj {b : DBook} (ho : okBook b) {v u : Nat × Nat} (hv : v ∈ viewsL b) (hu : u ∈ viewsL b) (h : ownK v = ownK u) : v = u := by
  have h8 := (okR ho).2.1
  have := mem_views2 hv
  have := mem_views2 hu
  unfold ownK at h
  exact Prod.ext (by omega) (by omega)
/-- Can a horse have a row, read from a turn on? -/
def hasR (b : DBook) (h t : Nat) (r : List Int) : Prop := ∀ p, p < nR b → hasS (rowI b h t p) (r.getD p 0).toNat = true
theorem left_zero {b : DBook} (ho : okBook b) {r : List Int} (hl : r.length = nR b) : leftF (ownW b) 0 r (2 ^ 64 - 1) = 0 ↔ ∀ h t, h < b.horses.length → t < nR b → ¬ hasR b h t r := by
  obtain ⟨h1, h8, hn⟩ := okR ho
  constructor
  · intro h0 h t hh ht hr
    have hv := mem_views hh ht
    have hb : (leftF (ownW b) 0 r (2 ^ 64 - 1)).testBit (ownK (h, t)) = true := by
      rw [left_bit]
      refine ⟨?_, fun i hi => ?_⟩
      · rw [Nat.testBit_two_pow_sub_one]; exact decide_eq_true (ownK_lt ho hv)
      · rw [ownW_bit]
        refine ⟨(h, t), hv, rfl, ?_⟩
        rw [Nat.zero_add, rowL_get ho (by omega)]
        exact hr i (by omega)
    rw [h0, Nat.zero_testBit] at hb
    cases hb
  · intro H
    apply Nat.eq_of_testBit_eq
    intro q
    rw [Nat.zero_testBit, Bool.eq_false_iff]
    intro hb
    obtain ⟨hq, hall⟩ := (left_bit _ _ _ _ _).1 hb
    obtain ⟨v, hv, e, -⟩ := (ownW_bit _ _ _).1 (hall 0 (by omega))
    obtain ⟨hh, ht⟩ := mem_views2 hv
    refine H v.1 v.2 hh ht fun p hp => ?_
    obtain ⟨u, hu, e2, hs⟩ := (ownW_bit _ _ _).1 (hall p (by omega))
    have : u = v := ownK_inj ho hu hv (e2.trans e.symm)
    subst this
    rw [Nat.zero_add, rowL_get ho hp] at hs
    exact hs
theorem known_get {r : List Int} {q : Nat} (hq : q < r.length) (h8 : r.length ≤ 8) : (knownN r).getD q 0 = 2 ^ (r.getD q 0).toNat := by
  unfold knownN arrN
  rw [List.getD_eq_getElem?_getD, List.getElem?_map, List.getElem?_range (by omega)]
  show (if q < r.length then (2 : Int) ^ (r.getD q 0).toNat else 0) = _
  rw [if_pos hq]
theorem whose_iff {b : DBook} (ho : okBook b) {r : List Int} (hl : r.length = nR b) {h : Nat} : whoseP b (knownN r) h = true ↔ ∃ t, t < nR b ∧ hasR b h t r := by
  obtain ⟨h1, h8, hn⟩ := okR ho
  unfold whoseP
  rw [Bool.not_eq_true', List.isEmpty_eq_false_iff]
  have key : ∀ t, t < nR b → (fitB b meetB h (knownN r) t = true ↔ hasR b h t r) := by
    intro t _
    unfold fitB hasR
    rw [List.all_eq_true]
    constructor
    · intro H p hp
      have := H p (List.mem_range.2 hp)
      rw [known_get (by omega) (by omega)] at this
      exact this
    · intro H p hp
      have hp := List.mem_range.1 hp
      rw [known_get (by omega) (by omega)]
      exact H p hp
  unfold turnsP
  constructor
  · intro hne
    obtain ⟨t, ht⟩ := List.exists_mem_of_ne_nil _ hne
    rw [List.mem_filter, List.mem_range] at ht
    exact ⟨t, ht.1, (key t ht.1).1 ht.2⟩
  · rintro ⟨t, ht, hr⟩
    exact List.ne_nil_of_mem (List.mem_filter.2 ⟨List.mem_range.2 ht, (key t ht).2 hr⟩)
theorem mem_whose {b : DBook} {g : List Int} {h : Nat} : h ∈ whoseI b g ↔ h < b.horses.length ∧ whoseP b g h = true := by
  unfold whoseI
  rw [List.mem_filter, List.mem_range]
/-- Nobody's row. -/
theorem whose_nil {b : DBook} (ho : okBook b) {r : List Int} (hl : r.length = nR b) : whoseI b (knownN r) = [] ↔ leftF (ownW b) 0 r (2 ^ 64 - 1) = 0 := by
  rw [left_zero ho hl, List.eq_nil_iff_forall_not_mem]
  constructor
  · intro H h t hh ht hr
    exact H h (mem_whose.2 ⟨hh, (whose_iff ho hl).2 ⟨t, ht, hr⟩⟩)
  · intro H h hm
    obtain ⟨hh, hw⟩ := mem_whose.1 hm
    obtain ⟨t, ht, hr⟩ := (whose_iff ho hl).1 hw
    exact H h t hh ht hr
theorem free_eq {b : DBook} (ho : okBook b) : freeL b = (sufs (nR b)).filter fun t => decide (whoseI b (knownN t) = []) := by
  unfold freeL
  rw [freeF_eq]
  simp only [List.length_nil, List.nil_append, List.map_id']
  refine List.filter_congr fun t ht => ?_
  rw [decide_eq_decide]
  exact (whose_nil ho (mem_sufs.1 ht).1).symm
theorem free_none {b : DBook} (ho : okBook b) (h : freeL b = []) {t : List Int} (ht : t ∈ sufs (nR b)) : whoseI b (knownN t) ≠ [] := by
  rw [free_eq ho, List.filter_eq_nil_iff] at h
  have := h t ht
  simpa using this
theorem free_first {b : DBook} (ho : okBook b) {z : List Int} {zs : List (List Int)} (h : freeL b = z :: zs) : z ∈ sufs (nR b) ∧ whoseI b (knownN z) = [] ∧ ∀ t ∈ sufs (nR b), lexB t z = true → whoseI b (knownN t) ≠ [] := by
  rw [free_eq ho, List.filter_eq_cons_iff] at h
  obtain ⟨l1, l2, e, h1, h2, -⟩ := h
  have hp := sufs_pw (nR b)
  rw [e] at hp ⊢
  refine ⟨by simp, by simpa using h2, fun t ht hlt => ?_⟩
  rcases List.mem_append.1 ht with ht | ht
  · have := h1 t ht; simpa using this
  · exfalso
    rcases List.mem_cons.1 ht with rfl | ht
    · rw [lexB_irr] at hlt; cases hlt
    · rw [List.pairwise_append] at hp
      have := (List.pairwise_cons.1 hp.2.1).1 t ht
      have := lexB_trans this hlt
      rw [lexB_irr] at this; cases this
end Go.Proofs.Ythibnlfbdbidjaa
namespace Go.Proofs.Ythibnlfbdbidjaa
open Go.RowKit
theorem know_R (b : DBook) (h p s : Nat) : nR (knowB b h p s) = nR b := rfl
theorem know_len (b : DBook) (h p s : Nat) : (knowB b h p s).horses.length = b.horses.length := by simp [knowB]
theorem know_hs {b : DBook} {h p s i q : Nat} (hi : i < b.horses.length) (hq : q < nR b) : hsI (knowB b h p s) i q = if (i, q) = (h, p) then 2 ^ s else hsI b i q := by
  unfold hsI
  have e1 : (knowB b h p s).horses.getD i [] = knowR b h p s i (nR b) := by
    unfold knowB knowR
    simp [List.getD_eq_getElem?_getD, List.getElem?_range hi]
  rw [e1]
  unfold knowR
  rw [List.getD_eq_getElem?_getD, List.getElem?_map, List.getElem?_range hq]
  rfl
set_option maxRecDepth 100000 in
theorem pow_tab : ∀ s t : Fin 4, hasS (2 ^ s.val) t.val = decide (t = s) := by decide
theorem pow_has {s t : Nat} (hs : s < 4) (ht : t < 4) : hasS (2 ^ s) t = true ↔ t = s := by
  have := pow_tab ⟨s, hs⟩ ⟨t, ht⟩
  simp only at this
  rw [this, decide_eq_true_eq, Fin.mk.injEq]
set_option maxRecDepth 100000 in
theorem one_tab : ∀ i : Fin 15, ∀ s : Fin 4, openB ((i.val : Int) + 1) = false → hasS ((i.val : Int) + 1) s.val = true → (i.val : Int) + 1 = 2 ^ s.val := by decide
theorem one_has {x : Int} (hx : setB x) {s : Nat} (hs : s < 4) (h1 : openB x = false) (h2 : hasS x s = true) : x = 2 ^ s := by
  obtain ⟨i, rfl⟩ := setB_cases hx
  exact one_tab i ⟨s, hs⟩ h1 h2
/-- Less sizes are left. -/
theorem know_sub {b : DBook} {h p s : Nat} (hs : s < 4) (hin : hasS (hsI b h p) s = true) {i q t : Nat} (hi : i < b.horses.length) (hq : q < nR b) (ht : t < 4) (H : hasS (hsI (knowB b h p s) i q) t = true) : hasS (hsI b i q) t = true := by
  rw [know_hs hi hq] at H
  split at H
  · rename_i e
    cases e
    rw [(pow_has hs ht).1 H]
    exact hin
  · exact H
section
variable {b : DBook} (ho : okBook b) {h p s : Nat} (hh : h < b.horses.length) (hp : p < nR b) (hs : s < 4) (hin : hasS (hsI b h p) s = true)
include ho hh hp hs hin
theorem know_meet {i q j r : Nat} (hi : i < b.horses.length) (hq : q < nR b) (hj : j < b.horses.length) (hr : r < nR b) (H : meetB (hsI (knowB b h p s) i q) (hsI (knowB b h p s) j r) = true) : meetB (hsI b i q) (hsI b j r) = true := by
  have _ := hh
  have _ := hp
  have hx := knowB_ok ho h p hs
  have hl := know_len b h p s
  obtain ⟨t, ht, h1, h2⟩ := (meet_iff (hs_set hx (by omega) hq) (hs_set hx (by omega) hr)).1 H
  exact (meet_iff (hs_set ho hi hq) (hs_set ho hj hr)).2 ⟨t, ht, know_sub hs hin hi hq ht h1, know_sub hs hin hj hr ht h2⟩
theorem know_turns {i k : Nat} (hi : i < b.horses.length) (hk : k < b.horses.length) (H : turnsI (knowB b h p s) i k ≠ []) : turnsI b i k ≠ [] := by
  have hx := knowB_ok ho h p hs
  obtain ⟨t, ht⟩ := List.exists_mem_of_ne_nil _ H
  obtain ⟨h1, h2⟩ := (mem_turns hx).1 ht
  refine List.ne_nil_of_mem ((mem_turns ho).2 ⟨h1, fun q hq => ?_⟩)
  have hR : (q + t) % nR b < nR b := Nat.mod_lt _ (by omega)
  exact know_meet ho hh hp hs hin hi hR hk hq (h2 q hq)
theorem know_zero {i k : Nat} (hi : i < b.horses.length) (hk : k < b.horses.length) (H : sameI b i k = 0) : sameI (knowB b h p s) i k = 0 := by
  have hx := knowB_ok ho h p hs
  have hl := know_len b h p s
  refine Decidable.not_not.1 fun hne => ?_
  have := (same_pos hx (by omega) (by omega)).1 hne
  exact (same_pos ho hi hk).2 (know_turns ho hh hp hs hin hi hk this) H
theorem know_same (hk : openB (hsI b h p) = false) {i q : Nat} (hi : i < b.horses.length) (hq : q < nR b) : hsI (knowB b h p s) i q = hsI b i q := by
  rw [know_hs hi hq]
  split
  · rename_i e
    cases e
    exact (one_has (hs_set ho hh hp) hs hk hin).symm
  · rfl
theorem know_two {i k : Nat} (hi : i < b.horses.length) (hk : k < b.horses.length) (H : sameI b i k = 2) : sameI (knowB b h p s) i k = 2 := by
  have hx := knowB_ok ho h p hs
  have hl := know_len b h p s
  obtain ⟨h1, h2, h3⟩ := (same_two ho hi hk).1 H
  have hrow : ∀ x, x < b.horses.length → allK b x → ∀ q, q < nR b → hsI (knowB b h p s) x q = hsI b x q := by
    intro x hx2 hkx q hq
    rw [know_hs hx2 hq]
    split
    · rename_i e
      cases e
      exact (one_has (hs_set ho hh hp) hs (hkx _ hp) hin).symm
    · rfl
  refine (same_two hx (by omega) (by omega)).2 ⟨?_, fun q hq => ?_, fun q hq => ?_⟩
  · obtain ⟨t, ht⟩ := List.exists_mem_of_ne_nil _ h1
    obtain ⟨g1, g2⟩ := (mem_turns ho).1 ht
    refine List.ne_nil_of_mem ((mem_turns hx).2 ⟨g1, fun q hq => ?_⟩)
    have hR : (q + t) % nR b < nR b := Nat.mod_lt _ (by omega)
    have := g2 q hq
    rw [know_R]
    rw [hrow i hi h2 _ hR, hrow k hk h3 _ hq]
    exact this
  · rw [hrow i hi h2 q hq]; exact h2 q hq
  · rw [hrow k hk h3 q hq]; exact h3 q hq
theorem know_whose {r : List Int} (hr : r ∈ sufs (nR b)) {i : Nat} (H : i ∈ whoseI (knowB b h p s) (knownN r)) : i ∈ whoseI b (knownN r) := by
  have _ := hh
  have _ := hp
  have hx := knowB_ok ho h p hs
  have hl := know_len b h p s
  obtain ⟨r1, r2⟩ := mem_sufs.1 hr
  obtain ⟨h1, h2⟩ := mem_whose.1 H
  obtain ⟨t, ht, hR⟩ := (whose_iff hx r1).1 h2
  refine mem_whose.2 ⟨by omega, (whose_iff ho r1).2 ⟨t, ht, fun q hq => ?_⟩⟩
  have h3 := hR q hq
  rw [rowI_hs] at h3 ⊢
  have hq2 : (q + t) % nR b < nR b := Nat.mod_lt _ (by omega)
  have hx3 : 0 ≤ r.getD q 0 ∧ r.getD q 0 ≤ 3 := by
    rw [List.getD_eq_getElem?_getD, List.getElem?_eq_getElem (show q < r.length by omega)]
    exact r2 _ (List.getElem_mem _)
  exact know_sub hs hin (by omega) hq2 (by omega) h3
theorem know_new {z : List Int} {zs : List (List Int)} (H : freeL b = z :: zs) : ∃ y ys, freeL (knowB b h p s) = y :: ys ∧ lexB z y = false := by
  have hx := knowB_ok ho h p hs
  obtain ⟨h1, h2, -⟩ := free_first ho H
  have hz : whoseI (knowB b h p s) (knownN z) = [] := by
    rw [List.eq_nil_iff_forall_not_mem]
    intro i hi
    have := know_whose ho hh hp hs hin h1 hi
    rw [h2] at this
    exact absurd this (by simp)
  cases hf : freeL (knowB b h p s) with
  | nil => exact absurd hz (free_none hx hf h1)
  | cons y ys =>
    refine ⟨y, ys, rfl, ?_⟩
    rw [Bool.eq_false_iff]
    intro hlt
    exact (free_first hx hf).2.2 z h1 hlt hz
theorem know_drop : (dropI (knowB b h p s)).length ≤ (dropI b).length := by
  have hl := know_len b h p s
  obtain ⟨g1, g2, -⟩ := drop_facts b
  obtain ⟨-, -, g3⟩ := drop_facts (knowB b h p s)
  rw [hl] at g3
  have hr : ridP (knowB b h p s) (dropI b) = true := by
    rw [rid_iff] at g2 ⊢
    intro i k hi hk
    rw [hl] at hk
    have := g2 i k hi hk
    unfold leftP at this ⊢
    by_cases h0 : sameI b i k = 0
    · rw [know_zero ho hh hp hs hin (by omega) hk h0]
      simp
    · rw [decide_eq_true h0, Bool.and_true] at this
      rw [this]
      rfl
  refine Decidable.byContradiction fun hlt => ?_
  have hs2 : shortB (dropI b) (dropI (knowB b h p s)) = true := by
    unfold shortB
    rw [if_neg (by omega)]
    exact decide_eq_true (by omega)
  rw [g3 _ g1 hs2] at hr
  cases hr
end
set_option maxRecDepth 100000 in
theorem self_tab : ∀ i : Fin 15, meetB ((i.val : Int) + 1) ((i.val : Int) + 1) = true := by decide
theorem take_known {b : DBook} (ho : okBook b) {h p : Nat} (hh : h < b.horses.length) (hp : p < nR b) (n : Int) : ∃ s : Nat, takeL (listI (hsI b h p) 4) n = s ∧ s < 4 ∧ hasS (hsI b h p) s = true := by
  have hset := hs_set ho hh hp
  have hne : 0 < (listI (hsI b h p) 4).length := by
    obtain ⟨s, hs, h1, -⟩ := (meet_iff hset hset).1 (by
      obtain ⟨i, hi⟩ := setB_cases hset
      rw [hi]
      exact self_tab i)
    have : (s : Int) ∈ listI (hsI b h p) 4 := (mem_listI hs).2 (by rw [of_has hset hs]; exact h1)
    exact List.length_pos_of_mem this
  have hr := rndI_range (n := n) (m := (listI (hsI b h p) 4).length) (by omega)
  have hlt : (rndI n (listI (hsI b h p) 4).length).toNat < (listI (hsI b h p) 4).length := by omega
  have e : takeL (listI (hsI b h p) 4) n = (listI (hsI b h p) 4)[(rndI n (listI (hsI b h p) 4).length).toNat] := by
    unfold takeL
    simp [List.getD_eq_getElem?_getD, List.getElem?_eq_getElem hlt]
  have hm := List.getElem_mem hlt
  rw [← e] at hm
  generalize takeL (listI (hsI b h p) 4) n = x at hm ⊢
  unfold listI at hm
  obtain ⟨s, hs, rfl⟩ := List.mem_map.1 hm
  rw [List.mem_filter, List.mem_range] at hs
  refine ⟨s, rfl, hs.1, ?_⟩
  rw [← of_has hset hs.1]
  exact hs.2
end Go.Proofs.Ythibnlfbdbidjaa
namespace Go.Proofs.Ythibnlfbdbidjaa
open Go.RowKit
def ac55 : AC := (AC.seq (AC.ops [(AOp.mk (some 4) (AK.box 2 (AX.t 0)) none 0 false true), (AOp.mk (some 8) (AK.new (PV.agg [(PV.val (Value.int IntKind.i64 0)), (PV.sl SK.full 0 [])])) none 1 false true)]) (AC.seq (AC.ops [(AOp.mk (some 10) (AK.ld (some 2) (AX.t 4)) none 0 false true), (AOp.mk (some 9) (AK.new (PV.agg [(PV.val (Value.int IntKind.i64 0)), (PV.sl SK.full 0 [])])) none 1 false true), (AOp.mk none (AK.st 2 (AX.t 9) (AX.t 10)) none 2 false true)]) (AC.seq (AC.ops [(AOp.mk (some 11) (AK.bslice false 26 1 0 [(PV.sl SK.full 0 [])] []) none 0 false true), (AOp.mk (some 12) (AK.fadr 1 (AX.t 4)) none 1 false true), (AOp.mk (some 13) (AK.ld none (AX.t 12)) none 2 false true), (AOp.mk (some 14) (AK.app true 26 1 24 [(PV.sl SK.full 0 [])] (AX.t 11) (AX.t 13)) none 3 false true), (AOp.mk (some 15) (AK.fadr 1 (AX.t 9)) none 4 false true), (AOp.mk none (AK.st 1 (AX.t 15) (AX.t 14)) none 5 false true)]) (AC.seq (AC.ops [(AOp.mk (some 16) (AK.fadr 1 (AX.t 9)) none 0 true false), (AOp.mk (some 17) (AK.ld none (AX.t 16)) none 1 true false), (AOp.mk (some 18) (AK.mv (AX.t 1)) none 2 true false), (AOp.mk (some 20) (AK.fadr 1 (AX.t 4)) none 4 true false), (AOp.mk (some 21) (AK.ld none (AX.t 20)) none 5 true false), (AOp.mk (some 22) (AK.mv (AX.t 1)) none 6 true false), (AOp.mk (some 23) (AK.iadrS 1 (AX.t 21) (AX.t 22)) none 7 true false), (AOp.mk (some 24) (AK.ld none (AX.t 23)) none 8 true false), (AOp.mk (some 19) (AK.bslice false 3 1 0 [(PV.val (Value.int IntKind.i64 0))] []) none 3 false false), (AOp.mk (some 25) (AK.app true 3 1 8 [(PV.val (Value.int IntKind.i64 0))] (AX.t 19) (AX.t 24)) none 9 false false), (AOp.mk (some 26) (AK.iadrS 1 (AX.t 17) (AX.t 18)) none 10 true true), (AOp.mk none (AK.st 1 (AX.t 26) (AX.t 25)) none 11 false true)]) (AC.seq (AC.ops [(AOp.mk (some 27) (AK.fadr 1 (AX.t 9)) none 0 true false), (AOp.mk (some 28) (AK.ld none (AX.t 27)) none 1 true false), (AOp.mk (some 29) (AK.mv (AX.t 1)) none 2 true false), (AOp.mk (some 30) (AK.iadrS 1 (AX.t 28) (AX.t 29)) none 3 true false), (AOp.mk (some 31) (AK.ld none (AX.t 30)) none 4 true false), (AOp.mk (some 32) (AK.mv (AX.t 2)) none 5 true false), (AOp.mk (some 33) (AK.mv (AX.t 3)) none 6 true false), (AOp.mk (some 34) (AK.bin false BinOp.shl (AX.c (PV.val (Value.int IntKind.i64 1))) (AX.t 33)) none 7 true false), (AOp.mk (some 35) (AK.iadrS 1 (AX.t 31) (AX.t 32)) none 8 true true), (AOp.mk none (AK.st 1 (AX.t 35) (AX.t 34)) none 9 false true)]) (AC.seq (AC.ops [(AOp.mk (some 36) (AK.ld (some 2) (AX.t 9)) none 0 false true), (AOp.mk none (AK.st 2 (AX.t 8) (AX.t 36)) none 1 false true)]) AC.ret))))))
theorem ac55_ok : cCode Try.prog (fun d => d == 14 || d == 25) Try.f55.ntmps (Try.f55.body.getD .skip) = some ac55 := by kernel_rfl
theorem purL_ps : ∀ (xs : List PV) (f : Nat) (L : List ABlk) (r : List AV) (l : List PV) (L' : List ABlk), purL f L r = some (l, L') → purL (f + xs.length) L (xs.map .p ++ r) = some (xs ++ l, L')
  | [], f, L, r, l, L', h => h
  | x :: xs, f, L, r, l, L', h => by
    have ih := purL_ps xs f L r l L' h
    have hf : f ≠ 0 := by rintro rfl; simp [purL] at h
    obtain ⟨g, hg⟩ : ∃ g, f + xs.length = g + 1 := ⟨f + xs.length - 1, by omega⟩
    rw [List.length_cons, ← Nat.add_assoc, hg]
    rw [hg] at ih
    show purL (g + 1 + 1) L (.p x :: (xs.map .p ++ r)) = _
    simp only [purL, pur]
    rw [ih]
    rfl
theorem purL_all (xs : List PV) {f : Nat} (L : List ABlk) (h : xs.length < f) : purL f L (xs.map .p) = some (xs, L) := by
  have h2 := purL_ps xs (f - xs.length) L [] [] L (by
    obtain ⟨g, hg⟩ : ∃ g, f - xs.length = g + 1 := ⟨f - xs.length - 1, by omega⟩
    rw [hg]; rfl)
  rw [List.append_nil, List.append_nil, Nat.sub_add_cancel (by omega)] at h2
  exact h2
theorem rows_one : ∀ (l : List PV), rows 1 l.length l = l.map fun x => [x]
  | [] => rfl
  | x :: l => by simp [rows, rows_one l]
theorem pur_two {L : List ABlk} {us ds l2 : List PV} {i j m n f : Nat} (hij : i ≠ j) (h3 : L[i]? = some (.cells (us.map .p ++ (.sli j m 1 :: ds.map .p)))) (h4 : L[j]? = some (.cells (l2.map .p))) (hm : l2.length = m) (hn : us.length + 1 + ds.length = n) (hf : us.length + ds.length + l2.length + 5 < f) :
    ∃ L', pur f L (.sli i n 1) = some (.sl .sh 1 ((us ++ .sl .sh 1 (l2.map fun x => [x]) :: ds).map fun x => [x]), L') := by
  obtain ⟨g, rfl⟩ : ∃ g, f = g + us.length + 1 + 1 := ⟨f - us.length - 2, by omega⟩
  obtain ⟨e, rfl⟩ : ∃ e, g = e + 1 := ⟨g - 1, by omega⟩
  have p4 : pur (e + 1) L (.sli j m 1) = some (.sl .sh 1 (l2.map fun x => [x]), L.set j (.frz l2)) := by
    simp only [pur, h4]
    rw [purL_all l2 L (by omega)]
    simp only [h4]
    rw [if_pos (by omega), ← hm, rows_one]
  have pd : purL (e + 1) (L.set j (.frz l2)) (ds.map .p) = some (ds, L.set j (.frz l2)) := purL_all ds _ (by omega)
  have pm : purL (e + 1 + 1) L (.sli j m 1 :: ds.map .p) = some (.sl .sh 1 (l2.map fun x => [x]) :: ds, L.set j (.frz l2)) := by
    simp only [purL, p4, pd]
  have pa := purL_ps us _ L _ _ _ pm
  have hlen : (us ++ .sl .sh 1 (l2.map fun x => [x]) :: ds).length = n := by simp; omega
  refine ⟨(L.set j (.frz l2)).set i (.frz (us ++ .sl .sh 1 (l2.map fun x => [x]) :: ds)), ?_⟩
  rw [show e + 1 + us.length + 1 + 1 = (e + 1 + 1 + us.length) + 1 by omega]
  have hi : (L.set j (.frz l2))[i]? = L[i]? := by
    rw [List.getElem?_set]
    rw [if_neg (fun e => hij e.symm)]
  simp only [pur, h3, pa, hi]
  rw [if_pos (by omega), ← hlen, rows_one]
theorem purL_two {f : Nat} {L L' : List ABlk} {a : AV} {x v : PV} (h : pur (f + 1) L a = some (v, L')) : purL (f + 3) L [.p x, a] = some ([x, v], L') := by
  simp only [purL]
  rw [show pur (f + 2) L (.p x) = some (x, L) by simp only [pur]]
  simp only [h]
theorem pur_pair {s : AS} {a : AV} {x v : PV} {L' : List ABlk} (h : pur 97 s.loc a = some (v, L')) : purArgs s [.agg [.p x, a]] = some ([.agg [x, v]], L') := by
  have h1 : purL 99 s.loc [.p x, a] = some ([x, v], L') := purL_two (f := 96) h
  have h2 : pur (99 + 1) s.loc (.agg [.p x, a]) = some (.agg [x, v], L') := by
    simp only [pur]
    rw [h1]
  unfold purArgs
  simp only [purArgs.purV]
  rw [show (100 : Nat) = 99 + 1 from rfl, h2]
theorem flat1 {α β : Type} (f : α → β) : ∀ l : List α, (l.map fun x => [f x]).flatten = l.map f
  | [] => rfl
  | x :: l => by simp [flat1 f l]
theorem known2_sem (k : SK) {b : DBook} (ho : okBook b) {h p s : Nat} (hh : h < b.horses.length) (hp : p < nR b) (hs : s < 4) : Sem1 55 [.agg (bookC k b), pi h, pi p, pi s] (.agg (bookC .sh (knowB b h p s))) := by
  obtain ⟨h1, h8, hn⟩ := okR ho
  have h6 := ho.2.1
  have eh := iadr_map (f := fun h => [pis h]) (kd := k) (sz := 1) hh
  refine semC_of_exec' mixed Try.func55 (by kernel_rfl) (by kernel_rfl) ac55_ok 4 rfl (by decide) [(.cell 8 24)] (by kernel_rfl) ?_
  intro hr C hC hI
  unfold ac55
  simp only [go_sem, Nat.reduceBEq, Nat.reduceAdd, putCells]
  refine ⟨by rw [List.length_map]; omega, fun e => absurd (congrArg List.length e) (by rw [List.length_map, List.length_nil]; omega), fun _ => ?_⟩
  simp only [go_sem, Nat.reduceBEq, Nat.reduceAdd, eh]
  have hRl : b.horses[h].length = nR b := by have := (ho.2.2 _ (List.getElem_mem hh)).1; omega
  have f1 : (List.map (fun h => [pis h]) b.horses).flatten = b.horses.map pis := flat1 (fun h => pis h) b.horses
  have f2 : (List.map (fun x => [pi x]) b.horses[h]).flatten = b.horses[h].map pi := flat1 (fun x => pi x) _
  refine ⟨by rw [List.length_map]; omega, fun e => absurd (congrArg List.length e) (by rw [List.length_map, List.length_nil]; omega), fun _ => ?_⟩
  rw [f1, f2]
  have i1 : iadrS' 1 (AV.sli 3 b.horses.length 1) (AV.p (pi h)) = some (.loc 3 h) := by
    simp [iadrS', hh]
  have i2 : iadrS' 1 (AV.sli 4 b.horses[h].length 1) (AV.p (pi p)) = some (.loc 4 p) := by
    simp [iadrS', show p < b.horses[h].length by omega]
  have hge : (List.take h (List.map AV.p (b.horses.map pis)) ++ [AV.sli 4 b.horses[h].length 1] ++ List.drop (h + 1) (List.map AV.p (b.horses.map pis)))[h]? = some (AV.sli 4 b.horses[h].length 1) := by
    rw [List.append_assoc, List.getElem?_append_right (by simp; omega)]
    simp [show min h b.horses.length = h by omega]
  have hh1 : h + 1 ≤ b.horses.length := hh
  have hp1 : p + 1 ≤ b.horses[h].length := by omega
  simp only [go_sem, Nat.reduceBEq, Nat.reduceAdd, i1, i2, putCells, List.length_map, hh1, hp1, hge, bin_shl (show ¬ (s : Int) < 0 by omega)]
  have hw2 : IntKind.i64.wrap (1 * 2 ^ min ((s : Int)).toNat 64) = 2 ^ s := by
    rw [pow2_small (show 0 ≤ (s : Int) ∧ (s : Int) ≤ 3 by omega), Int.toNat_natCast]
  rw [hw2]
  have hn2 : List.take p b.horses[h] ++ (2 ^ s) :: List.drop (p + 1) b.horses[h] = knowR b h p s h (nR b) := by
    apply List.ext_getElem?
    intro q
    unfold knowR
    rcases Nat.lt_trichotomy q p with hq | rfl | hq
    · rw [List.getElem?_append_left (by simp; omega), List.getElem?_take_of_lt hq, List.getElem?_map, List.getElem?_range (by omega)]
      have : ¬ (h, q) = (h, p) := by simp; omega
      simp [List.getD_eq_getElem?_getD, List.getElem?_eq_getElem hh, List.getElem?_eq_getElem (show q < b.horses[h].length by omega), show ¬ q = p by omega]
    · rw [List.getElem?_append_right (by simp; omega), List.getElem?_map, List.getElem?_range (by omega)]
      simp [show min q b.horses[h].length = q by omega]
    · rw [List.getElem?_append_right (by simp; omega), List.length_take, show q - min p b.horses[h].length = (q - p - 1) + 1 by omega, List.getElem?_cons_succ, List.getElem?_drop, show p + 1 + (q - p - 1) = q by omega, List.getElem?_map]
      rcases Nat.lt_or_ge q (nR b) with hq2 | hq2
      · rw [List.getElem?_range hq2, List.getElem?_eq_getElem (show q < b.horses[h].length by omega)]
        simp [List.getD_eq_getElem?_getD, List.getElem?_eq_getElem hh, List.getElem?_eq_getElem (show q < b.horses[h].length by omega), show ¬ q = p by omega]
      · rw [List.getElem?_eq_none (show (List.range (nR b)).length ≤ q by simpa using hq2), List.getElem?_eq_none (show b.horses[h].length ≤ q by omega)]
        rfl
  have hb2 : List.take h b.horses ++ knowR b h p s h (nR b) :: List.drop (h + 1) b.horses = (knowB b h p s).horses := by
    apply List.ext_getElem?
    intro q
    show _ = ((List.range b.horses.length).map fun i => knowR b h p s i (nR b))[q]?
    rw [List.getElem?_map]
    have hold : ∀ q, q < b.horses.length → q ≠ h → b.horses[q]? = some (knowR b h p s q (nR b)) := by
      intro q hq hne
      have hql : b.horses[q].length = nR b := by have := (ho.2.2 _ (List.getElem_mem hq)).1; omega
      rw [List.getElem?_eq_getElem hq]
      congr 1
      unfold knowR
      apply List.ext_getElem?
      intro x
      rcases Nat.lt_or_ge x (nR b) with hx | hx
      · rw [List.getElem?_map, List.getElem?_range hx, List.getElem?_eq_getElem (show x < b.horses[q].length by omega)]
        simp [List.getD_eq_getElem?_getD, List.getElem?_eq_getElem hq, List.getElem?_eq_getElem (show x < b.horses[q].length by omega), hne]
      · rw [List.getElem?_eq_none (by omega), List.getElem?_eq_none (by simpa using hx)]
    rcases Nat.lt_trichotomy q h with hq | rfl | hq
    · rw [List.getElem?_append_left (by simp; omega), List.getElem?_take_of_lt hq, List.getElem?_range (by omega), hold q (by omega) (by omega)]
      rfl
    · rw [List.getElem?_append_right (by simp; omega), List.getElem?_range hh]
      simp [show min q b.horses.length = q by omega]
    · rw [List.getElem?_append_right (by simp; omega), List.length_take, show q - min h b.horses.length = (q - h - 1) + 1 by omega, List.getElem?_cons_succ, List.getElem?_drop, show h + 1 + (q - h - 1) = q by omega]
      rcases Nat.lt_or_ge q b.horses.length with hq2 | hq2
      · rw [List.getElem?_range hq2, hold q hq2 (by omega)]
        rfl
      · rw [List.getElem?_eq_none hq2, List.getElem?_eq_none (show (List.range b.horses.length).length ≤ q by simpa using hq2)]
        rfl
  obtain ⟨L', hL⟩ := pur_two (L := [.cells [.p (pi b.round), .p (.sl k 1 (rowsC b.horses))], .cells [.p (pi b.round), .sli 3 b.horses.length 1], .cells [.p (pi b.round), .sli 3 b.horses.length 1], .cells (((b.horses.take h).map pis).map .p ++ (.sli 4 b.horses[h].length 1 :: ((b.horses.drop (h + 1)).map pis).map .p)), .cells (((List.take p b.horses[h] ++ (2 ^ s) :: List.drop (p + 1) b.horses[h]).map pi).map .p)]) (i := 3) (j := 4) (us := (b.horses.take h).map pis) (ds := (b.horses.drop (h + 1)).map pis) (l2 := (List.take p b.horses[h] ++ (2 ^ s) :: List.drop (p + 1) b.horses[h]).map pi) (m := b.horses[h].length) (n := b.horses.length) (f := 97) (by decide) rfl rfl (by simp; omega) (by simp; omega) (by simp; omega)
  have c1 : List.take h (List.map AV.p (List.map pis b.horses)) ++ [AV.sli 4 b.horses[h].length 1] ++ List.drop (h + 1) (List.map AV.p (List.map pis b.horses)) = ((b.horses.take h).map pis).map .p ++ (.sli 4 b.horses[h].length 1 :: ((b.horses.drop (h + 1)).map pis).map .p) := by
    simp [List.map_take, List.map_drop]
  have c2 : List.take p (List.map AV.p (List.map pi b.horses[h])) ++ [AV.p (PV.val (Value.int IntKind.i64 (2 ^ s)))] ++ List.drop (p + 1) (List.map AV.p (List.map pi b.horses[h])) = ((List.take p b.horses[h] ++ (2 ^ s) :: List.drop (p + 1) b.horses[h]).map pi).map .p := by
    simp [List.map_take, List.map_drop]
  rw [c1, c2]
  refine ⟨[.agg [.p (pi b.round), .sli 3 b.horses.length 1]], [.agg [pi b.round, .sl .sh 1 (((b.horses.take h).map pis ++ .sl .sh 1 (((List.take p b.horses[h] ++ (2 ^ s) :: List.drop (p + 1) b.horses[h]).map pi).map fun x => [x]) :: (b.horses.drop (h + 1)).map pis).map fun x => [x])]], L', _, ?_, ?_, PVle.refl _, ?_⟩
  · have hsh : shapeN Try.prog 24 = some (some 2) := by kernel_rfl
    simp only [resA, hsh]
    rfl
  · exact pur_pair hL
  · have e : rowsC (knowB b h p s).horses = ((b.horses.take h).map pis ++ .sl .sh 1 (((List.take p b.horses[h] ++ (2 ^ s) :: List.drop (p + 1) b.horses[h]).map pi).map fun x => [x]) :: (b.horses.drop (h + 1)).map pis).map fun x => [x] := by
      rw [← hb2, ← hn2]
      simp [Function.comp_def, List.map_take, List.map_drop]
    show PV.agg [pi b.round, _] = PV.agg [pi (knowB b h p s).round, .sl .sh 1 (rowsC (knowB b h p s).horses)]
    rw [e]
    rfl
end Go.Proofs.Ythibnlfbdbidjaa
