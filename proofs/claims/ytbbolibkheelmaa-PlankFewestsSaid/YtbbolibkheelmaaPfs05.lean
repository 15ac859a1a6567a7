/- Plain mathematics: parts that can be cut from one plank, from some planks. Plain mathematics: parts that can be cut from some planks, and the tables that say so. Plain mathematics: the best of some sets; what Fewest, Most and Lacks return. -/
import Derived.Test.YtbbolibkheelmaaPfs04
import Derived.Test.YtbbolibkheelmaaGa13
namespace Go.Proofs.Ytbbolibkheelmaa
open Go.RowKit Go.Shelf

/-! ### Sets as numbers -/
theorem has_test (n k : Nat) : hasN n k = n.testBit k := by
  unfold hasN
  rw [Nat.testBit_eq_decide_div_mod_eq]
theorem has_lt {s n p : Nat} (h : s < 2 ^ n) (hp : hasN s p = true) : p < n := by
  rw [has_test] at hp
  have h1 : 2 ^ p ≤ s := Nat.ge_two_pow_of_testBit hp
  exact (Nat.pow_lt_pow_iff_right (by omega)).1 (Nat.lt_of_le_of_lt h1 h)
theorem len_all : (List.range 32).all (fun (s : Nat) => decide (s < 2 ^ lenN s)) = true := by kernel_rfl
theorem lt_len {s : Nat} (h : s < 32) : s < 2 ^ lenN s := by
  have := List.all_eq_true.1 len_all s (List.mem_range.2 h)
  simpa using this
theorem mem_memU {s n : Nat} {y : Int} : y ∈ memU s n ↔ ∃ p : Nat, y = p ∧ p < n ∧ hasN s p = true := by
  unfold memU
  rw [List.mem_map]
  constructor
  · rintro ⟨p, hp, rfl⟩
    rw [List.mem_filter, List.mem_range] at hp
    exact ⟨p, rfl, hp.1, hp.2⟩
  · rintro ⟨p, rfl, h1, h2⟩
    exact ⟨p, by rw [List.mem_filter, List.mem_range]; exact ⟨h1, h2⟩, rfl⟩
theorem mem_memL {s : Nat} (hs : s < 32) {y : Int} : y ∈ memL s ↔ ∃ p : Nat, y = p ∧ hasN s p = true := by
  unfold memL
  rw [mem_memU]
  constructor
  · rintro ⟨p, h1, _, h2⟩
    exact ⟨p, h1, h2⟩
  · rintro ⟨p, h1, h2⟩
    exact ⟨p, h1, has_lt (lt_len hs) h2, h2⟩
/-- The set of those of which something is so. -/
theorem set_of (D : Nat → Bool) : ∀ n : Nat, ∃ m, m < 2 ^ n ∧ ∀ p, hasN m p = (decide (p < n) && D p)
  | 0 => ⟨0, by simp, fun p => by rw [has_test]; simp⟩
  | n + 1 => by
    obtain ⟨m, hm, h⟩ := set_of D n
    cases hD : D n with
    | false =>
      refine ⟨m, by rw [Nat.pow_succ]; omega, fun p => ?_⟩
      rw [h]
      by_cases e : p = n
      · subst e; rw [hD]; simp
      · have : decide (p < n + 1) = decide (p < n) := by rw [decide_eq_decide]; omega
        rw [this]
    | true =>
      refine ⟨m ||| 2 ^ n, Nat.or_lt_two_pow (by rw [Nat.pow_succ]; omega) (by rw [Nat.pow_succ]; have := Nat.pow_pos (n := n) (a := 2) (by decide); omega), fun p => ?_⟩
      rw [has_test, Nat.testBit_or, ← has_test, h, Nat.testBit_two_pow]
      by_cases e : p = n
      · subst e; rw [hD]; simp
      · have h1 : decide (p < n + 1) = decide (p < n) := by rw [decide_eq_decide]; omega
        have h2 : decide (n = p) = false := decide_eq_false (fun h => e h.symm)
        rw [h1, h2, Bool.or_false]
theorem set_ext {a b : Nat} (h : ∀ p, hasN a p = hasN b p) : a = b := Nat.eq_of_testBit_eq (fun p => by rw [← has_test, ← has_test]; exact h p)
theorem has_zero (p : Nat) : hasN 0 p = false := by rw [has_test]; simp
theorem has_or (a b p : Nat) : hasN (a ||| b) p = (hasN a p || hasN b p) := by rw [has_test, Nat.testBit_or, ← has_test, ← has_test]
theorem has_and (a b p : Nat) : hasN (a &&& b) p = (hasN a p && hasN b p) := by rw [has_test, Nat.testBit_and, ← has_test, ← has_test]
theorem and_zero {a b : Nat} : (a &&& b == 0) = true ↔ ∀ p, ¬ (hasN a p = true ∧ hasN b p = true) := by
  rw [beq_iff_eq]
  constructor
  · intro h p hp
    have := has_and a b p
    rw [h, has_zero, hp.1, hp.2] at this
    cases this
  · intro h
    refine set_ext fun p => ?_
    rw [has_and, has_zero, Bool.and_eq_false_iff]
    have := h p
    cases ha : hasN a p <;> cases hb : hasN b p <;> simp_all
theorem lt_of_has {a n : Nat} (h : ∀ p, hasN a p = true → p < n) : a < 2 ^ n := Nat.lt_pow_two_of_testBit a (fun p hp => by
  rw [← has_test]
  cases e : hasN a p with
  | false => rfl
  | true => have := h p e; omega)
theorem clr_each : (List.range 32).all (fun (s : Nat) => (List.range 5).all fun (q : Nat) => (List.range 5).all fun (p : Nat) => !hasN s q || (hasN (clrN s q) p == (hasN s p && decide (p ≠ q)))) = true := by kernel_rfl
theorem clr_has {s q : Nat} (hs : s < 32) (hq : hasN s q = true) (p : Nat) : hasN (clrN s q) p = (hasN s p && decide (p ≠ q)) := by
  have hq5 : q < 5 := has_lt (n := 5) (by omega) hq
  by_cases hp : p < 5
  · have := List.all_eq_true.1 clr_each s (List.mem_range.2 hs)
    rw [List.all_eq_true] at this
    have := this q (List.mem_range.2 hq5)
    rw [List.all_eq_true] at this
    have := this p (List.mem_range.2 hp)
    rw [hq] at this
    simpa using this
  · have h1 : hasN s p = false := by
      rw [← Bool.not_eq_true]; exact fun h => hp (has_lt (n := 5) (by omega) h)
    have h2 : hasN (clrN s q) p = false := by
      rw [← Bool.not_eq_true]; exact fun h => hp (has_lt (n := 5) (by have := clr_lt (q := q) hs; omega) h)
    rw [h1, h2]; rfl
theorem clr_less {s q : Nat} (hq : hasN s q = true) : clrN s q < s := by
  have h1 : s / 2 ^ q % 2 = 1 := by unfold hasN at hq; simpa using hq
  have h2 : 2 ^ q ≤ s := by rw [has_test] at hq; exact Nat.ge_two_pow_of_testBit hq
  have := Nat.pow_pos (n := q) (a := 2) (by decide)
  unfold clrN
  rw [if_pos h1]
  omega

/-! ### From one plank -/
/-- A part surely can be cut at an inch. -/
def Spot (x : Book) (i p : Nat) (t : Int) : Prop := 0 ≤ t ∧ t ≤ (gw x.planks i).long - (gs x.parts p).long ∧ ansOf (gw x.planks i) (gs x.parts p) t.toNat = 2
def plen (x : Book) (p : Nat) : Int := (gs x.parts p).long
/-- Two parts that lie at inches have none in common. -/
def Apart (x : Book) (p q : Nat) (t u : Int) : Prop := t + plen x p ≤ u ∨ u + plen x q ≤ t
theorem Apart.symm {x : Book} {p q : Nat} {t u : Int} (h : Apart x p q t u) : Apart x q p u t := h.elim .inr .inl
/-- Some parts can be cut from one plank. -/
def OneP (x : Book) (i : Nat) (P : Nat → Prop) : Prop := ∃ at_ : Nat → Int, (∀ p, P p → Spot x i p (at_ p)) ∧ ∀ p q, P p → P q → p ≠ q → Apart x p q (at_ p) (at_ q)
theorem OneP.mono {x : Book} {i : Nat} {P P' : Nat → Prop} (h : OneP x i P) (hP : ∀ p, P' p → P p) : OneP x i P' := by
  obtain ⟨a, h1, h2⟩ := h
  exact ⟨a, fun p hp => h1 p (hP p hp), fun p q hp hq => h2 p q (hP p hp) (hP q hq)⟩
theorem OneP.congr {x : Book} {i : Nat} {P P' : Nat → Prop} (hP : ∀ p, P p ↔ P' p) : OneP x i P ↔ OneP x i P' := ⟨fun h => h.mono (fun p => (hP p).2), fun h => h.mono (fun p => (hP p).1)⟩

theorem board_two {W : Wood} {ps : List Shape} {p : Nat} {t : Int} (hp : p < ps.length) (h0 : 0 ≤ t) (h1 : t ≤ W.long - (gs ps p).long) : (boardM W ps ps.length ((p : Int), t)).getD 0 = ansOf W (gs ps p) t.toNat := by
  unfold boardM
  rw [if_pos ⟨by simp, by simpa using hp, h0, by simp only [Int.toNat_natCast]; unfold many; omega⟩]
  simp
section
variable {x : Book} {i : Nat}
theorem lay_one (hb : bookOk x = true) (hi : i < x.planks.length) {parts : List Int} (hP : Parts x parts) :
    (layL (boardM (gw x.planks i) x.parts x.parts.length) x.parts (gw x.planks i).long parts).isSome = true ↔ OneP x i (fun p => (p : Int) ∈ parts) := by
  have hG := good_of hb
  have hpar : ∀ j, j < parts.length → ∃ p : Nat, gi parts j = p ∧ p < x.parts.length ∧ lenOf x.parts parts j = plen x p ∧ (p : Int) ∈ parts := by
    intro j hj
    have hn := hP.num j hj
    refine ⟨(gi parts j).toNat, by omega, by omega, rfl, ?_⟩
    rw [show (((gi parts j).toNat : Nat) : Int) = gi parts j by omega, gi_eq hj]
    exact List.getElem_mem hj
  have hplen : ∀ p, p < x.parts.length → 1 ≤ plen x p := fun p hp => (hG.shape p hp).1
  have hinj : ∀ j k, j < parts.length → k < parts.length → gi parts j = gi parts k → j = k := by
    intro j k hj hk e
    have hp := List.pairwise_iff_getElem.1 hP.inc
    rw [gi_eq hj, gi_eq hk] at e
    rcases Nat.lt_trichotomy j k with h | h | h
    · have := hp j k hj hk h; omega
    · exact h
    · have := hp k j hk hj h; omega
  constructor
  · intro h
    obtain ⟨l, hl⟩ := Option.isSome_iff_exists.1 h
    obtain ⟨hlen, hall⟩ := srch_ok _ _ _ _ hl
    have hidx : ∀ p : Nat, (p : Int) ∈ parts → ∃ j, j < parts.length ∧ gi parts j = p := by
      intro p hp
      obtain ⟨j, hj, e⟩ := List.mem_iff_getElem.1 hp
      exact ⟨j, hj, by rw [gi_eq hj]; exact e⟩
    refine ⟨fun p => gi l (parts.findIdx fun y => y == (p : Int)), ?_, ?_⟩
    · intro p hp
      have hf : parts.findIdx (fun y => y == (p : Int)) < parts.length := List.findIdx_lt_length_of_exists ⟨_, hp, by simp⟩
      obtain ⟨j, hj⟩ : ∃ j, j = parts.findIdx (fun y => y == (p : Int)) := ⟨_, rfl⟩
      have he : gi parts j = p := by
        have := List.findIdx_getElem (w := hf)
        rw [gi_eq (by rw [hj]; exact hf)]
        subst hj
        simpa using this
      show Spot x i p (gi l (parts.findIdx fun y => y == (p : Int)))
      rw [← hj] at hf ⊢
      obtain ⟨a1, a2, a3, _⟩ := hall j hf
      obtain ⟨p', e1, e2, e3, _⟩ := hpar j hf
      obtain rfl : p' = p := by omega
      rw [Nat.zero_add] at a2 a3
      rw [e3] at a2
      rw [e1, board_two e2 a1 a2] at a3
      exact ⟨a1, a2, a3⟩
    · intro p q hp hq hpq
      have hfp : parts.findIdx (fun y => y == (p : Int)) < parts.length := List.findIdx_lt_length_of_exists ⟨_, hp, by simp⟩
      have hfq : parts.findIdx (fun y => y == (q : Int)) < parts.length := List.findIdx_lt_length_of_exists ⟨_, hq, by simp⟩
      obtain ⟨j, hj⟩ : ∃ j, j = parts.findIdx (fun y => y == (p : Int)) := ⟨_, rfl⟩
      obtain ⟨k, hk⟩ : ∃ k, k = parts.findIdx (fun y => y == (q : Int)) := ⟨_, rfl⟩
      have hej : gi parts j = p := by
        have := List.findIdx_getElem (w := hfp)
        rw [gi_eq (by rw [hj]; exact hfp)]
        subst hj
        simpa using this
      have hek : gi parts k = q := by
        have := List.findIdx_getElem (w := hfq)
        rw [gi_eq (by rw [hk]; exact hfq)]
        subst hk
        simpa using this
      show Apart x p q (gi l (parts.findIdx fun y => y == (p : Int))) (gi l (parts.findIdx fun y => y == (q : Int)))
      rw [← hj] at hfp ⊢
      rw [← hk] at hfq ⊢
      have hjk : j ≠ k := fun e => by subst e; omega
      have key : ∀ j k p q : Nat, j < parts.length → k < j → gi parts j = p → gi parts k = q → Apart x p q (gi l j) (gi l k) := by
        intro j k p q hj hkj ej ek
        obtain ⟨a1, a2, _, a4⟩ := hall j hj
        obtain ⟨b1, b2, _, _⟩ := hall k (by omega)
        obtain ⟨p', e1, e2, e3, _⟩ := hpar j hj
        obtain ⟨q', f1, f2, f3, _⟩ := hpar k (by omega)
        obtain rfl : p' = p := by omega
        obtain rfl : q' = q := by omega
        rw [Nat.zero_add] at a2 b2
        simp only [Nat.zero_add] at a4
        rw [e3] at a2
        rw [f3] at b2
        have hL := (hG.wood i hi).2.1
        have hp1 := hplen _ e2
        have hq1 := hplen _ f2
        unfold Apart
        by_cases h1 : gi l j + plen x p' ≤ gi l k
        · exact .inl h1
        by_cases h2 : gi l k + plen x q' ≤ gi l j
        · exact .inr h2
        exfalso
        have h3 := a4 (max (gi l j) (gi l k)).toNat (by omega) (by omega) (by rw [e3]; omega)
        refine h3.2 k hkj ?_
        rw [f3]
        omega
      rcases Nat.lt_or_gt_of_ne hjk with h | h
      · exact (key k j q p hfq h hek hej).symm
      · exact key j k p q hfp h hej hek
  · rintro ⟨at_, h1, h2⟩
    obtain ⟨l, hl⟩ : ∃ l : List Int, l = parts.map fun y => at_ y.toNat := ⟨_, rfl⟩
    have hll : l.length = parts.length := by rw [hl, List.length_map]
    have hgl : ∀ j p : Nat, j < parts.length → gi parts j = p → gi l j = at_ p := by
      intro j p hj e
      rw [gi_eq (by omega)]
      subst hl
      rw [List.getElem_map, ← gi_eq hj, e, Int.toNat_natCast]
    obtain ⟨l', hl', _⟩ := srch_first (bm := boardM (gw x.planks i) x.parts x.parts.length) (ps := x.parts) (long := (gw x.planks i).long) (parts := parts) parts.length (fun _ => false) 0 l hll (okL_of l _ 0 (fun j hj => by
      have hj' : j < parts.length := by omega
      obtain ⟨p, e1, e2, e3, e4⟩ := hpar j hj'
      obtain ⟨s1, s2, s3⟩ := h1 p e4
      rw [Nat.zero_add, e3, e1, hgl j p hj' e1]
      refine ⟨s1, s2, by rw [board_two e2 s1 s2]; exact s3, fun m hm m1 m2 => ⟨rfl, fun k hk => ?_⟩⟩
      obtain ⟨q, f1, f2, f3, f4⟩ := hpar k (by omega)
      rw [Nat.zero_add, f3, hgl k q (by omega) f1]
      have hne : p ≠ q := fun e => by
        subst e
        have := hinj j k hj' (by omega) (by omega); omega
      have := h2 p q e4 f4 hne
      unfold Apart at this
      omega))
    show (srch _ _ _ _ _ _ _).isSome = true
    rw [hl']; rfl
end
end Go.Proofs.Ytbbolibkheelmaa
namespace Go.Proofs.Ytbbolibkheelmaa
open Go.RowKit Go.Shelf

section
variable {x : Book}
theorem parts_memL (hb : bookOk x = true) {s : Nat} (hs : s < 2 ^ x.parts.length) : Parts x (memL s) := by
  have hG := good_of hb
  have hl := lenN_pow hs hG.parts.2
  have hl5 := hG.parts.2
  refine ⟨fun k hk => ?_, pair_filter _ _, ?_⟩
  · have := memU_i64 (n := s) (k := lenN s) (i := k) (by omega) hk
    refine ⟨this.1, ?_⟩
    have h2 := this.2.1
    show gi (memU s (lenN s)) k < _
    omega
  · have := memU_len s (lenN s)
    show (memU s (lenN s)).length ≤ 5
    omega
theorem lt32 (hb : bookOk x = true) {s : Nat} (hs : s < 2 ^ x.parts.length) : s < 32 := by
  have := pow_le32 (good_of hb).parts.2; omega
theorem canLay_one (hb : bookOk x = true) {i s : Nat} (hi : i < x.planks.length) (hs : s < 2 ^ x.parts.length) : canLay x i s = true ↔ OneP x i (fun p => hasN s p = true) := by
  unfold canLay
  rw [lay_one hb hi (parts_memL hb hs)]
  refine OneP.congr fun p => ?_
  rw [mem_memL (lt32 hb hs)]
  constructor
  · rintro ⟨q, e, h⟩
    obtain rfl : p = q := by omega
    exact h
  · exact fun h => ⟨p, rfl, h⟩
theorem cutsU_is {f : Nat → Bool} {n : Nat} (hn : n ≤ 32) (hf : ∀ s q, s < n → f s = true → hasN s q = true → f (clrN s q) = true) : ∀ k, k ≤ n → ∀ s, cutsU f k s = (decide (s < k) && f s)
  | 0, _, s => by show false = _; simp
  | k + 1, hk, s => by
    have ih := cutsU_is hn hf k (by omega)
    have hless : f k = true → lessB (cutsU f k) k = true := by
      intro h
      unfold lessB
      rw [allB_iff]
      intro j hj
      have hm : gi (memL k) j ∈ memL k := by rw [gi_eq hj]; exact List.getElem_mem hj
      obtain ⟨q, e, hq⟩ := (mem_memL (by omega)).1 hm
      rw [e, Int.toNat_natCast, ih, hf k q (by omega) h hq, decide_eq_true (clr_less hq)]; rfl
    cases hl : lessB (cutsU f k) k with
    | true =>
      rw [cutsU_yes hl]
      unfold upd
      by_cases e : s = k
      · subst e; simp
      · rw [if_neg e, ih]
        have : decide (s < k + 1) = decide (s < k) := by rw [decide_eq_decide]; omega
        rw [this]
    | false =>
      rw [cutsU_no hl, ih]
      by_cases e : s = k
      · subst e
        have : f s = false := by
          cases h : f s with
          | false => rfl
          | true => rw [hless h] at hl; cases hl
        rw [this]; simp
      · have : decide (s < k + 1) = decide (s < k) := by rw [decide_eq_decide]; omega
        rw [this]
theorem cutsM_is (hb : bookOk x = true) {i : Nat} (hi : i < x.planks.length) (s : Nat) : cutsM x i s = true ↔ s < 2 ^ x.parts.length ∧ OneP x i (fun p => hasN s p = true) := by
  unfold cutsM
  rw [cutsU_is (pow_le32 (good_of hb).parts.2) (fun s q hs h hq => ?_) _ (Nat.le_refl _), Bool.and_eq_true, decide_eq_true_eq]
  · constructor
    · rintro ⟨h1, h2⟩
      exact ⟨h1, (canLay_one hb hi h1).1 h2⟩
    · rintro ⟨h1, h2⟩
      exact ⟨h1, (canLay_one hb hi h1).2 h2⟩
  · have h1 := clr_less hq
    refine (canLay_one hb hi (by omega)).2 (((canLay_one hb hi hs).1 h).mono fun p hp => ?_)
    rw [clr_has (lt32 hb hs) hq] at hp
    rw [Bool.and_eq_true] at hp
    exact hp.1
end

/-- Some parts can be cut from some planks. -/
def Pack (x : Book) (Q P : Nat → Prop) : Prop := ∃ (g : Nat → Nat) (at_ : Nat → Int), (∀ p, P p → g p < x.planks.length ∧ Q (g p) ∧ Spot x (g p) p (at_ p)) ∧ ∀ p q, P p → P q → p ≠ q → g p = g q → Apart x p q (at_ p) (at_ q)
theorem Pack.mono {x : Book} {Q Q' P P' : Nat → Prop} (h : Pack x Q P) (hQ : ∀ i, i < x.planks.length → Q i → Q' i) (hP : ∀ p, P' p → P p) : Pack x Q' P' := by
  obtain ⟨g, a, h1, h2⟩ := h
  exact ⟨g, a, fun p hp => ⟨(h1 p (hP p hp)).1, hQ _ (h1 p (hP p hp)).1 (h1 p (hP p hp)).2.1, (h1 p (hP p hp)).2.2⟩, fun p q hp hq => h2 p q (hP p hp) (hP q hq)⟩
theorem Pack.none {x : Book} {Q P : Nat → Prop} (hP : ∀ p, ¬ P p) : Pack x Q P := ⟨fun _ => 0, fun _ => 0, fun p hp => absurd hp (hP p), fun p _ hp => absurd hp (hP p)⟩
theorem Pack.one {x : Book} {Q P : Nat → Prop} {i : Nat} (hQ : ∀ j, j < x.planks.length → Q j → j = i) (h : Pack x Q P) : OneP x i P := by
  obtain ⟨g, a, h1, h2⟩ := h
  refine ⟨a, fun p hp => ?_, fun p q hp hq hpq => ?_⟩
  · have := h1 p hp
    rw [hQ _ this.1 this.2.1] at this
    exact this.2.2
  · exact h2 p q hp hq hpq (by rw [hQ _ (h1 p hp).1 (h1 p hp).2.1, hQ _ (h1 q hq).1 (h1 q hq).2.1])
theorem OneP.pack {x : Book} {Q P : Nat → Prop} {i : Nat} (h : OneP x i P) (hi : i < x.planks.length) (hQ : Q i) : Pack x Q P := by
  obtain ⟨a, h1, h2⟩ := h
  exact ⟨fun _ => i, a, fun p hp => ⟨hi, hQ, h1 p hp⟩, fun p q hp hq hpq _ => h2 p q hp hq hpq⟩
/-- Parts that one plank gives, and the rest from others. -/
theorem Pack.split {x : Book} {Q P : Nat → Prop} {i : Nat} (hi : i < x.planks.length) : Pack x (fun j => Q j ∨ j = i) P ↔ ∃ D : Nat → Bool, Pack x (fun j => Q j ∧ j ≠ i) (fun p => P p ∧ D p = false) ∧ OneP x i (fun p => P p ∧ D p = true) := by
  constructor
  · rintro ⟨g, a, h1, h2⟩
    refine ⟨fun p => decide (g p = i), ⟨g, a, fun p hp => ?_, fun p q hp hq => h2 p q hp.1 hq.1⟩, a, fun p hp => ?_, fun p q hp hq hpq => ?_⟩
    · obtain ⟨c1, c2, c3⟩ := h1 p hp.1
      have := hp.2
      rw [decide_eq_false_iff_not] at this
      exact ⟨c1, ⟨c2.resolve_right this, this⟩, c3⟩
    · have := hp.2
      rw [decide_eq_true_eq] at this
      rw [← this]
      exact (h1 p hp.1).2.2
    · have e1 := hp.2
      have e2 := hq.2
      rw [decide_eq_true_eq] at e1 e2
      exact h2 p q hp.1 hq.1 hpq (by rw [e1, e2])
  · rintro ⟨D, ⟨g, a, h1, h2⟩, a', h3, h4⟩
    refine ⟨fun p => if D p = true then i else g p, fun p => if D p = true then a' p else a p, fun p hp => ?_, fun p q hp hq hpq e => ?_⟩
    · by_cases hD : D p = true
      · show (if D p = true then i else g p) < _ ∧ ((Q (if D p = true then i else g p)) ∨ (if D p = true then i else g p) = i) ∧ Spot x (if D p = true then i else g p) p (if D p = true then a' p else a p)
        rw [if_pos hD, if_pos hD]
        exact ⟨hi, Or.inr rfl, h3 p ⟨hp, hD⟩⟩
      · show (if D p = true then i else g p) < _ ∧ ((Q (if D p = true then i else g p)) ∨ (if D p = true then i else g p) = i) ∧ Spot x (if D p = true then i else g p) p (if D p = true then a' p else a p)
        rw [if_neg hD, if_neg hD]
        have := h1 p ⟨hp, by simpa using hD⟩
        exact ⟨this.1, Or.inl this.2.1.1, this.2.2⟩
    · by_cases hD : D p = true <;> by_cases hE : D q = true
      · simp only [hD, hE, if_true]
        exact h4 p q ⟨hp, hD⟩ ⟨hq, hE⟩ hpq
      · simp only [hD, hE, if_true] at e
        have := (h1 q ⟨hq, by simpa using hE⟩).2.1.2
        exact absurd e.symm this
      · simp only [hD, hE, if_true] at e
        have := (h1 p ⟨hp, by simpa using hD⟩).2.1.2
        exact absurd e this
      · simp only [hD, hE]
        simp only [hD, hE] at e
        exact h2 p q ⟨hp, by simpa using hD⟩ ⟨hq, by simpa using hE⟩ hpq e

section
variable {x : Book}
theorem beside_iff {c d : Nat → Bool} {s : Nat} : besideM c d s = true ↔ ∃ a b, a < 32 ∧ b < 32 ∧ c a = true ∧ d b = true ∧ (∀ p, ¬ (hasN a p = true ∧ hasN b p = true)) ∧ ∀ p, hasN s p = (hasN a p || hasN b p) := by
  unfold besideM
  rw [anyB_iff]
  constructor
  · rintro ⟨a, ha, h⟩
    rw [anyB_iff] at h
    obtain ⟨b, hb, h⟩ := h
    unfold besideB at h
    rw [Bool.and_eq_true, Bool.and_eq_true, Bool.and_eq_true] at h
    obtain ⟨⟨⟨h1, h2⟩, h3⟩, h4⟩ := h
    refine ⟨a, b, ha, hb, h1, h2, and_zero.1 h3, fun p => ?_⟩
    rw [beq_iff_eq] at h4
    rw [← h4, has_or]
  · rintro ⟨a, b, ha, hb, h1, h2, h3, h4⟩
    refine ⟨a, ha, ?_⟩
    rw [anyB_iff]
    refine ⟨b, hb, ?_⟩
    unfold besideB
    rw [h1, h2, and_zero.2 h3, show (a ||| b == s) = true by rw [beq_iff_eq]; exact set_ext fun p => by rw [has_or, h4]]
    rfl
theorem stock_pack (hb : bookOk x = true) {S : Nat} : ∀ k, k ≤ x.planks.length → ∀ s, s < 2 ^ x.parts.length → (stockCut (stockF x) S k s = true ↔ Pack x (fun i => hasN S i = true ∧ i < k) (fun p => hasN s p = true))
  | 0, _, s, hs => by
    show (s == 0) = true ↔ _
    rw [beq_iff_eq]
    constructor
    · rintro rfl
      exact Pack.none fun p h => by rw [has_zero] at h; cases h
    · rintro ⟨g, a, h1, _⟩
      refine set_ext fun p => ?_
      rw [has_zero]
      cases h : hasN s p with
      | false => rfl
      | true => exact absurd (h1 p h).2.1.2 (by omega)
  | k + 1, hk, s, hs => by
    have ih := stock_pack hb (S := S) k (by omega)
    unfold stockCut
    by_cases hS : hasN S k = true
    · rw [if_pos hS, beside_iff]
      have hf : stockF x k = cutsM x k := by
        unfold stockF stockU
        rw [if_pos (by omega)]
      rw [hf]
      have hQ : Pack x (fun i => hasN S i = true ∧ i < k + 1) (fun p => hasN s p = true) ↔ Pack x (fun i => (hasN S i = true ∧ i < k) ∨ i = k) (fun p => hasN s p = true) := by
        constructor
        · exact fun h => h.mono (fun i _ h => by by_cases e : i = k; exact .inr e; exact .inl ⟨h.1, by omega⟩) (fun _ h => h)
        · exact fun h => h.mono (fun i _ h => by
            rcases h with h | h
            · exact ⟨h.1, by omega⟩
            · rw [h]; exact ⟨hS, by omega⟩) (fun _ h => h)
      rw [hQ, Pack.split (by omega)]
      constructor
      · rintro ⟨a, b, ha, hb', h1, h2, h3, h4⟩
        rw [cutsM_is hb (by omega)] at h2
        have has : a < 2 ^ x.parts.length := lt_of_has fun p hp => has_lt hs (by rw [h4, hp]; rfl)
        have h1' := (ih a has).1 h1
        refine ⟨fun p => hasN b p, h1'.mono (fun i _ h => ⟨h, by omega⟩) (fun p hp => ?_), h2.2.mono fun p hp => hp.2⟩
        have h5 := hp.1
        have h6 : hasN b p = false := hp.2
        rw [h4, h6, Bool.or_false] at h5
        exact h5
      · rintro ⟨D, h1, h2⟩
        obtain ⟨a, ha, hha⟩ := set_of (fun p => hasN s p && !D p) x.parts.length
        obtain ⟨b, hb', hhb⟩ := set_of (fun p => hasN s p && D p) x.parts.length
        have l1 := lt32 hb ha
        have l2 := lt32 hb hb'
        have e1 : ∀ p, hasN a p = (hasN s p && !D p) := fun p => by
          rw [hha]
          cases h : hasN s p with
          | false => simp
          | true => rw [decide_eq_true (has_lt hs h)]; simp
        have e2 : ∀ p, hasN b p = (hasN s p && D p) := fun p => by
          rw [hhb]
          cases h : hasN s p with
          | false => simp
          | true => rw [decide_eq_true (has_lt hs h)]; simp
        refine ⟨a, b, l1, l2, (ih a ha).2 (h1.mono (fun i _ h => h.1) fun p hp => ?_), (cutsM_is hb (by omega) b).2 ⟨hb', h2.mono fun p hp => ?_⟩, fun p => ?_, fun p => ?_⟩
        · rw [e1] at hp; simpa using hp
        · rw [e2] at hp; simpa using hp
        · rw [e1, e2]; cases D p <;> simp
        · rw [e1, e2]; cases D p <;> simp
    · rw [if_neg hS, ih s hs]
      constructor
      · exact fun h => h.mono (fun i _ h => ⟨h.1, by omega⟩) (fun _ h => h)
      · exact fun h => h.mono (fun i _ h => ⟨h.1, by
          have : i ≠ k := fun e => hS (by rw [← e]; exact h.1)
          omega⟩) (fun _ h => h)
theorem stock_false (hb : bookOk x = true) {S : Nat} : ∀ k, k ≤ x.planks.length → ∀ s, stockCut (stockF x) S k s = true → s < 2 ^ x.parts.length
  | 0, _, s, h => by
    have : s = 0 := by simpa [stockCut] using h
    rw [this]; exact Nat.pow_pos (by decide)
  | k + 1, hk, s, h => by
    unfold stockCut at h
    split at h
    · obtain ⟨a, b, _, _, h1, h2, _, h4⟩ := beside_iff.1 h
      have ha := stock_false hb k (by omega) a h1
      have hf : stockF x k = cutsM x k := by
        unfold stockF stockU
        rw [if_pos (by omega)]
      rw [hf, cutsM_is hb (by omega)] at h2
      exact lt_of_has fun p hp => by
        rw [h4, Bool.or_eq_true] at hp
        exact hp.elim (has_lt ha) (has_lt h2.1)
    · exact stock_false hb k (by omega) s h
/-- What all planks, or some of them, give. -/
theorem whole_pack (hb : bookOk x = true) {S s : Nat} (hs : s < 2 ^ x.parts.length) : stockCut (stockF x) S x.planks.length s = true ↔ Pack x (fun i => hasN S i = true) (fun p => hasN s p = true) := by
  rw [stock_pack hb _ (Nat.le_refl _) s hs]
  constructor
  · exact fun h => h.mono (fun i _ h => h.1) (fun _ h => h)
  · exact fun h => h.mono (fun i hi h => ⟨h, hi⟩) (fun _ h => h)
theorem has_ones {n p : Nat} : hasN (2 ^ n - 1) p = decide (p < n) := by
  rw [has_test, Nat.testBit_two_pow_sub_one]
theorem all_pack (hb : bookOk x = true) {s : Nat} (hs : s < 2 ^ x.parts.length) : allF x s = true ↔ Pack x (fun _ => True) (fun p => hasN s p = true) := by
  unfold allF
  rw [whole_pack hb hs]
  constructor
  · exact fun h => h.mono (fun i _ h => trivial) (fun _ h => h)
  · exact fun h => h.mono (fun i hi h => by rw [has_ones]; exact decide_eq_true hi) (fun _ h => h)
theorem wholeF_pack (hb : bookOk x = true) {S : Nat} : wholeF x S = true ↔ Pack x (fun i => hasN S i = true) (fun p => p < x.parts.length) := by
  unfold wholeF
  rw [whole_pack hb (by have := Nat.pow_pos (n := x.parts.length) (a := 2) (by decide); omega)]
  constructor
  · exact fun h => h.mono (fun i _ h => h) (fun p hp => by rw [has_ones]; exact decide_eq_true hp)
  · exact fun h => h.mono (fun i _ h => h) (fun p hp => by rw [has_ones] at hp; simpa using hp)
end
end Go.Proofs.Ytbbolibkheelmaa
namespace Go.Proofs.Ytbbolibkheelmaa
open Go.RowKit Go.Shelf

/-! ### Lists, one before another -/
theorem less_self : ∀ xs : List Int, lessI xs xs = false
  | [] => rfl
  | x :: xs => by rw [lessI, if_pos rfl, less_self xs]
theorem less_trans : ∀ {xs ys zs : List Int}, lessI xs ys = true → lessI ys zs = true → lessI xs zs = true
  | [], [], _, h, _ => by simp [lessI] at h
  | [], _ :: _, [], _, h => by simp [lessI] at h
  | [], _ :: _, _ :: _, _, _ => rfl
  | _ :: _, [], _, h, _ => by simp [lessI] at h
  | _ :: _, _ :: _, [], _, h => by simp [lessI] at h
  | x :: xs, y :: ys, z :: zs, h1, h2 => by
    rw [lessI] at h1 h2 ⊢
    by_cases e1 : x = y
    · subst e1
      rw [if_pos rfl] at h1
      by_cases e2 : x = z
      · rw [if_pos e2] at h2 ⊢
        exact less_trans h1 h2
      · rw [if_neg e2] at h2 ⊢
        exact h2
    · rw [if_neg e1, decide_eq_true_eq] at h1
      by_cases e2 : y = z
      · subst e2
        rw [if_neg e1]
        exact decide_eq_true h1
      · rw [if_neg e2, decide_eq_true_eq] at h2
        rw [if_neg (by omega)]
        exact decide_eq_true (by omega)
theorem less_total : ∀ {xs ys : List Int}, lessI xs ys = false → lessI ys xs = false → xs = ys
  | [], [], _, _ => rfl
  | [], _ :: _, h, _ => by simp [lessI] at h
  | _ :: _, [], _, h => by simp [lessI] at h
  | x :: xs, y :: ys, h1, h2 => by
    rw [lessI] at h1 h2
    by_cases e : x = y
    · subst e
      rw [if_pos rfl] at h1 h2
      rw [less_total h1 h2]
    · rw [if_neg e, decide_eq_false_iff_not] at h1
      rw [if_neg (fun h => e h.symm), decide_eq_false_iff_not] at h2
      omega
theorem cmp_less : ∀ xs ys : List Int, decide (cmpL xs ys < 0) = lessI xs ys
  | [], [] => rfl
  | [], _ :: _ => rfl
  | _ :: _, [] => rfl
  | x :: xs, y :: ys => by
    rw [cmpL_cons, lessI, ← cmp_less xs ys]
    unfold cmpI
    by_cases e : x = y
    · subst e; simp
    · rw [if_neg e]
      by_cases h : x < y
      · simp [h]
      · have h2 : y < x := by omega
        simp [h, h2]
theorem more_is (xs ys : List Int) (a b : Int) : moreB xs a ys b = (decide (b < a) || (decide (a = b) && lessI xs ys)) := by unfold moreB; rw [cmp_less]
theorem fewer_is (xs ys : List Int) (a b : Int) : fewerB xs a ys b = (decide (a < b) || (decide (a = b) && lessI xs ys)) := by unfold fewerB; rw [cmp_less]

/-! ### The best one -/
structure BetLaw (bet : Bet) : Prop where
  self : ∀ xs a, bet xs a xs a = false
  trans : ∀ xs a ys b zs c, bet xs a ys b = true → bet ys b zs c = true → bet xs a zs c = true
theorem more_law : BetLaw moreB where
  self xs a := by rw [more_is, less_self]; simp
  trans xs a ys b zs c h1 h2 := by
    rw [more_is] at h1 h2 ⊢
    simp only [Bool.or_eq_true, Bool.and_eq_true, decide_eq_true_eq] at h1 h2 ⊢
    rcases h1 with h1 | ⟨h1, l1⟩ <;> rcases h2 with h2 | ⟨h2, l2⟩
    · exact .inl (by omega)
    · exact .inl (by omega)
    · exact .inl (by omega)
    · exact .inr ⟨by omega, less_trans l1 l2⟩
theorem fewer_law : BetLaw fewerB where
  self xs a := by rw [fewer_is, less_self]; simp
  trans xs a ys b zs c h1 h2 := by
    rw [fewer_is] at h1 h2 ⊢
    simp only [Bool.or_eq_true, Bool.and_eq_true, decide_eq_true_eq] at h1 h2 ⊢
    rcases h1 with h1 | ⟨h1, l1⟩ <;> rcases h2 with h2 | ⟨h2, l2⟩
    · exact .inl (by omega)
    · exact .inl (by omega)
    · exact .inl (by omega)
    · exact .inr ⟨by omega, less_trans l1 l2⟩
/-- The set whose list is the best one. -/
def BestOf (bet : Bet) (m : Nat → Bool) (n k : Nat) : Prop := k < n ∧ m k = true ∧ ∀ j, j < n → m j = true → bet (memL j) (memL j).length (memL k) (memL k).length = false
theorem choose_is {bet : Bet} (hl : BetLaw bet) {m : Nat → Bool} : ∀ n, (chooseU bet m n = none ∧ ∀ j, j < n → m j = false) ∨ ∃ k, BestOf bet m n k ∧ chooseU bet m n = some (memL k, ((memL k).length : Int))
  | 0 => .inl ⟨rfl, fun j hj => absurd hj (by omega)⟩
  | n + 1 => by
    rcases choose_is hl (m := m) n with ⟨h1, h2⟩ | ⟨k, ⟨k1, k2, k3⟩, h1⟩
    · cases hm : m n with
      | false =>
        refine .inl ⟨by rw [chooseU_no hm, h1], fun j hj => ?_⟩
        by_cases e : j = n
        · rw [e]; exact hm
        · exact h2 j (by omega)
      | true =>
        refine .inr ⟨n, ⟨by omega, hm, fun j hj hmj => ?_⟩, by rw [chooseU_yes hm, h1]; rfl⟩
        by_cases e : j = n
        · rw [e]; exact hl.self _ _
        · rw [h2 j (by omega)] at hmj; cases hmj
    · cases hm : m n with
      | false =>
        refine .inr ⟨k, ⟨by omega, k2, fun j hj hmj => ?_⟩, by rw [chooseU_no hm, h1]⟩
        by_cases e : j = n
        · rw [e, hm] at hmj; cases hmj
        · exact k3 j (by omega) hmj
      | true =>
        rw [chooseU_yes hm, h1]
        unfold offerL
        cases hb : bet (memL n) ((memL n).length : Int) (memL k) ((memL k).length : Int) with
        | true =>
          refine .inr ⟨n, ⟨by omega, hm, fun j hj hmj => ?_⟩, by
            show (if bet (memL n) ((memL n).length : Int) (memL k) ((memL k).length : Int) = true then _ else _) = _
            rw [if_pos hb]⟩
          by_cases e : j = n
          · rw [e]; exact hl.self _ _
          · rw [← Bool.not_eq_true]
            intro h
            have := hl.trans _ _ _ _ _ _ h hb
            rw [k3 j (by omega) hmj] at this
            cases this
        | false =>
          refine .inr ⟨k, ⟨by omega, k2, fun j hj hmj => ?_⟩, by
            show (if bet (memL n) ((memL n).length : Int) (memL k) ((memL k).length : Int) = true then _ else _) = _
            rw [if_neg (by rw [hb]; simp)]⟩
          by_cases e : j = n
          · rw [e]; exact hb
          · exact k3 j (by omega) hmj
section
variable {x : Book}
theorem ones_lt (n : Nat) : 2 ^ n - 1 < 2 ^ n := by have := Nat.pow_pos (n := n) (a := 2) (by decide); omega
/-- All parts can be cut from all planks. -/
def AllP (x : Book) : Prop := Pack x (fun _ => True) (fun p => p < x.parts.length)
theorem fewest_is (hb : bookOk x = true) : (fewestR x = ([], 4) ∧ ¬ AllP x) ∨ ∃ S, BestOf fewerB (wholeF x) (2 ^ x.planks.length) S ∧ fewestR x = (memL S, 0) ∧ AllP x := by
  unfold fewestR
  rw [if_pos hb]
  rcases choose_is fewer_law (m := wholeF x) (2 ^ x.planks.length) with ⟨h1, h2⟩ | ⟨S, h1, h2⟩
  · refine .inl ⟨by rw [h1]; rfl, fun h => ?_⟩
    have := h2 _ (ones_lt _)
    have h3 : wholeF x (2 ^ x.planks.length - 1) = true := (wholeF_pack hb).2 (h.mono (fun i hi _ => by rw [has_ones]; exact decide_eq_true hi) (fun _ h => h))
    rw [h3] at this; cases this
  · refine .inr ⟨S, h1, by rw [h2]; rfl, ?_⟩
    exact ((wholeF_pack hb).1 h1.2.1).mono (fun _ _ _ => trivial) (fun _ h => h)
theorem most_is (hb : bookOk x = true) : ∃ s, BestOf moreB (allF x) 32 s ∧ s < 2 ^ x.parts.length ∧ mostR x = (memL s, 0) := by
  unfold mostR mostM
  rw [if_pos hb]
  rcases choose_is more_law (m := allF x) 32 with ⟨h1, h2⟩ | ⟨s, h1, h2⟩
  · have h3 : allF x 0 = true := (all_pack hb (Nat.pow_pos (by decide))).2 (Pack.none fun p h => by rw [has_zero] at h; cases h)
    rw [h2 0 (by omega)] at h3; cases h3
  · exact ⟨s, h1, stock_false hb _ (Nat.le_refl _) s h1.2.1, by
      have h3 : chooseU moreB (stockCut (stockF x) (2 ^ x.planks.length - 1) x.planks.length) 32 = some (memL s, ((memL s).length : Int)) := h2
      rw [h3]; rfl⟩
theorem lacks_is (hb : bookOk x = true) : (∃ k, k < x.parts.length ∧ lacksR x = ((k : Int), 0) ∧ Pack x (fun _ => True) (fun p => p < k) ∧ ¬ Pack x (fun _ => True) (fun p => p < k + 1)) ∨ (lacksR x = (0, 4) ∧ AllP x) := by
  have hp : ∀ k, k ≤ x.parts.length → (allF x (2 ^ k - 1) = true ↔ Pack x (fun _ => True) (fun p => p < k)) := by
    intro k hk
    rw [all_pack hb (by have := Nat.pow_le_pow_right (n := 2) (by decide) hk; have := ones_lt k; omega)]
    constructor
    · exact fun h => h.mono (fun _ _ h => h) (fun p h => by rw [has_ones]; exact decide_eq_true h)
    · exact fun h => h.mono (fun _ _ h => h) (fun p h => by rw [has_ones] at h; simpa using h)
  unfold lacksR
  rw [if_pos hb]
  by_cases hx : ∃ k, k < x.parts.length ∧ allF x (2 ^ (k + 1) - 1) = false
  · obtain ⟨k0, h0⟩ := hx
    obtain ⟨k, hk, h1, h2⟩ := least_some (f := fun k => if allF x (2 ^ (k + 1) - 1) = false then some () else none) k0 (by rw [if_pos h0.2]; simp)
    have h1' : allF x (2 ^ (k + 1) - 1) = false := by
      cases e : allF x (2 ^ (k + 1) - 1) with
      | false => rfl
      | true => simp [e] at h1
    have h2' : ∀ j, j < k → allF x (2 ^ (j + 1) - 1) = true := fun j hj => by
      have := h2 j hj
      cases e : allF x (2 ^ (j + 1) - 1) with
      | true => rfl
      | false => simp [e] at this
    refine .inl ⟨k, by omega, lackL_some (by omega) h2' h1', ?_, fun h => ?_⟩
    · cases k with
      | zero => exact Pack.none fun p h => by omega
      | succ k => exact (hp (k + 1) (by omega)).1 (h2' k (by omega))
    · rw [(hp (k + 1) (by omega)).2 h] at h1'; cases h1'
  · have hall : ∀ j, j < x.parts.length → allF x (2 ^ (j + 1) - 1) = true := fun j hj => by
      cases e : allF x (2 ^ (j + 1) - 1) with
      | true => rfl
      | false => exact absurd ⟨j, hj, e⟩ hx
    refine .inr ⟨lackL_none hall, ?_⟩
    have hs1 := (good_of hb).parts.1
    have := (hp x.parts.length (Nat.le_refl _)).1 (by
      have := hall (x.parts.length - 1) (by omega)
      rwa [show x.parts.length - 1 + 1 = x.parts.length by omega] at this)
    exact this
end
end Go.Proofs.Ytbbolibkheelmaa
