/- Plain mathematics: parts that are shared by a list of planks. Plain mathematics: for each set of parts the least inch that is free behind all of them, on one plank. Walks: the specification's own joints; is a part sound in each truth? Walks: is a part sound in each truth, in some truth (the specification)? -/
import Derived.Test.YtbbolibkheelmaaPfs07
import Derived.Test.YtbbolibkheelmaaPfs04
namespace Go.Proofs.Ytbbolibkheelmaa
open Go.RowKit Go.Shelf

theorem and_all : (List.range 32).all (fun (i : Nat) => (List.range 32).all fun (j : Nat) => (bits BinOp.and IntKind.i64 (i : Int) (j : Int) == ((i &&& j : Nat) : Int))) = true := by kernel_rfl
theorem and_bit {i j : Nat} (hi : i < 32) (hj : j < 32) : bits BinOp.and IntKind.i64 (i : Int) (j : Int) = ((i &&& j : Nat) : Int) := by
  have := List.all_eq_true.1 and_all i (List.mem_range.2 hi)
  have := List.all_eq_true.1 this j (List.mem_range.2 hj)
  simpa using this
theorem sub_all : (List.range 32).all (fun (s : Nat) => (List.range 32).all fun (t : Nat) => !(t &&& s == t) || (List.range 5).all fun (p : Nat) => hasN (s - t) p == (hasN s p && !hasN t p)) = true := by kernel_rfl
theorem sub_has {s t : Nat} (hs : s < 32) (ht : t < 32) (h : t &&& s = t) (p : Nat) : hasN (s - t) p = (hasN s p && !hasN t p) := by
  by_cases hp : p < 5
  · have := List.all_eq_true.1 sub_all s (List.mem_range.2 hs)
    have := List.all_eq_true.1 this t (List.mem_range.2 ht)
    rw [h] at this
    simp only [beq_self_eq_true, Bool.not_true, Bool.false_or] at this
    have := List.all_eq_true.1 this p (List.mem_range.2 hp)
    simpa using this
  · have h1 : ∀ u : Nat, u < 32 → hasN u p = false := fun u hu => by
      rw [← Bool.not_eq_true]; exact fun h => hp (has_lt (n := 5) (by omega) h)
    rw [h1 s hs, h1 (s - t) (by omega)]; rfl
theorem and_le {s t : Nat} (h : t &&& s = t) : t ≤ s := by rw [← h]; exact Nat.and_le_right

/-- Can the parts of a set be shared by some planks? -/
def sharedR (x : Book) : List Int → Nat → Bool
  | [], set => set == 0
  | i :: r, set => anyB (set + 1) fun t => (t &&& set == t) && (canLay x i.toNat t && sharedR x r (set - t))
theorem shared_yes {x : Book} (hb : bookOk x = true) : ∀ (l : List Int) (set : Nat), (∀ y ∈ l, 0 ≤ y ∧ y < x.planks.length) → set < 2 ^ x.parts.length → Pack x (fun j => (j : Int) ∈ l) (fun p => hasN set p = true) → sharedR x l set = true
  | [], set, _, _, h => by
    show (set == 0) = true
    rw [beq_iff_eq]
    obtain ⟨g, a, h1, _⟩ := h
    refine set_ext fun p => ?_
    rw [has_zero]
    cases e : hasN set p with
    | false => rfl
    | true => exact absurd (h1 p e).2.1 (by simp)
  | i :: r, set, hl, hs, h => by
    have hi := hl i (by simp)
    obtain ⟨i', rfl⟩ := Int.eq_ofNat_of_zero_le hi.1
    have hi2 : i' < x.planks.length := by omega
    have h' : Pack x (fun j => (j : Int) ∈ r ∨ j = i') (fun p => hasN set p = true) := h.mono (fun j _ hj => by
      rcases List.mem_cons.1 hj with e | e
      · exact .inr (by omega)
      · exact .inl e) (fun _ h => h)
    rw [Pack.split hi2] at h'
    obtain ⟨D, h1, h2⟩ := h'
    obtain ⟨t, ht, hht⟩ := set_of (fun p => hasN set p && D p) x.parts.length
    have hs32 := lt32 hb hs
    have ht32 := lt32 hb ht
    have e1 : ∀ p, hasN t p = (hasN set p && D p) := fun p => by
      rw [hht]
      cases h : hasN set p with
      | false => simp
      | true => rw [decide_eq_true (has_lt hs h)]; simp
    have hand : t &&& set = t := set_ext fun p => by
      rw [has_and, e1]
      cases hasN set p <;> cases D p <;> rfl
    show anyB (set + 1) _ = true
    rw [anyB_iff]
    refine ⟨t, by have := and_le hand; omega, ?_⟩
    rw [Bool.and_eq_true, Bool.and_eq_true, beq_iff_eq]
    refine ⟨hand, ?_, ?_⟩
    · rw [Int.toNat_natCast]
      exact (canLay_one hb hi2 ht).2 (h2.mono fun p hp => by rw [e1] at hp; simpa using hp)
    · refine shared_yes hb r (set - t) (fun y hy => hl y (by simp [hy])) (by omega) (h1.mono (fun j _ hj => hj.1) (fun p hp => ?_))
      rw [sub_has hs32 ht32 hand, e1] at hp
      cases hd : D p with
      | false => rw [hd] at hp; simpa using hp
      | true =>
        rw [hd] at hp
        cases hh : hasN set p <;> rw [hh] at hp <;> simp at hp
theorem lay_can {x : Book} {i t : Nat} (hb : bookOk x = true) (hi : i < x.planks.length) (ht : t < 2 ^ x.parts.length) : (layR x i (memU t x.parts.length)).2 = (if canLay x i t = true then 0 else 4) := by
  have hP : Parts x (memU t x.parts.length) := parts_mem (good_of hb).parts.2 rfl
  rw [lay_parts hb hi hP]
  unfold canLay
  rw [memU_L ht (lt32 hb ht)]
  cases layL (boardM (gw x.planks i) x.parts x.parts.length) x.parts (gw x.planks i).long (memL t) <;> rfl
end Go.Proofs.Ytbbolibkheelmaa
namespace Go.Proofs.Ytbbolibkheelmaa
open Go.RowKit Go.Shelf

/-- With one part as the last, behind the first n of its spots. -/
def endI (free len : Int) (sp : List Int) (v : Int) : Nat → Int
  | 0 => v
  | n + 1 => if free ≤ gi sp n then min (endI free len sp v n) (gi sp n + len) else endI free len sp v n
/-- With one of the first p parts as the last. -/
def endP (x : Book) (i : Nat) (f : Nat → Int) (s : Nat) : Nat → Int
  | 0 => 99
  | p + 1 => if hasN s p = true then endI (f (clrN s p)) (plen x p) (spotsL x i p) (endP x i f s p) (spotsL x i p).length else endP x i f s p
def updI (m : Nat → Int) (i : Nat) (v : Int) : Nat → Int := fun j => if j = i then v else m j
/-- The table, when the sets below k are done. -/
def endT (x : Book) (i : Nat) : Nat → Nat → Int
  | 0 => fun _ => 0
  | k + 1 => if k = 0 then fun _ => 0 else updI (endT x i k) k (endP x i (endT x i k) k x.parts.length)

theorem endI_le {free len v m : Int} {sp : List Int} : ∀ n, endI free len sp v n ≤ m ↔ v ≤ m ∨ ∃ j, j < n ∧ free ≤ gi sp j ∧ gi sp j + len ≤ m
  | 0 => by simp [endI]
  | n + 1 => by
    have ih := endI_le (free := free) (len := len) (v := v) (m := m) (sp := sp) n
    unfold endI
    by_cases h : free ≤ gi sp n
    · rw [if_pos h, show min (endI free len sp v n) (gi sp n + len) ≤ m ↔ endI free len sp v n ≤ m ∨ gi sp n + len ≤ m by omega, ih]
      constructor
      · rintro ((h1 | ⟨j, hj, h1⟩) | h1)
        · exact .inl h1
        · exact .inr ⟨j, by omega, h1⟩
        · exact .inr ⟨n, by omega, h, h1⟩
      · rintro (h1 | ⟨j, hj, h1, h2⟩)
        · exact .inl (.inl h1)
        · by_cases e : j = n
          · subst e; exact .inr h2
          · exact .inl (.inr ⟨j, by omega, h1, h2⟩)
    · rw [if_neg h, ih]
      constructor
      · rintro (h1 | ⟨j, hj, h1⟩)
        · exact .inl h1
        · exact .inr ⟨j, by omega, h1⟩
      · rintro (h1 | ⟨j, hj, h1, h2⟩)
        · exact .inl h1
        · by_cases e : j = n
          · subst e; exact absurd h1 h
          · exact .inr ⟨j, by omega, h1, h2⟩
theorem endP_le {x : Book} {i s : Nat} {f : Nat → Int} {m : Int} : ∀ p, endP x i f s p ≤ m ↔ 99 ≤ m ∨ ∃ q, q < p ∧ hasN s q = true ∧ ∃ t, t ∈ spotsL x i q ∧ f (clrN s q) ≤ t ∧ t + plen x q ≤ m
  | 0 => by simp [endP]
  | p + 1 => by
    have ih := endP_le (x := x) (i := i) (s := s) (f := f) (m := m) p
    unfold endP
    by_cases h : hasN s p = true
    · rw [if_pos h, endI_le, ih]
      constructor
      · rintro ((h1 | ⟨q, hq, h1⟩) | ⟨j, hj, h1, h2⟩)
        · exact .inl h1
        · exact .inr ⟨q, by omega, h1⟩
        · exact .inr ⟨p, by omega, h, gi (spotsL x i p) j, by rw [gi_eq hj]; exact List.getElem_mem hj, h1, h2⟩
      · rintro (h1 | ⟨q, hq, h1, t, ht, h2, h3⟩)
        · exact .inl (.inl h1)
        · by_cases e : q = p
          · subst e
            obtain ⟨j, hj, e⟩ := List.mem_iff_getElem.1 ht
            exact .inr ⟨j, hj, by rw [gi_eq hj, e]; exact h2, by rw [gi_eq hj, e]; exact h3⟩
          · exact .inl (.inr ⟨q, by omega, h1, t, ht, h2, h3⟩)
    · rw [if_neg h, ih]
      constructor
      · rintro (h1 | ⟨q, hq, h1⟩)
        · exact .inl h1
        · exact .inr ⟨q, by omega, h1⟩
      · rintro (h1 | ⟨q, hq, h1, h2⟩)
        · exact .inl h1
        · by_cases e : q = p
          · subst e; exact absurd h1 h
          · exact .inr ⟨q, by omega, h1, h2⟩

theorem spot_iff {x : Book} {i p : Nat} {t : Int} (hb : bookOk x = true) (hi : i < x.planks.length) (hp : p < x.parts.length) : t ∈ spotsL x i p ↔ Spot x i p t := by
  rw [spot_mem hb hi (by omega) (by omega)]
  unfold Spot
  simp only [Int.toNat_natCast]
  constructor
  · rintro ⟨h1, h2, h3⟩
    exact ⟨h1, h2, by rw [← board_two hp h1 h2]; exact h3⟩
  · rintro ⟨h1, h2, h3⟩
    exact ⟨h1, h2, by rw [board_two hp h1 h2]; exact h3⟩

/-- The parts of a set can be laid, all of them before an inch. -/
def EndLe (x : Book) (i s : Nat) (m : Int) : Prop := ∃ a : Nat → Int, (∀ p, hasN s p = true → Spot x i p (a p) ∧ a p + plen x p ≤ m) ∧ ∀ p q, hasN s p = true → hasN s q = true → p ≠ q → Apart x p q (a p) (a q)
def LeastEnd (x : Book) (i s : Nat) (v : Int) : Prop := (v = 99 ∧ ¬ OneP x i (fun p => hasN s p = true)) ∨ (0 ≤ v ∧ v ≤ 16 ∧ EndLe x i s v ∧ ∀ m, 0 ≤ m → EndLe x i s m → v ≤ m)
theorem EndLe.one {x : Book} {i s : Nat} {m : Int} (h : EndLe x i s m) : OneP x i (fun p => hasN s p = true) := by
  obtain ⟨a, h1, h2⟩ := h
  exact ⟨a, fun p hp => (h1 p hp).1, h2⟩
theorem one_end {x : Book} {i s : Nat} (hb : bookOk x = true) (hi : i < x.planks.length) (h : OneP x i (fun p => hasN s p = true)) : EndLe x i s 16 := by
  obtain ⟨a, h1, h2⟩ := h
  refine ⟨a, fun p hp => ⟨h1 p hp, ?_⟩, h2⟩
  have h3 := (h1 p hp).2.1
  have h4 := (good_of hb).wood i hi
  unfold plen
  omega
theorem greatest_of {P : Nat → Prop} {a : Nat → Int} : ∀ n, (∃ p, p < n ∧ P p) → ∃ q, q < n ∧ P q ∧ ∀ p, p < n → P p → a p ≤ a q
  | 0, ⟨p, hp, _⟩ => by omega
  | n + 1, ⟨p, hp, h⟩ => by
    by_cases hx : ∃ p, p < n ∧ P p
    · obtain ⟨q, h1, h2, h3⟩ := greatest_of (a := a) n hx
      by_cases hn : P n ∧ a q ≤ a n
      · refine ⟨n, by omega, hn.1, fun p hp hP => ?_⟩
        by_cases e : p = n
        · subst e; omega
        · have := h3 p (by omega) hP; omega
      · refine ⟨q, by omega, h2, fun p hp hP => ?_⟩
        by_cases e : p = n
        · subst e
          have : ¬ a q ≤ a p := fun h => hn ⟨hP, h⟩
          omega
        · exact h3 p (by omega) hP
    · have e : p = n := by
        by_cases e : p = n
        · exact e
        · exact absurd ⟨p, by omega, h⟩ hx
      subst e
      refine ⟨p, by omega, h, fun q hq hP => ?_⟩
      by_cases e : q = p
      · subst e; omega
      · exact absurd ⟨q, by omega, hP⟩ hx
section
variable {x : Book} {i : Nat}
theorem end_step (hb : bookOk x = true) (hi : i < x.planks.length) {f : Nat → Int} {s : Nat} (hs : s < 2 ^ x.parts.length) (h0 : s ≠ 0) (hf : ∀ p, hasN s p = true → LeastEnd x i (clrN s p) (f (clrN s p))) {m : Int} (hm0 : 0 ≤ m) (hm : m < 99) :
    endP x i f s x.parts.length ≤ m ↔ EndLe x i s m := by
  have hs32 := lt32 hb hs
  rw [endP_le]
  constructor
  · rintro (h | ⟨q, hq, hsq, t, ht, h1, h2⟩)
    · omega
    rw [spot_iff hb hi hq] at ht
    have hpq := ((good_of hb).shape q hq).1
    have hw := (good_of hb).wood i hi
    have ht2 := ht.2.1
    rcases hf q hsq with ⟨e, _⟩ | ⟨v0, v1, ⟨a, a1, a2⟩, _⟩
    · rw [e] at h1; unfold plen at h2; omega
    have hcl : ∀ p, hasN s p = true → p ≠ q → hasN (clrN s q) p = true := fun p hp hpq => by rw [clr_has hs32 hsq, hp, decide_eq_true hpq]; rfl
    refine ⟨fun p => if p = q then t else a p, fun p hp => ?_, fun p r hp hr hpr => ?_⟩
    · by_cases e : p = q
      · subst e
        simp only [if_true]
        exact ⟨ht, h2⟩
      · simp only [if_neg e]
        obtain ⟨b1, b2⟩ := a1 p (hcl p hp e)
        exact ⟨b1, by unfold plen at *; omega⟩
    · by_cases e : p = q
      · subst e
        have e2 : r ≠ p := fun h => hpr h.symm
        simp only [if_true, if_neg e2]
        obtain ⟨b1, b2⟩ := a1 r (hcl r hr e2)
        exact .inr (by omega)
      · by_cases e2 : r = q
        · subst e2
          simp only [if_true, if_neg e]
          obtain ⟨b1, b2⟩ := a1 p (hcl p hp e)
          exact .inl (by omega)
        · simp only [if_neg e, if_neg e2]
          exact a2 p r (hcl p hp e) (hcl r hr e2) hpr
  · rintro ⟨a, a1, a2⟩
    have hx : ∃ p, p < x.parts.length ∧ hasN s p = true := by
      by_cases hx : ∃ p, hasN s p = true
      · obtain ⟨p, hp⟩ := hx
        exact ⟨p, has_lt hs hp, hp⟩
      · exact absurd (set_ext fun p => by
          rw [has_zero]
          cases e : hasN s p with
          | false => rfl
          | true => exact absurd ⟨p, e⟩ hx) h0
    obtain ⟨q, hq, hsq, hmax⟩ := greatest_of (a := a) x.parts.length hx
    have hsp := a1 q hsq
    refine .inr ⟨q, hq, hsq, a q, (spot_iff hb hi hq).2 hsp.1, ?_, hsp.2⟩
    have hcl : ∀ p, hasN (clrN s q) p = true → hasN s p = true ∧ p ≠ q := fun p hp => by
      rw [clr_has hs32 hsq, Bool.and_eq_true, decide_eq_true_eq] at hp; exact hp
    have hE : EndLe x i (clrN s q) (a q) := by
      refine ⟨a, fun p hp => ?_, fun p r hp hr => a2 p r (hcl p hp).1 (hcl r hr).1⟩
      obtain ⟨c1, c2⟩ := hcl p hp
      refine ⟨(a1 p c1).1, ?_⟩
      have h3 := a2 p q c1 hsq c2
      have h4 := hmax p (has_lt hs c1) c1
      have h5 := ((good_of hb).shape q hq).1
      unfold Apart plen at h3
      unfold plen
      omega
    rcases hf q hsq with ⟨_, e⟩ | ⟨_, _, _, h⟩
    · exact absurd hE.one e
    · exact h _ hsp.1.1 hE
theorem end_least (hb : bookOk x = true) (hi : i < x.planks.length) : ∀ k s, s < k → k ≤ 2 ^ x.parts.length → LeastEnd x i s (endT x i k s)
  | 0, s, h, _ => by omega
  | k + 1, s, h, hk => by
    unfold endT
    by_cases hk0 : k = 0
    · rw [if_pos hk0]
      obtain rfl : s = 0 := by omega
      exact .inr ⟨by omega, by omega, ⟨fun _ => 0, ⟨fun p hp => absurd hp (by rw [has_zero]; simp), fun p q hp => absurd hp (by rw [has_zero]; simp)⟩⟩, fun m hm _ => hm⟩
    rw [if_neg hk0]
    unfold updI
    by_cases e : s = k
    · subst e
      rw [if_pos rfl]
      have hf : ∀ p, hasN s p = true → LeastEnd x i (clrN s p) (endT x i s (clrN s p)) := fun p hp => end_least hb hi s _ (clr_less hp) (by omega)
      have hstep := fun m h1 h2 => end_step hb hi (f := endT x i s) (m := m) (show s < 2 ^ x.parts.length by omega) hk0 hf h1 h2
      obtain ⟨v, hv⟩ : ∃ v, v = endP x i (endT x i s) s x.parts.length := ⟨_, rfl⟩
      rw [← hv] at hstep ⊢
      have h99 : v ≤ 99 := by rw [hv, endP_le]; exact .inl (Int.le_refl _)
      by_cases hv99 : v = 99
      · exact .inl ⟨hv99, fun h => by have := (hstep 16 (by omega) (by omega)).2 (one_end hb hi h); omega⟩
      · have hv0 : 0 ≤ v := by
          have h1 : endP x i (endT x i s) s x.parts.length ≤ v := by omega
          rw [endP_le] at h1
          rcases h1 with h1 | ⟨q, hq, _, t, ht, _, h1⟩
          · omega
          · rw [spot_iff hb hi hq] at ht
            have := ht.1
            have := ((good_of hb).shape q hq).1
            unfold plen at h1
            omega
        have hE := (hstep v hv0 (by omega)).1 (Int.le_refl _)
        refine .inr ⟨hv0, (hstep 16 (by omega) (by omega)).2 (one_end hb hi hE.one), hE, fun m hm h => ?_⟩
        by_cases hm2 : m < 99
        · exact (hstep m hm hm2).2 h
        · omega
    · rw [if_neg e]
      exact end_least hb hi k s (by omega) (by omega)
/-- What a plank gives, as the table says it. -/
theorem end_can (hb : bookOk x = true) (hi : i < x.planks.length) {s : Nat} (hs : s < 2 ^ x.parts.length) : decide (endT x i (2 ^ x.parts.length) s < 99) = canLay x i s := by
  rw [Bool.eq_iff_iff, decide_eq_true_eq, canLay_one hb hi hs]
  rcases end_least hb hi _ s hs (Nat.le_refl _) with ⟨h1, h2⟩ | ⟨_, h1, h2, _⟩
  · constructor
    · intro h; omega
    · exact fun h => absurd h h2
  · exact ⟨fun _ => h2.one, fun _ => by omega⟩
theorem end_99 (hb : bookOk x = true) (hi : i < x.planks.length) {s : Nat} (hs : s < 2 ^ x.parts.length) : (endT x i (2 ^ x.parts.length) s = 99 ∧ canLay x i s = false) ∨ (endT x i (2 ^ x.parts.length) s ≠ 99 ∧ canLay x i s = true) := by
  have h := end_can hb hi hs
  rcases end_least hb hi _ s hs (Nat.le_refl _) with ⟨h1, _⟩ | ⟨_, h1, _⟩
  · exact .inl ⟨h1, by rw [← h]; simp [h1]⟩
  · exact .inr ⟨by omega, by rw [← h]; exact decide_eq_true (by omega)⟩
theorem endI_in {free len v : Int} {sp : List Int} (hv : 0 ≤ v ∧ v ≤ 99) (hl : 0 ≤ len) (hsp : ∀ j, j < sp.length → 0 ≤ gi sp j) : ∀ n, n ≤ sp.length → 0 ≤ endI free len sp v n ∧ endI free len sp v n ≤ 99
  | 0, _ => hv
  | n + 1, hn => by
    have ih := endI_in (free := free) hv hl hsp n (by omega)
    have := hsp n (by omega)
    unfold endI
    split <;> omega
theorem spots_in (hb : bookOk x = true) (hi : i < x.planks.length) {p : Nat} (hp : p < x.parts.length) {j : Nat} (hj : j < (spotsL x i p).length) : 0 ≤ gi (spotsL x i p) j ∧ gi (spotsL x i p) j ≤ 16 := by
  have hm : gi (spotsL x i p) j ∈ spotsL x i p := by rw [gi_eq hj]; exact List.getElem_mem hj
  rw [spot_iff hb hi hp] at hm
  have h1 := hm.1
  have h2 := hm.2.1
  have h3 := (good_of hb).wood i hi
  have h4 := (good_of hb).shape p hp
  omega
theorem endP_in (hb : bookOk x = true) (hi : i < x.planks.length) {f : Nat → Int} {s : Nat} : ∀ p, p ≤ x.parts.length → 0 ≤ endP x i f s p ∧ endP x i f s p ≤ 99
  | 0, _ => by unfold endP; omega
  | p + 1, hp => by
    have ih := endP_in hb hi (f := f) (s := s) p (by omega)
    unfold endP
    split
    · exact endI_in ih (by have := ((good_of hb).shape p (by omega)).1; unfold plen; omega) (fun j hj => (spots_in hb hi (by omega) hj).1) _ (Nat.le_refl _)
    · exact ih
theorem endT_in (hb : bookOk x = true) (hi : i < x.planks.length) : ∀ k s, 0 ≤ endT x i k s ∧ endT x i k s ≤ 99
  | 0, s => by show (0 : Int) ≤ 0 ∧ (0 : Int) ≤ 99; omega
  | k + 1, s => by
    unfold endT
    split
    · show (0 : Int) ≤ 0 ∧ (0 : Int) ≤ 99; omega
    · unfold updI
      split
      · exact endP_in hb hi _ (Nat.le_refl _)
      · exact endT_in hb hi k s

/-! ### Shared by planks -/
theorem shared_no (hb : bookOk x = true) : ∀ (l : List Int) (set : Nat), l.Nodup → (∀ y ∈ l, 0 ≤ y ∧ y < x.planks.length) → set < 2 ^ x.parts.length → sharedR x l set = true → Pack x (fun j => (j : Int) ∈ l) (fun p => hasN set p = true)
  | [], set, _, _, _, h => by
    have h' : (set == 0) = true := h
    rw [beq_iff_eq] at h'
    subst h'
    exact Pack.none fun p h => by rw [has_zero] at h; cases h
  | i :: r, set, hn, hl, hs, h => by
    have h0 := hl i (by simp)
    obtain ⟨i', rfl⟩ := Int.eq_ofNat_of_zero_le h0.1
    have hi2 : i' < x.planks.length := by omega
    have h' : anyB (set + 1) (fun t => (t &&& set == t) && (canLay x ((i' : Nat) : Int).toNat t && sharedR x r (set - t))) = true := h
    rw [anyB_iff] at h'
    obtain ⟨t, ht, h1⟩ := h'
    rw [Bool.and_eq_true, Bool.and_eq_true, beq_iff_eq, Int.toNat_natCast] at h1
    obtain ⟨hand, h2, h3⟩ := h1
    have hs32 := lt32 hb hs
    have hts : t < 2 ^ x.parts.length := by have := and_le hand; omega
    have ht32 := lt32 hb hts
    rw [List.nodup_cons] at hn
    have ih := shared_no hb r (set - t) hn.2 (fun y hy => hl y (by simp [hy])) (by omega) h3
    have hP : Pack x (fun j => (j : Int) ∈ r ∨ j = i') (fun p => hasN set p = true) := by
      rw [Pack.split hi2]
      refine ⟨fun p => hasN t p, ih.mono (fun j _ hj => ⟨hj, fun e => hn.1 (by rw [← e]; exact hj)⟩) (fun p hp => ?_), ((canLay_one hb hi2 hts).1 h2).mono (fun p hp => hp.2)⟩
      rw [sub_has hs32 ht32 hand, hp.1, show hasN t p = false from hp.2]; rfl
    exact hP.mono (fun j _ hj => by
      rcases hj with hj | hj
      · simp [hj]
      · simp [hj]) (fun _ h => h)
theorem memU_nodup (s n : Nat) : (memU s n).Nodup := by
  have h : (memU s n).Pairwise (· < ·) := pair_filter _ _
  exact h.imp (fun h e => by omega)
theorem shared_memU (hb : bookOk x = true) {S s : Nat} (hs : s < 2 ^ x.parts.length) : sharedR x (memU S x.planks.length) s = true ↔ Pack x (fun i => hasN S i = true) (fun p => hasN s p = true) := by
  have hin : ∀ y ∈ memU S x.planks.length, 0 ≤ y ∧ y < (x.planks.length : Int) := fun y hy => by
    obtain ⟨p, rfl, hp, _⟩ := mem_memU.1 hy
    omega
  constructor
  · exact fun h => (shared_no hb _ s (memU_nodup _ _) hin hs h).mono (fun j _ hj => by
      obtain ⟨p, e, _, hp⟩ := mem_memU.1 hj
      obtain rfl : j = p := by omega
      exact hp) (fun _ h => h)
  · exact fun h => shared_yes hb _ s hin hs (h.mono (fun j hj hS => mem_memU.2 ⟨j, rfl, hj, hS⟩) (fun _ h => h))
theorem shared_all (hb : bookOk x = true) {s : Nat} (hs : s < 2 ^ x.parts.length) : sharedR x (memU (2 ^ x.planks.length - 1) x.planks.length) s = allF x s := by
  rw [Bool.eq_iff_iff, shared_memU hb hs, all_pack hb hs]
  constructor
  · exact fun h => h.mono (fun _ _ _ => trivial) (fun _ h => h)
  · exact fun h => h.mono (fun i hi _ => by rw [has_ones]; exact decide_eq_true hi) (fun _ h => h)
theorem shared_whole (hb : bookOk x = true) {S : Nat} : sharedR x (memU S x.planks.length) (2 ^ x.parts.length - 1) = wholeF x S := by
  rw [Bool.eq_iff_iff, shared_memU hb (ones_lt _), wholeF_pack hb]
  constructor
  · exact fun h => h.mono (fun _ _ h => h) (fun p hp => by rw [has_ones]; exact decide_eq_true hp)
  · exact fun h => h.mono (fun _ _ h => h) (fun p hp => by rw [has_ones] at hp; simpa using hp)
end
end Go.Proofs.Ytbbolibkheelmaa
namespace Go.Proofs.Ytbbolibkheelmaa
open Go.RowKit Go.Shelf

/-- The inches of the first k joints. -/
def posU (x : Shape) (t : Int) (turned : Bool) (k : Nat) : List Int := (List.range k).map fun j => posJ x t turned j
theorem posU_succ (x : Shape) (t : Int) (turned : Bool) (k : Nat) : posU x t turned (k + 1) = posU x t turned k ++ [posJ x t turned k] := by
  unfold posU; rw [List.range_succ, List.map_append]; rfl
theorem posU_len (x : Shape) (t : Int) (turned : Bool) (k : Nat) : (posU x t turned k).length = k := by unfold posU; rw [List.length_map, List.length_range]
theorem posU_get (x : Shape) (t : Int) (turned : Bool) {j k : Nat} (h : j < k) : gi (posU x t turned k) j = posJ x t turned j := by
  unfold gi posU
  rw [List.getD_eq_getElem?_getD, List.getElem?_map, List.getElem?_range h]; rfl

attribute [local go_sem ↓] append_alias

set_option maxRecDepth 100000 in
set_option maxHeartbeats 4000000 in
theorem refJoints_any {B : Nat} {v : Value} {x : Shape} {t : Int} {tb turned : Bool} {w : World} (hB : B ≤ w.heap.size) (hj : JointsV B w v x) (hin : JointsIn x) (hl : x.long ≤ 12) (h3 : x.joints.length ≤ 3) (h0 : 0 ≤ t) (h1 : t ≤ 16) :
    Calls Try.prog 97 #[.agg #[.int .i64 x.long, v, .bool tb], .int .i64 t, .bool turned] w fun e w' => ∃ a m c, e = .returned (.slice a m c) ∧ IntsAt w'.heap.size w' a m (posU x t turned x.joints.length) ∧ Below w.heap.size w w' := by
  obtain ⟨ja, jn, jc, rfl, hjs⟩ := hj
  have hjn := Lib.hid hjs.len
  have hj3 : jn ≤ 3 := by rw [← hjs.len]; exact h3
  obtain ⟨L, hL⟩ : ∃ L, L = x.long := ⟨_, rfl⟩
  rw [← hL] at hl ⊢
  have hL' := Lib.hid hL
  clear hL
  obtain ⟨W0, hW0⟩ : ∃ W0, W0 = (w.alloc (.cells #[.int .i64 L, .slice ja jn jc, .bool tb] 50)).alloc (.cells #[] 3) := ⟨_, rfl⟩
  have hb0 : Below w.heap.size w W0 := by rw [hW0]; exact ((Below.refl _ _).alloc (Nat.le_refl _) _).alloc (by simp) _
  have hk0 : Blk W0 w.heap.size #[.int .i64 L, .slice ja jn jc, .bool tb] := by rw [hW0]; exact (Blk.new w _ _).alloc _
  have hz0 : W0.heap.size = w.heap.size + 2 := by rw [hW0]; simp
  have ho0 : W0.ownsRow (w.heap.size + 1) 3 1 (.slice (some ⟨w.heap.size + 1, 0, none⟩) 0 0) 0 [] := by
    rw [hW0]
    have := World.ownsRow_lit (base := w.heap.size + 1) (e := 3) (size := 1) (w.alloc (.cells #[.int .i64 L, .slice ja jn jc, .bool tb] 50)) #[] 0 (by simp) (by decide) rfl
    rw [World.size_alloc] at this
    exact this
  have hjs0 := Lib.hid (hjs.keep (w' := W0) (Nat.le_refl _) (fun b o h => bcells hb0 b o (by omega)))
  have hl0 : w.heap.size + 1 < W0.heap.size := by omega
  have hin' := Lib.hid hin
  clear hjs hz0 hin
  go_enter Try.func97, Try.ntmps97
  replace hW0 := hW0.symm
  go_wp2_with (fail)
  clear hW0
  obtain ⟨i0, hi, hz0, hz1, hz2⟩ := info_parts intInfo3
  go_loopw [7, 8] (fun l i wr => ∃ k : Nat, k ≤ jn ∧ i = .int .i64 k ∧ wr.ownsRow (w.heap.size + 1) 3 1 l (posU x t turned k).length ((posU x t turned k).map intV) ∧ SameBut (fun i => w.heap.size + 1 ≤ i) W0 wr) (fun _ i _ => jn - (intOf i).toNat)
  case atStart => exact ⟨0, by omega, rfl, ho0, SameBut.refl _ _⟩
  case round =>
    obtain ⟨k, hk, rfl, hown, hs⟩ := hrel
    obtain ⟨va, vn, vc, hv⟩ := own_slice hown
    subst hv
    have hkr := hk0.same hs (by omega)
    have q0 : wr.cell? ⟨w.heap.size, 0, none⟩ = some (.int .i64 L) := hkr.cell
    have q1 : wr.cell? ⟨w.heap.size, 1, none⟩ = some (.slice ja jn jc) := hkr.cell
    have lr : w.heap.size < wr.heap.size := hkr.lt
    by_cases hlt : k < jn
    · obtain ⟨jb, jo, rfl, hjB, hjc⟩ := hjs0.out.get k hlt
      have g1 := (hs.cell (o := jo + k) (by omega) (by omega)).trans (hjc k hlt).1
      clear hjc
      have hJ := hin'.out k (by rw [hjn.out]; exact hlt)
      rw [← hL'.out] at hJ
      obtain ⟨J, hJe⟩ : ∃ J, J = gi x.joints k := ⟨_, rfl⟩
      rw [← hJe] at hJ g1
      obtain ⟨j0, j1⟩ := hJ
      have lj : jb < wr.heap.size := by have := hs.size; omega
      have hki : (k : Int) < jn := by omega
      have hln := Lib.hid (posU_len x t turned k)
      obtain ⟨Z, hZ⟩ : ∃ Z, Z = posJ x t turned k := ⟨_, rfl⟩
      have hsu : Hid (posU x t turned (k + 1) = posU x t turned k ++ [Z]) := Lib.hid (by rw [posU_succ, ← hZ])
      have hZe : Z = if turned = true then t + L - 1 - J else t + J := by rw [hZ, hJe, hL'.out]; rfl
      clear hZ hJe
      obtain ⟨v', w7, hap, hown7, hgr7, _, _⟩ := run_append_own_at (P := Try.prog) (w := wr.alloc (.cells #[.int .i64 Z] 3)) (w.heap.size + 1) 31 31 3 i0 (.int .i64 0) 1 8 intsUnder hi hz0 hz1 hz2 rfl (by decide) (.slice va vn vc) _ _ (hown.alloc _) ⟨wr.heap.size, 0, none⟩ 1 1 [.int .i64 Z] rfl
        (fun j u hj => by
          match j, hj with
          | 0, hj =>
            simp at hj; subst hj
            exact (Blk.new wr #[.int .i64 Z] 3).cell)
        (fun u hu => by simp at hu; subst hu; rfl) (by rw [hln.out]; unfold maxLen; omega) (by rw [hln.out]; omega) (by have := hs.size; simp; omega)
      have hlt6 := hown.lt
      have hS7 : SameBut (fun i => w.heap.size + 1 ≤ i) wr w7 := ((SameBut.refl _ wr).alloc _).trans (same_grown hgr7 (fun k h => (hlt6 k h).1))
      have hown8 : w7.ownsRow (w.heap.size + 1) 3 1 v' (posU x t turned (k + 1)).length ((posU x t turned (k + 1)).map intV) := by
        rw [hsu.out, List.length_append, List.map_append]; exact hown7
      rw [append_alias] at hap
      have hown8' := Lib.hid hown8
      clear hown7 hown8 hgr7 hlt6
      cases turned with
      | false =>
        simp only [Bool.false_eq_true, if_false] at hZe
        subst hZe
        have e1 : IntKind.i64.wrap (t + J) = t + J := IntWalk.i64_in _ (by omega)
        go_wp2
        go_roundw
        case rel => exact ⟨k + 1, by omega, by go_num, hown8'.out, hs.trans hS7⟩
        case measure => simp [intOf]; omega
      | true =>
        simp only [if_true] at hZe
        have e1 : IntKind.i64.wrap (L - 1) = L - 1 := IntWalk.i64_in _ (by omega)
        have e2 : IntKind.i64.wrap (L - 1 - J) = L - 1 - J := IntWalk.i64_in _ (by omega)
        have e3 : t + (L - 1 - J) = Z := by omega
        have e4 : IntKind.i64.wrap (t + (L - 1 - J)) = Z := by rw [e3]; exact IntWalk.i64_in _ (by omega)
        clear hZe
        go_wp2
        go_roundw
        case rel => exact ⟨k + 1, by omega, by go_num, hown8'.out, hs.trans hS7⟩
        case measure => simp [intOf]; omega
    · obtain rfl : k = jn := by omega
      go_wp2
      go_ret
      obtain ⟨a, m, c, e, hxx⟩ := ints_of_own hown (fun i hi => by
        rw [posU_len] at hi
        have hJ := hin'.out i (by rw [hjn.out]; exact hi)
        rw [posU_get x t turned hi]
        have hlx := hL'.out
        unfold I64 posJ
        split <;> omega) (by rw [posU_len]; omega)
      cases e
      exact ⟨_, _, _, rfl, by rw [hjn.out]; exact hxx, hb0.trans (hs.toBelow (by omega) (fun i h => by omega))⟩
end Go.Proofs.Ytbbolibkheelmaa
namespace Go.Proofs.Ytbbolibkheelmaa
open Go.RowKit Go.Shelf

/-- How many inches a span has. -/
def spanN (k : Int × Int) : Nat := (k.2 - k.1 + 1).toNat
def sureK (W : Wood) (l : List Int) (k : Nat) : Bool := allB (spanN (gp W.knots k)) fun j => decide (findI l ((gp W.knots k).1 + j) < 0)
def mayK (W : Wood) (l : List Int) (k : Nat) : Bool := anyB (spanN (gp W.knots k)) fun j => decide (findI l ((gp W.knots k).1 + j) < 0)
def sureB (W : Wood) (l : List Int) : Bool := allB W.knots.length (sureK W l)
def mayB (W : Wood) (l : List Int) : Bool := allB W.knots.length (mayK W l)

set_option maxRecDepth 100000 in
set_option maxHeartbeats 4000000 in
theorem sure_any {B C : Nat} {v : Value} {W : Wood} {la : Option Addr} {ln lc : Nat} {l : List Int} {w : World} (hB : B ≤ w.heap.size) (hC : C ≤ w.heap.size) (hk : KnotsV B w v W) (hl : IntsAt C w la ln l)
    (hW : ∀ k, k < W.knots.length → Knot (gp W.knots k)) (h3 : W.knots.length ≤ 3) :
    Calls Try.prog 98 #[.agg #[.int .i64 W.long, v], .slice la ln lc] w fun e w' => e = .returned (.bool (sureB W l)) ∧ Below w.heap.size w w' := by
  obtain ⟨ka, kn, kc, rfl, hks⟩ := hk
  have hkl := Lib.hid hks.len
  have hkn3 : kn ≤ 3 := by rw [← hks.len]; exact h3
  obtain ⟨R, hR⟩ : ∃ R, R = sureB W l := ⟨_, rfl⟩
  rw [← hR]
  have hR' := Lib.hid hR
  clear hR
  obtain ⟨W0, hW0⟩ : ∃ W0, W0 = w.alloc (.cells #[.int .i64 W.long, .slice ka kn kc] 48) := ⟨_, rfl⟩
  have hb0 : Below w.heap.size w W0 := by rw [hW0]; exact (Below.refl _ _).alloc (Nat.le_refl _) _
  have hk0 : Blk W0 w.heap.size #[.int .i64 W.long, .slice ka kn kc] := by rw [hW0]; exact Blk.new w _ _
  have hks0 := Lib.hid (hks.keep (w' := W0) (Nat.le_refl _) (fun b o h => bcells hb0 b o (by omega)))
  have hl0 := Lib.hid (hl.keep (w' := W0) (Nat.le_refl _) (fun b o h => bcells hb0 b o (by omega)))
  have hW' := Lib.hid hW
  have l0 : w.heap.size < W0.heap.size := hk0.lt
  clear hks hl hW
  go_enter Try.func98, Try.ntmps98
  replace hW0 := hW0.symm
  go_wp2_with (fail)
  clear hW0
  go_loopw [5] (fun i wr => ∃ k : Nat, k ≤ kn ∧ i = .int .i64 k ∧ Hid (allB k (sureK W l) = true) ∧ Quiet W0 wr) (fun i _ => kn - (intOf i).toNat)
  case atStart => exact ⟨0, by omega, rfl, rfl, Quiet.refl _⟩
  case round =>
    obtain ⟨k, hk, rfl, hall, hq⟩ := hrel
    obtain ⟨q, rfl⟩ := hq
    have q1 : W0.cell? ⟨w.heap.size, 1, none⟩ = some (.slice ka kn kc) := hk0.cell
    have hbq : Below w.heap.size w (W0.drewN q) := below_drewN hb0 q
    by_cases hlt : k < kn
    · obtain ⟨kb, ko, rfl, hkB, hkc⟩ := hks0.out.get k hlt
      obtain ⟨g1, g2, _, _⟩ := hkc k hlt
      clear hkc
      have hK := hW'.out k (by rw [hkl.out]; exact hlt)
      unfold Knot at hK
      obtain ⟨u, hu⟩ : ∃ u : Nat, (gp W.knots k).1 = u := ⟨(gp W.knots k).1.toNat, by omega⟩
      obtain ⟨n, hn, hn0⟩ : ∃ n : Nat, (gp W.knots k).2 = u + n - 1 ∧ 0 < n := ⟨((gp W.knots k).2 - (gp W.knots k).1 + 1).toNat, by omega, by omega⟩
      have hun : u + n ≤ 16 := by omega
      have hsK : Hid (sureK W l k = allB n fun j => decide (findI l ((u : Int) + j) < 0)) := Lib.hid (by unfold sureK spanN; rw [hu, hn, show ((u : Int) + n - 1 - u + 1).toNat = n by omega])
      rw [hu] at g1
      rw [hn] at g2
      clear hK hu hn
      have hki : (k : Int) < kn := by omega
      have dk : decide ((k : Int) < kn) = true := decide_eq_true hki
      go_wp2_with (fail)
      go_loopw [6] (fun m wr => ∃ j : Nat, j ≤ n ∧ m = .int .i64 ((u : Int) + j) ∧ Hid (allB j (fun j => decide (findI l ((u : Int) + j) < 0)) = true) ∧ Quiet W0 wr) (fun m _ => u + n - (intOf m).toNat)
      case atStart => exact ⟨0, by omega, by simp, rfl, q, rfl⟩
      case round =>
        obtain ⟨j, hj, rfl, hallj, hq2⟩ := hrel
        obtain ⟨q2, rfl⟩ := hq2
        by_cases hjn : j < n
        · have hlj := Lib.hid (hl0.out.keep (w' := W0.drewN q2) (Nat.le_refl _) (fun _ _ _ => rfl))
          obtain ⟨F, hF⟩ : ∃ F, F = findI l ((u : Int) + j) := ⟨_, rfl⟩
          have hF' := Lib.hid hF
          clear hF
          by_cases hneg : 0 ≤ F
          · have hfalse : Hid (R = false) := Lib.hid (by
              rw [hR'.out]
              unfold sureB
              refine allB_false (i := k) (by rw [hkl.out]; exact hlt) ?_
              rw [hsK.out]
              exact allB_false (i := j) hjn (by rw [← hF'.out]; exact decide_eq_false (by omega)))
            go_wp2_with (go_at_call 42; refine (Find_any (x := (u : Int) + j) hlj.out).mono ?_; rintro e w' ⟨rfl, q3, rfl⟩; rw [← hF'.out])
            go_ret
            exact ⟨ret_bool hfalse.out.symm, below_drewN hb0 _⟩
          · have hneg' : F < 0 := by omega
            clear hneg
            go_wp2_with (go_at_call 42; refine (Find_any (x := (u : Int) + j) hlj.out).mono ?_; rintro e w' ⟨rfl, q3, rfl⟩; rw [← hF'.out])
            go_roundw
            case rel => exact ⟨j + 1, by omega, by have : ((u : Int) + ((j + 1 : Nat) : Int)) = u + j + 1 := by omega
                                                   rw [this], allB_succ hallj.out (by rw [← hF'.out]; exact decide_eq_true hneg'), ⟨_, rfl⟩⟩
            case measure => simp [intOf]; omega
        · obtain rfl : j = n := by omega
          go_wp2_with (fail)
          go_roundw
          case rel => exact ⟨k + 1, by omega, by go_num, allB_succ hall.out (by rw [hsK.out]; exact hallj.out), ⟨_, rfl⟩⟩
          case measure => simp [intOf]; omega
    · obtain rfl : k = kn := by omega
      have hT : Hid (R = true) := Lib.hid (by rw [hR'.out]; unfold sureB; rw [hkl.out]; exact hall.out)
      go_wp2_with (fail)
      go_ret
      exact ⟨ret_bool hT.out.symm, hbq⟩
set_option maxRecDepth 100000 in
set_option maxHeartbeats 4000000 in
theorem may_any {B C : Nat} {v : Value} {W : Wood} {la : Option Addr} {ln lc : Nat} {l : List Int} {w : World} (hB : B ≤ w.heap.size) (hC : C ≤ w.heap.size) (hk : KnotsV B w v W) (hl : IntsAt C w la ln l)
    (hW : ∀ k, k < W.knots.length → Knot (gp W.knots k)) (h3 : W.knots.length ≤ 3) :
    Calls Try.prog 99 #[.agg #[.int .i64 W.long, v], .slice la ln lc] w fun e w' => e = .returned (.bool (mayB W l)) ∧ Below w.heap.size w w' := by
  obtain ⟨ka, kn, kc, rfl, hks⟩ := hk
  have hkl := Lib.hid hks.len
  have hkn3 : kn ≤ 3 := by rw [← hks.len]; exact h3
  obtain ⟨R, hR⟩ : ∃ R, R = mayB W l := ⟨_, rfl⟩
  rw [← hR]
  have hR' := Lib.hid hR
  clear hR
  obtain ⟨W0, hW0⟩ : ∃ W0, W0 = w.alloc (.cells #[.int .i64 W.long, .slice ka kn kc] 48) := ⟨_, rfl⟩
  have hb0 : Below w.heap.size w W0 := by rw [hW0]; exact (Below.refl _ _).alloc (Nat.le_refl _) _
  have hk0 : Blk W0 w.heap.size #[.int .i64 W.long, .slice ka kn kc] := by rw [hW0]; exact Blk.new w _ _
  have hks0 := Lib.hid (hks.keep (w' := W0) (Nat.le_refl _) (fun b o h => bcells hb0 b o (by omega)))
  have hl0 := Lib.hid (hl.keep (w' := W0) (Nat.le_refl _) (fun b o h => bcells hb0 b o (by omega)))
  have hW' := Lib.hid hW
  have l0 : w.heap.size < W0.heap.size := hk0.lt
  clear hks hl hW
  go_enter Try.func99, Try.ntmps99
  replace hW0 := hW0.symm
  go_wp2_with (fail)
  clear hW0
  go_loopw [5] (fun i wr => ∃ k : Nat, k ≤ kn ∧ i = .int .i64 k ∧ Hid (allB k (mayK W l) = true) ∧ Quiet W0 wr) (fun i _ => kn - (intOf i).toNat)
  case atStart => exact ⟨0, by omega, rfl, rfl, Quiet.refl _⟩
  case round =>
    obtain ⟨k, hk, rfl, hall, hq⟩ := hrel
    obtain ⟨q, rfl⟩ := hq
    have q1 : W0.cell? ⟨w.heap.size, 1, none⟩ = some (.slice ka kn kc) := hk0.cell
    have hbq : Below w.heap.size w (W0.drewN q) := below_drewN hb0 q
    by_cases hlt : k < kn
    · obtain ⟨kb, ko, rfl, hkB, hkc⟩ := hks0.out.get k hlt
      obtain ⟨g1, g2, _, _⟩ := hkc k hlt
      clear hkc
      have hK := hW'.out k (by rw [hkl.out]; exact hlt)
      unfold Knot at hK
      obtain ⟨u, hu⟩ : ∃ u : Nat, (gp W.knots k).1 = u := ⟨(gp W.knots k).1.toNat, by omega⟩
      obtain ⟨n, hn, hn0⟩ : ∃ n : Nat, (gp W.knots k).2 = u + n - 1 ∧ 0 < n := ⟨((gp W.knots k).2 - (gp W.knots k).1 + 1).toNat, by omega, by omega⟩
      have hun : u + n ≤ 16 := by omega
      have hsK : Hid (mayK W l k = anyB n fun j => decide (findI l ((u : Int) + j) < 0)) := Lib.hid (by unfold mayK spanN; rw [hu, hn, show ((u : Int) + n - 1 - u + 1).toNat = n by omega])
      rw [hu] at g1
      rw [hn] at g2
      clear hK hu hn
      have hki : (k : Int) < kn := by omega
      have dk : decide ((k : Int) < kn) = true := decide_eq_true hki
      go_wp2_with (fail)
      go_loopw [6, 7] (fun sm m wr => ∃ j : Nat, j ≤ n ∧ m = .int .i64 ((u : Int) + j) ∧ sm = .bool (anyB j (fun j => decide (findI l ((u : Int) + j) < 0))) ∧ Quiet W0 wr) (fun _ m _ => u + n - (intOf m).toNat)
      case atStart => exact ⟨0, by omega, by simp, rfl, q, rfl⟩
      case round =>
        obtain ⟨j, hj, rfl, rfl, hq2⟩ := hrel
        obtain ⟨q2, rfl⟩ := hq2
        by_cases hjn : j < n
        · have hlj := Lib.hid (hl0.out.keep (w' := W0.drewN q2) (Nat.le_refl _) (fun _ _ _ => rfl))
          obtain ⟨F, hF⟩ : ∃ F, F = findI l ((u : Int) + j) := ⟨_, rfl⟩
          have hF' := Lib.hid hF
          obtain ⟨A, hA⟩ : ∃ A, A = anyB j (fun j => decide (findI l ((u : Int) + j) < 0)) := ⟨_, rfl⟩
          rw [← hA]
          have hA' := Lib.hid hA
          obtain ⟨D, hD⟩ : ∃ D, D = decide (F < 0) := ⟨_, rfl⟩
          have hnext : Hid (anyB (j + 1) (fun j => decide (findI l ((u : Int) + j) < 0)) = (A || D)) := Lib.hid (by rw [anyB, ← hA, ← hF, ← hD])
          have hD' : decide (F < 0) = D := hD.symm
          clear hF hA hD
          cases A with
          | true =>
            clear hD'
            go_wp2_with (fail)
            go_roundw
            case rel => exact ⟨j + 1, by omega, by have : ((u : Int) + ((j + 1 : Nat) : Int)) = u + j + 1 := by omega
                                                   rw [this], by rw [hnext.out]; rfl, ⟨_, rfl⟩⟩
            case measure => simp [intOf]; omega
          | false =>
            go_wp2_with (go_at_call 42; refine (Find_any (x := (u : Int) + j) hlj.out).mono ?_; rintro e w' ⟨rfl, q3, rfl⟩; rw [← hF'.out])
            go_roundw
            case rel => exact ⟨j + 1, by omega, by have : ((u : Int) + ((j + 1 : Nat) : Int)) = u + j + 1 := by omega
                                                   rw [this], by rw [hnext.out]; rfl, ⟨_, rfl⟩⟩
            case measure => simp [intOf]; omega
        · obtain rfl : j = n := by omega
          obtain ⟨A, hA⟩ : ∃ A, A = anyB j (fun j => decide (findI l ((u : Int) + j) < 0)) := ⟨_, rfl⟩
          rw [← hA]
          have hA' := Lib.hid hA
          clear hA
          cases A with
          | true =>
            go_wp2_with (fail)
            go_roundw
            case rel => exact ⟨k + 1, by omega, by go_num, allB_succ hall.out (by rw [hsK.out]; exact hA'.out.symm), ⟨_, rfl⟩⟩
            case measure => simp [intOf]; omega
          | false =>
            have hfalse : Hid (R = false) := Lib.hid (by
              rw [hR'.out]
              unfold mayB
              refine allB_false (i := k) (by rw [hkl.out]; exact hlt) ?_
              rw [hsK.out]; exact hA'.out.symm)
            go_wp2_with (fail)
            go_ret
            exact ⟨ret_bool hfalse.out.symm, below_drewN hb0 _⟩
    · obtain rfl : k = kn := by omega
      have hT : Hid (R = true) := Lib.hid (by rw [hR'.out]; unfold mayB; rw [hkl.out]; exact hall.out)
      go_wp2_with (fail)
      go_ret
      exact ⟨ret_bool hT.out.symm, hbq⟩
end Go.Proofs.Ytbbolibkheelmaa
