/- Plain mathematics: what is easier: more known of a knot, a longer plank, a joint less. Plain mathematics: planks that are turned end for end. -/
import Derived.Test.YtilbkmogmlcpaaaPtn05
import Derived.Test.YtilbkmogmlcpaaaGa14
namespace Go.Proofs.Ytilbkmogmlcpaaa
open Go.RowKit Go.Shelf

/-- A book in which each spot is one, too. -/
structure Easier (x y : Book) : Prop where
  pl : y.planks.length = x.planks.length
  pa : y.parts.length = x.parts.length
  spot : ∀ (i p : Nat) (t : Int), i < x.planks.length → p < x.parts.length → Spot x i p t → Spot y i p t
  len : ∀ p, plen y p = plen x p
section
variable {x y : Book}
theorem Easier.pack (h : Easier x y) {Q P : Nat → Prop} (hP : ∀ p, P p → p < x.parts.length) (hp : Pack x Q P) : Pack y Q P := by
  obtain ⟨g, a, h1, h2⟩ := hp
  refine ⟨g, a, fun p hp => ⟨by rw [h.pl]; exact (h1 p hp).1, (h1 p hp).2.1, h.spot _ _ _ (h1 p hp).1 (hP p hp) (h1 p hp).2.2⟩, fun p q hp hq hpq e => ?_⟩
  have := h2 p q hp hq hpq e
  unfold Apart at this ⊢
  rw [h.len, h.len]
  exact this
theorem spots_iff (hb : bookOk x = true) {i p : Nat} (hi : i < x.planks.length) (hp : p < x.parts.length) {t : Int} : t ∈ spotsL x i p ↔ Spot x i p t := by
  have h := spot_mem hb hi (q := (p : Int)) (by omega) (by omega) (t := t)
  rw [h]
  unfold Spot
  simp only [Int.toNat_natCast]
  constructor
  · rintro ⟨h1, h2, h3⟩
    rw [board_two hp h1 h2] at h3
    exact ⟨h1, h2, h3⟩
  · rintro ⟨h1, h2, h3⟩
    exact ⟨h1, h2, by rw [board_two hp h1 h2]; exact h3⟩
theorem Easier.spots (h : Easier x y) (hb : bookOk x = true) (hy : bookOk y = true) {i p : Nat} (hi : i < x.planks.length) (hp : p < x.parts.length) {t : Int} (ht : t ∈ spotsL x i p) : t ∈ spotsL y i p :=
  (spots_iff hy (by rw [h.pl]; exact hi) (by rw [h.pa]; exact hp)).2 (h.spot _ _ _ hi hp ((spots_iff hb hi hp).1 ht))
theorem Easier.most (h : Easier x y) (hb : bookOk x = true) (hy : bookOk y = true) : (mostR x).1.length ≤ (mostR y).1.length ∧ (mostR x).2 = 0 ∧ (mostR y).2 = 0 := by
  obtain ⟨s, s1, s2, s3⟩ := most_is hb
  obtain ⟨u, u1, u2, u3⟩ := most_is hy
  rw [s3, u3]
  refine ⟨?_, rfl, rfl⟩
  have hs2 : s < 2 ^ y.parts.length := by rw [h.pa]; exact s2
  have : allF y s = true := (all_pack hy hs2).2 (h.pack (fun p hp => has_lt s2 hp) ((all_pack hb s2).1 s1.2.1))
  have h3 := u1.2.2 s (lt32 hb s2) this
  rw [more_is, Bool.or_eq_false_iff, decide_eq_false_iff_not] at h3
  have := h3.1
  show (memL s).length ≤ (memL u).length
  omega
theorem Easier.fewest (h : Easier x y) (hb : bookOk x = true) (hy : bookOk y = true) : ((fewestR x).2 = 0 ∧ (fewestR y).2 = 0 ∧ (fewestR y).1.length ≤ (fewestR x).1.length) ∨ ((fewestR x).2 ≠ 0 ∧ ((fewestR y).2 = 0 ∨ (fewestR y).2 = 4)) := by
  rcases fewest_is hb with ⟨h1, h2⟩ | ⟨S, h1, h2, h3⟩
  · refine .inr ⟨by rw [h1]; simp, ?_⟩
    rcases fewest_is hy with ⟨k1, k2⟩ | ⟨T, k1, k2, k3⟩
    · exact .inr (by rw [k1])
    · exact .inl (by rw [k2])
  · have hA : AllP y := by
      unfold AllP at h3 ⊢
      rw [h.pa]
      exact h.pack (fun p hp => hp) h3
    rcases fewest_is hy with ⟨k1, k2⟩ | ⟨T, k1, k2, k3⟩
    · exact absurd hA k2
    · refine .inl ⟨by rw [h2], by rw [k2], ?_⟩
      rw [h2, k2]
      have hw : wholeF y S = true := (wholeF_pack hy).2 (by rw [h.pa]; exact h.pack (fun p hp => hp) ((wholeF_pack hb).1 h1.2.1))
      have := k1.2.2 S (by rw [h.pl]; exact h1.1) hw
      rw [fewer_is, Bool.or_eq_false_iff, decide_eq_false_iff_not] at this
      have := this.1
      show (memL T).length ≤ (memL S).length
      omega

theorem ans_mono {W W' : Wood} {S S' : Shape} {t : Nat} (ht : S'.turns = S.turns) (hm : ∀ way, mayHit W' S' t W'.knots.length way = true → mayHit W S t W.knots.length way = true) (h : ansOf W S t = 2) : ansOf W' S' t = 2 := by
  have h1 := ans_two (W := W) (S := S) (t := t)
  have h2 := ans_two (W := W') (S := S') (t := t)
  rw [decide_eq_true h] at h1
  have : decide (ansOf W' S' t = 2) = true := by
    rw [h2, ht]
    rw [eq_comm, Bool.or_eq_true, Bool.and_eq_true, Bool.not_eq_true', Bool.not_eq_true'] at h1
    rw [Bool.or_eq_true, Bool.and_eq_true, Bool.not_eq_true', Bool.not_eq_true']
    have m0 := hm 0
    have m1 := hm 1
    rcases h1 with h1 | ⟨h1, h1'⟩
    · left
      rw [← Bool.not_eq_true]
      intro h
      rw [m0 h] at h1; cases h1
    · right
      refine ⟨h1, ?_⟩
      rw [← Bool.not_eq_true]
      intro h
      rw [m1 h] at h1'; cases h1'
  exact of_decide_eq_true this
theorem hitC_mono {k k' : Int × Int} {M M' : Nat → Bool} (h1 : k.1 ≤ k'.1) (h2 : k'.2 ≤ k.2) (hM : ∀ m, M' m = true → M m = true) (h : hitC k' M' = true) : hitC k M = true := by
  unfold hitC at h ⊢
  rw [anyB_iff] at h ⊢
  obtain ⟨m, hm, h⟩ := h
  refine ⟨m, hm, ?_⟩
  simp only [andM, knotM, betM, Bool.and_eq_true, decide_eq_true_eq] at h ⊢
  exact ⟨hM m h.1, by omega, by omega⟩

/-- More is known of a knot. -/
theorem easier_looked {i k : Nat} {t : Int} (hi : i < x.planks.length) (hk : k < (gw x.planks i).knots.length) (h1 : (gp (gw x.planks i).knots k).1 ≤ t) (h2 : t ≤ (gp (gw x.planks i).knots k).2) : Easier x (lookedB x i k t) where
  pl := by unfold lookedB; simp
  pa := rfl
  len := fun p => rfl
  spot := fun j p u hj hp hs => by
    by_cases e : j = i
    · subst e
      obtain ⟨s1, s2, s3⟩ := hs
      unfold Spot
      rw [looked_same hi]
      refine ⟨s1, s2, ans_mono (W := gw x.planks j) (S := gs x.parts p) rfl (fun way h => ?_) s3⟩
      unfold mayHit at h ⊢
      rw [anyB_iff] at h ⊢
      obtain ⟨l, hl, h⟩ := h
      simp only [List.length_set] at hl
      refine ⟨l, hl, ?_⟩
      by_cases e : l = k
      · subst e
        rw [gp_set_same hl] at h
        exact hitC_mono h1 h2 (fun _ h => h) h
      · rw [gp_set_other e] at h
        exact h
    · unfold Spot
      rw [looked_other e]
      exact hs

/-- A plank is longer at its end. -/
def longB (x : Book) (i : Nat) (L : Int) : Book := ⟨x.planks.set i ⟨L, (gw x.planks i).knots⟩, x.parts⟩
theorem long_other {i j : Nat} {L : Int} (h : j ≠ i) : gw (longB x i L).planks j = gw x.planks j := by
  unfold gw longB
  rw [List.getD_eq_getElem?_getD, List.getD_eq_getElem?_getD, List.getElem?_set_ne (by omega)]
theorem long_same {i : Nat} {L : Int} (h : i < x.planks.length) : gw (longB x i L).planks i = ⟨L, (gw x.planks i).knots⟩ := by
  unfold gw longB
  rw [List.getD_eq_getElem?_getD, List.getElem?_set_self h]; rfl
theorem long_ok {i : Nat} {L : Int} (hb : bookOk x = true) (hi : i < x.planks.length) (h1 : (gw x.planks i).long ≤ L) (h2 : L ≤ 16) : bookOk (longB x i L) = true := by
  have hG := good_of hb
  unfold bookOk at hb
  simp only [Bool.and_eq_true, allB_iff, decide_eq_true_eq] at hb
  refine bookOk_good (by unfold longB; simpa using hG.planks.1) (by unfold longB; simpa using hG.planks.2) hG.parts.1 hG.parts.2 ?_ ?_
  · rw [allB_iff]
    intro j hj
    have hj' : j < x.planks.length := by unfold longB at hj; simpa using hj
    by_cases e : j = i
    · subst e
      rw [long_same hi]
      have hw := hb.1.2 j hi
      have hg := hG.wood j hi
      refine woodOk_good (by show 1 ≤ L; omega) h2 hg.2.2 ?_
      rw [allB_iff]
      intro k hk
      unfold woodOk at hw
      simp only [Bool.and_eq_true, allB_iff] at hw
      have := hw.2 k hk
      unfold spanOk withinB at this ⊢
      simp only [Bool.and_eq_true, decide_eq_true_eq] at this ⊢
      refine ⟨⟨⟨this.1.1.1, by have := this.1.1.2; show _ ≤ L - 1; omega⟩, this.1.2.1, by have := this.1.2.2; show _ ≤ L - 1; omega⟩, this.2⟩
    · rw [long_other e]
      exact hb.1.2 j hj'
  · rw [allB_iff]
    exact fun j hj => hb.2 j hj
theorem easier_long {i : Nat} {L : Int} (hi : i < x.planks.length) (h1 : (gw x.planks i).long ≤ L) : Easier x (longB x i L) where
  pl := by unfold longB; simp
  pa := rfl
  len := fun p => rfl
  spot := fun j p u hj hp hs => by
    by_cases e : j = i
    · subst e
      obtain ⟨s1, s2, s3⟩ := hs
      unfold Spot
      rw [long_same hi]
      exact ⟨s1, by show u ≤ L - (gs x.parts p).long; omega, ans_mono (W := gw x.planks j) (S := gs x.parts p) rfl (fun way h => h) s3⟩
    · unfold Spot
      rw [long_other e]
      exact hs

/-- A part has a joint less. -/
def jointB (x : Book) (p q : Nat) : Book := ⟨x.planks, x.parts.set p ⟨(gs x.parts p).long, cutU (gs x.parts p).joints q (gs x.parts p).joints.length, (gs x.parts p).turns⟩⟩
theorem joint_other {p q j : Nat} (h : j ≠ p) : gs (jointB x p q).parts j = gs x.parts j := by
  unfold gs jointB
  rw [List.getD_eq_getElem?_getD, List.getD_eq_getElem?_getD, List.getElem?_set_ne (by omega)]
theorem joint_same {p q : Nat} (h : p < x.parts.length) : gs (jointB x p q).parts p = ⟨(gs x.parts p).long, cutU (gs x.parts p).joints q (gs x.parts p).joints.length, (gs x.parts p).turns⟩ := by
  unfold gs jointB
  rw [List.getD_eq_getElem?_getD, List.getElem?_set_self h]; rfl
theorem cutU_sub (xs : List Int) (q : Nat) : (cutU xs q xs.length).Sublist xs := by
  have h : cutU xs q xs.length = ((List.range xs.length).filter fun j => j != q).map fun j => gi xs j := rfl
  have h2 : (List.range xs.length).map (fun j => gi xs j) = xs := by
    apply List.ext_getElem (by simp)
    intro i h1 h2
    rw [List.getElem_map, List.getElem_range, gi_eq h2]
  rw [h]
  have h3 : (((List.range xs.length).filter fun j => j != q).map fun j => gi xs j).Sublist ((List.range xs.length).map fun j => gi xs j) := List.filter_sublist.map _
  rw [h2] at h3
  exact h3
theorem inc_pair {xs : List Int} (h : incB xs = true) : xs.Pairwise (· < ·) := by
  unfold incB at h
  rw [allB_iff] at h
  have step : ∀ d i, i + d + 1 < xs.length → gi xs i < gi xs (i + d + 1) := by
    intro d
    induction d with
    | zero =>
      intro i hi
      have := h i (by omega)
      simpa using this
    | succ d ih =>
      intro i hi
      have h1 := ih i (by omega)
      have h2 := h (i + d + 1) (by omega)
      rw [decide_eq_true_eq] at h2
      rw [show i + (d + 1) + 1 = i + d + 1 + 1 by omega]
      omega
  rw [List.pairwise_iff_getElem]
  intro i j hi hj hij
  have := step (j - i - 1) i (by omega)
  rw [show i + (j - i - 1) + 1 = j by omega, gi_eq hi, gi_eq hj] at this
  exact this
theorem joint_ok {p q : Nat} (hb : bookOk x = true) (hp : p < x.parts.length) : bookOk (jointB x p q) = true := by
  have hG := good_of hb
  unfold bookOk at hb
  simp only [Bool.and_eq_true, allB_iff, decide_eq_true_eq] at hb
  refine bookOk_good hG.planks.1 hG.planks.2 (by unfold jointB; simpa using hG.parts.1) (by unfold jointB; simpa using hG.parts.2) ?_ ?_
  · rw [allB_iff]
    exact fun j hj => hb.1.2 j hj
  · rw [allB_iff]
    intro j hj
    have hj' : j < x.parts.length := by unfold jointB at hj; simpa using hj
    by_cases e : j = p
    · subst e
      rw [joint_same hp]
      have hw := hb.2 j hp
      have hg := hG.shape j hp
      unfold shapeOk at hw
      simp only [Bool.and_eq_true, allB_iff, decide_eq_true_eq] at hw
      have hsub := cutU_sub (gs x.parts j).joints q
      refine (shapeOk_good (x := ⟨(gs x.parts j).long, cutU (gs x.parts j).joints q (gs x.parts j).joints.length, (gs x.parts j).turns⟩) hg.1 hg.2.1 ?_ ?_).trans ?_
      · have h1 := hsub.length_le
        have h2 := hg.2.2
        show (cutU (gs x.parts j).joints q (gs x.parts j).joints.length).length ≤ 3
        omega
      · rw [allB_iff]
        intro k hk
        have hm : gi (cutU (gs x.parts j).joints q (gs x.parts j).joints.length) k ∈ cutU (gs x.parts j).joints q (gs x.parts j).joints.length := by rw [gi_eq hk]; exact List.getElem_mem hk
        obtain ⟨l, hl, e⟩ := cutU_mem hm
        show withinB (gi (cutU (gs x.parts j).joints q (gs x.parts j).joints.length) k) 0 ((gs x.parts j).long - 1) = true
        rw [e]
        exact hw.1.2 l hl
      · exact inc_pairwise ((inc_pair hw.2).sublist hsub)
    · rw [joint_other e]
      exact hb.2 j hj'
theorem easier_joint {p q : Nat} (hp : p < x.parts.length) : Easier x (jointB x p q) where
  pl := rfl
  pa := by unfold jointB; simp
  len := fun j => by
    unfold plen
    by_cases e : j = p
    · subst e; rw [joint_same hp]
    · rw [joint_other e]
  spot := fun j r u hj hr hs => by
    by_cases e : r = p
    · subst e
      obtain ⟨s1, s2, s3⟩ := hs
      unfold Spot
      rw [joint_same hp]
      refine ⟨s1, s2, ans_mono (W := gw x.planks j) (S := gs x.parts r) rfl (fun way h => ?_) s3⟩
      unfold mayHit at h ⊢
      rw [anyB_iff] at h ⊢
      obtain ⟨l, hl, h⟩ := h
      refine ⟨l, hl, hitC_mono (Int.le_refl _) (Int.le_refl _) (fun m hm => ?_) h⟩
      rw [lieM_pos (b := decide (way ≠ 0)) rfl] at hm ⊢
      obtain ⟨k, hk, e⟩ := hm
      have hmm : gi (cutU (gs x.parts r).joints q (gs x.parts r).joints.length) k ∈ cutU (gs x.parts r).joints q (gs x.parts r).joints.length := by rw [gi_eq hk]; exact List.getElem_mem hk
      obtain ⟨l', hl', e'⟩ := cutU_mem hmm
      refine ⟨l', hl', ?_⟩
      unfold posJ at e ⊢
      simp only at e
      rw [e'] at e
      exact e
    · unfold Spot
      rw [joint_other e]
      exact hs
end
end Go.Proofs.Ytilbkmogmlcpaaa
namespace Go.Proofs.Ytilbkmogmlcpaaa
open Go.RowKit Go.Shelf

/-- All parts turn. -/
def turnB (x : Book) : Book := ⟨x.planks, x.parts.map fun s => ⟨s.long, s.joints, true⟩⟩
def mirS (L : Int) (s : Int × Int) : Int × Int := (L - 1 - s.2, L - 1 - s.1)
def mirW (W : Wood) : Wood := ⟨W.long, W.knots.map (mirS W.long)⟩
/-- All planks are turned end for end. -/
def mirB (x : Book) : Book := ⟨x.planks.map mirW, x.parts⟩
section
variable {x : Book}
theorem gs_turn {p : Nat} (h : p < x.parts.length) : gs (turnB x).parts p = ⟨(gs x.parts p).long, (gs x.parts p).joints, true⟩ := by
  unfold gs turnB
  rw [List.getD_eq_getElem?_getD, List.getD_eq_getElem?_getD, List.getElem?_map, List.getElem?_eq_getElem h]; rfl
theorem gw_mir {i : Nat} (h : i < x.planks.length) : gw (mirB x).planks i = mirW (gw x.planks i) := by
  unfold gw mirB
  rw [List.getD_eq_getElem?_getD, List.getD_eq_getElem?_getD, List.getElem?_map, List.getElem?_eq_getElem h]; rfl
theorem gp_mir {W : Wood} {k : Nat} (h : k < W.knots.length) : gp (mirW W).knots k = mirS W.long (gp W.knots k) := by
  unfold gp mirW
  rw [List.getD_eq_getElem?_getD, List.getD_eq_getElem?_getD, List.getElem?_map, List.getElem?_eq_getElem h]; rfl
theorem turn_ok (hb : bookOk x = true) : bookOk (turnB x) = true := by
  have hG := good_of hb
  unfold bookOk at hb
  simp only [Bool.and_eq_true, allB_iff, decide_eq_true_eq] at hb
  refine bookOk_good hG.planks.1 hG.planks.2 (by unfold turnB; simpa using hG.parts.1) (by unfold turnB; simpa using hG.parts.2) ?_ ?_
  · rw [allB_iff]; exact fun j hj => hb.1.2 j hj
  · rw [allB_iff]
    intro j hj
    have hj' : j < x.parts.length := by unfold turnB at hj; simpa using hj
    rw [gs_turn hj']
    exact hb.2 j hj'
theorem mir_ok (hb : bookOk x = true) : bookOk (mirB x) = true := by
  have hG := good_of hb
  unfold bookOk at hb
  simp only [Bool.and_eq_true, allB_iff, decide_eq_true_eq] at hb
  refine bookOk_good (by unfold mirB; simpa using hG.planks.1) (by unfold mirB; simpa using hG.planks.2) hG.parts.1 hG.parts.2 ?_ ?_
  · rw [allB_iff]
    intro j hj
    have hj' : j < x.planks.length := by unfold mirB at hj; simpa using hj
    rw [gw_mir hj']
    have hw := hb.1.2 j hj'
    have hg := hG.wood j hj'
    refine woodOk_good hg.1 hg.2.1 (by unfold mirW; simpa using hg.2.2) ?_
    rw [allB_iff]
    intro k hk
    have hk' : k < (gw x.planks j).knots.length := by unfold mirW at hk; simpa using hk
    rw [gp_mir hk']
    unfold woodOk at hw
    simp only [Bool.and_eq_true, allB_iff] at hw
    have := hw.2 k hk'
    unfold spanOk withinB at this ⊢
    simp only [Bool.and_eq_true, decide_eq_true_eq, Bool.not_eq_true', decide_eq_false_iff_not] at this ⊢
    unfold mirW mirS
    simp only
    omega
  · rw [allB_iff]; exact fun j hj => hb.2 j hj

theorem mir_hit {W : Wood} {S : Shape} {t t' way way' : Nat} (hL : W.long ≤ 16) (hW : ∀ k, k < W.knots.length → 0 ≤ (gp W.knots k).1 ∧ (gp W.knots k).2 ≤ W.long - 1) (ht : (t' : Int) = W.long - S.long - t) (hw : (way = 0 ∧ way' = 1) ∨ (way = 1 ∧ way' = 0)) :
    mayHit W S t W.knots.length way = true → mayHit (mirW W) S t' (mirW W).knots.length way' = true := by
  intro h
  unfold mayHit at h ⊢
  rw [anyB_iff] at h ⊢
  obtain ⟨k, hk, h⟩ := h
  refine ⟨k, by unfold mirW; simpa using hk, ?_⟩
  rw [gp_mir hk]
  have hk2 := hW k hk
  unfold hitC at h ⊢
  rw [anyB_iff] at h ⊢
  obtain ⟨m, hm, h⟩ := h
  simp only [andM, knotM, betM, Bool.and_eq_true, decide_eq_true_eq] at h
  obtain ⟨h1, h2, h3⟩ := h
  rw [lieM_pos (b := decide (way ≠ 0)) rfl] at h1
  obtain ⟨j, hj, e⟩ := h1
  refine ⟨(W.long - 1 - m).toNat, by omega, ?_⟩
  simp only [andM, knotM, betM, Bool.and_eq_true, decide_eq_true_eq]
  refine ⟨?_, ?_, ?_⟩
  · rw [lieM_pos (b := decide (way' ≠ 0)) rfl]
    refine ⟨j, hj, ?_⟩
    unfold posJ at e ⊢
    rcases hw with ⟨rfl, rfl⟩ | ⟨rfl, rfl⟩
    · simp at e ⊢; omega
    · simp at e ⊢; omega
  · unfold mirS; simp only; omega
  · unfold mirS; simp only; omega
theorem mirW_mirW (W : Wood) : mirW (mirW W) = W := by
  unfold mirW
  simp only [List.map_map]
  have : (mirS W.long ∘ mirS W.long) = id := by
    funext s
    unfold mirS
    simp only [Function.comp, id]
    rw [show W.long - 1 - (W.long - 1 - s.1) = s.1 by omega, show W.long - 1 - (W.long - 1 - s.2) = s.2 by omega]
  rw [this, List.map_id]
theorem mir_ans1 {W : Wood} {S : Shape} {t t' : Nat} (hT : S.turns = true) (hL : W.long ≤ 16) (hW : ∀ k, k < W.knots.length → 0 ≤ (gp W.knots k).1 ∧ (gp W.knots k).2 ≤ W.long - 1) (ht : (t' : Int) = W.long - S.long - t) (h : ansOf (mirW W) S t' = 2) : ansOf W S t = 2 := by
  have h1 := ans_two (W := mirW W) (S := S) (t := t')
  have h2 := ans_two (W := W) (S := S) (t := t)
  rw [decide_eq_true h, hT] at h1
  have : decide (ansOf W S t = 2) = true := by
    rw [h2, hT]
    have m0 := mir_hit (t := t) (t' := t') (S := S) hL hW ht (.inl ⟨rfl, rfl⟩)
    have m1 := mir_hit (t := t) (t' := t') (S := S) hL hW ht (.inr ⟨rfl, rfl⟩)
    revert h1 m0 m1
    cases mayHit W S t W.knots.length 0 <;> cases mayHit W S t W.knots.length 1 <;> cases mayHit (mirW W) S t' (mirW W).knots.length 0 <;> cases mayHit (mirW W) S t' (mirW W).knots.length 1 <;> simp
  exact of_decide_eq_true this
theorem mir_bounds {W : Wood} (hW : ∀ k, k < W.knots.length → 0 ≤ (gp W.knots k).1 ∧ (gp W.knots k).2 ≤ W.long - 1) (hO : ∀ k, k < W.knots.length → (gp W.knots k).1 ≤ (gp W.knots k).2) : ∀ k, k < (mirW W).knots.length → 0 ≤ (gp (mirW W).knots k).1 ∧ (gp (mirW W).knots k).2 ≤ (mirW W).long - 1 := by
  intro k hk
  have hk' : k < W.knots.length := by unfold mirW at hk; simpa using hk
  rw [gp_mir hk']
  have h1 := hW k hk'
  have h2 := hO k hk'
  unfold mirS mirW
  simp only
  omega
theorem mir_ans {W : Wood} {S : Shape} {t t' : Nat} (hT : S.turns = true) (hL : W.long ≤ 16) (hW : ∀ k, k < W.knots.length → 0 ≤ (gp W.knots k).1 ∧ (gp W.knots k).2 ≤ W.long - 1) (hO : ∀ k, k < W.knots.length → (gp W.knots k).1 ≤ (gp W.knots k).2) (ht : (t' : Int) = W.long - S.long - t) : ansOf (mirW W) S t' = 2 ↔ ansOf W S t = 2 := by
  constructor
  · exact mir_ans1 hT hL hW ht
  · intro h
    refine mir_ans1 (W := mirW W) (t := t') (t' := t) hT hL (mir_bounds hW hO) (by show (t : Int) = W.long - S.long - t'; omega) ?_
    rw [mirW_mirW]
    exact h
theorem mir_spot (hb : bookOk x = true) {i p : Nat} {t : Int} (hi : i < x.planks.length) (hT : (gs x.parts p).turns = true) (h0 : 0 ≤ t) (h1 : t ≤ (gw x.planks i).long - (gs x.parts p).long) :
    Spot (mirB x) i p ((gw x.planks i).long - (gs x.parts p).long - t) ↔ Spot x i p t := by
  have hG := good_of hb
  have hkn : ∀ k, k < (gw x.planks i).knots.length → 0 ≤ (gp (gw x.planks i).knots k).1 ∧ (gp (gw x.planks i).knots k).1 ≤ (gp (gw x.planks i).knots k).2 ∧ (gp (gw x.planks i).knots k).2 ≤ (gw x.planks i).long - 1 := fun k hk => knot_of hb hi hk
  have hans := mir_ans (W := gw x.planks i) (S := gs x.parts p) (t := t.toNat) (t' := ((gw x.planks i).long - (gs x.parts p).long - t).toNat) hT (hG.wood i hi).2.1 (fun k hk => ⟨(hkn k hk).1, (hkn k hk).2.2⟩) (fun k hk => (hkn k hk).2.1) (by omega)
  unfold Spot
  rw [gw_mir hi]
  show (0 ≤ _ ∧ _ ≤ (gw x.planks i).long - (gs x.parts p).long ∧ ansOf (mirW (gw x.planks i)) (gs x.parts p) _ = 2) ↔ _
  rw [hans]
  constructor
  · rintro ⟨_, _, h⟩; exact ⟨h0, h1, h⟩
  · rintro ⟨_, _, h⟩; exact ⟨by omega, by omega, h⟩
theorem mir_mir (x : Book) : mirB (mirB x) = x := by
  unfold mirB
  simp only [List.map_map]
  have : (mirW ∘ mirW) = id := by funext W; exact mirW_mirW W
  rw [this, List.map_id]
theorem mir_pack1 (hb : bookOk x = true) {Q P : Nat → Prop} (hT : ∀ p, P p → (gs x.parts p).turns = true) (h : Pack x Q P) : Pack (mirB x) Q P := by
  obtain ⟨g, a, h1, h2⟩ := h
  refine ⟨g, fun p => (gw x.planks (g p)).long - (gs x.parts p).long - a p, fun p hp => ?_, fun p q hp hq hpq e => ?_⟩
  · obtain ⟨c1, c2, c3⟩ := h1 p hp
    exact ⟨by unfold mirB; simpa using c1, c2, (mir_spot hb c1 (hT p hp) c3.1 c3.2.1).2 c3⟩
  · have h3 := h2 p q hp hq hpq e
    have l1 : plen (mirB x) p = plen x p := rfl
    have l2 : plen (mirB x) q = plen x q := rfl
    unfold Apart at h3 ⊢
    rw [l1, l2]
    simp only
    rw [e]
    unfold plen at h3 ⊢
    omega
theorem mir_pack (hb : bookOk x = true) {Q P : Nat → Prop} (hT : ∀ p, P p → (gs x.parts p).turns = true) : Pack (mirB x) Q P ↔ Pack x Q P := by
  constructor
  · intro h
    have := mir_pack1 (mir_ok hb) (Q := Q) (P := P) hT h
    rwa [mir_mir] at this
  · exact mir_pack1 hb hT
theorem choose_congr {bet : Bet} {m m' : Nat → Bool} : ∀ n, (∀ j, j < n → m j = m' j) → chooseU bet m n = chooseU bet m' n
  | 0, _ => rfl
  | n + 1, h => by
    show (if m n = true then _ else _) = (if m' n = true then _ else _)
    rw [choose_congr n (fun j hj => h j (by omega)), h n (by omega)]
/-- As many, and the same, can be cut. -/
theorem mir_most (hb : bookOk x = true) (hT : ∀ p, p < x.parts.length → (gs x.parts p).turns = true) : mostR (mirB x) = mostR x := by
  have he : ∀ s, allF (mirB x) s = allF x s := fun s => by
    rw [Bool.eq_iff_iff]
    constructor
    · intro h
      have hs : s < 2 ^ x.parts.length := stock_false (mir_ok hb) _ (Nat.le_refl _) s h
      exact (all_pack hb hs).2 ((mir_pack hb (fun p hp => hT p (has_lt hs hp))).1 ((all_pack (mir_ok hb) hs).1 h))
    · intro h
      have hs : s < 2 ^ x.parts.length := stock_false hb _ (Nat.le_refl _) s h
      exact (all_pack (mir_ok hb) hs).2 ((mir_pack hb (fun p hp => hT p (has_lt hs hp))).2 ((all_pack hb hs).1 h))
  unfold mostR
  rw [if_pos hb, if_pos (mir_ok hb)]
  have : mostM (mirB x) = mostM x := by
    unfold mostM
    exact congrArg toldL (choose_congr 32 (fun j _ => he j))
  rw [this]
theorem mir_fewest (hb : bookOk x = true) (hT : ∀ p, p < x.parts.length → (gs x.parts p).turns = true) : fewestR (mirB x) = fewestR x := by
  have hl : (mirB x).planks.length = x.planks.length := by unfold mirB; simp
  have he : ∀ S, wholeF (mirB x) S = wholeF x S := fun S => by
    rw [Bool.eq_iff_iff, wholeF_pack hb, wholeF_pack (mir_ok hb)]
    exact mir_pack hb (fun p hp => hT p hp)
  unfold fewestR
  rw [if_pos hb, if_pos (mir_ok hb), hl]
  exact congrArg fewO (choose_congr _ (fun j _ => he j))
theorem range_rev (N : Nat) : (List.range N).reverse = (List.range N).map fun t => N - 1 - t := by
  apply List.ext_getElem (by simp)
  intro i h1 h2
  simp only [List.getElem_reverse, List.getElem_map, List.getElem_range, List.length_range]
theorem filter_rev {N : Nat} {f f' : Nat → Bool} (h : ∀ t, t < N → f' t = f (N - 1 - t)) : (List.range N).filter f' = ((List.range N).filter f).reverse.map fun t => N - 1 - t := by
  rw [← List.filter_reverse, range_rev, List.filter_map, List.map_map]
  have e1 : (List.range N).filter f' = (List.range N).filter (f ∘ fun t => N - 1 - t) := List.filter_congr fun t ht => h t (List.mem_range.1 ht)
  rw [e1]
  conv => lhs; rw [← List.map_id ((List.range N).filter (f ∘ fun t => N - 1 - t))]
  refine List.map_congr_left fun t ht => ?_
  have := List.mem_range.1 (List.mem_filter.1 ht).1
  simp only [id, Function.comp]
  omega
theorem mir_spots (hb : bookOk x = true) {i p : Nat} (hi : i < x.planks.length) (hp : p < x.parts.length) (hT : (gs x.parts p).turns = true) :
    (spotsL (mirB x) i p).length = (spotsL x i p).length ∧ ∀ k, k < (spotsL x i p).length → gi (spotsL (mirB x) i p) ((spotsL x i p).length - 1 - k) = (gw x.planks i).long - (gs x.parts p).long - gi (spotsL x i p) k := by
  have hG := good_of hb
  have hkn : ∀ k, k < (gw x.planks i).knots.length → 0 ≤ (gp (gw x.planks i).knots k).1 ∧ (gp (gw x.planks i).knots k).1 ≤ (gp (gw x.planks i).knots k).2 ∧ (gp (gw x.planks i).knots k).2 ≤ (gw x.planks i).long - 1 := fun k hk => knot_of hb hi hk
  have hmi : i < (mirB x).planks.length := by unfold mirB; simpa using hi
  rw [spots_good hb hi hp, spots_good (mir_ok hb) hmi hp, gw_mir hi]
  show (((List.range (many (gw x.planks i).long (gs x.parts p).long)).filter fun t => decide (ansOf (mirW (gw x.planks i)) (gs x.parts p) t = 2)).map fun (t : Nat) => (t : Int)).length = _ ∧ ∀ k, _ → gi (((List.range (many (gw x.planks i).long (gs x.parts p).long)).filter fun t => decide (ansOf (mirW (gw x.planks i)) (gs x.parts p) t = 2)).map fun (t : Nat) => (t : Int)) _ = _
  obtain ⟨N, hN⟩ : ∃ N, N = many (gw x.planks i).long (gs x.parts p).long := ⟨_, rfl⟩
  rw [← hN]
  have hf : ∀ t, t < N → decide (ansOf (mirW (gw x.planks i)) (gs x.parts p) t = 2) = decide (ansOf (gw x.planks i) (gs x.parts p) (N - 1 - t) = 2) := fun t ht => by
    rw [decide_eq_decide]
    rw [hN] at ht ⊢
    unfold many at ht ⊢
    exact mir_ans hT (hG.wood i hi).2.1 (fun k hk => ⟨(hkn k hk).1, (hkn k hk).2.2⟩) (fun k hk => (hkn k hk).2.1) (by omega)
  rw [filter_rev (f := fun t => decide (ansOf (gw x.planks i) (gs x.parts p) t = 2)) hf]
  obtain ⟨l, hl⟩ : ∃ l, l = (List.range N).filter fun t => decide (ansOf (gw x.planks i) (gs x.parts p) t = 2) := ⟨_, rfl⟩
  rw [← hl]
  refine ⟨by simp, fun k hk => ?_⟩
  have hk' : k < l.length := by simpa using hk
  have hall : ∀ y ∈ l, y < N := fun y hy => by
    rw [hl, List.mem_filter, List.mem_range] at hy
    exact hy.1
  have hlk : l[k] < N := hall _ (List.getElem_mem hk')
  rw [gi_eq (by simp; omega), gi_eq (by simpa using hk')]
  simp only [List.getElem_map, List.getElem_reverse, List.length_map]
  have e : l[l.length - 1 - (l.length - 1 - k)]'(by omega) = l[k] := by congr 1; omega
  rw [e]
  have hNp : (N : Int) = (gw x.planks i).long - (gs x.parts p).long + 1 := by
    rw [hN] at hlk ⊢
    unfold many at hlk ⊢
    omega
  omega
end
end Go.Proofs.Ytilbkmogmlcpaaa
