/- Plain mathematics: what is easier: more known of a knot, a longer plank, a joint less. Walks: a book of some of its planks, and some of its parts. -/
import Derived.Test.YtilbkmogmlcpaaaPkn05
import Derived.Test.YtilbkmogmlcpaaaGa14
import Derived.Test.YtilbkmogmlcpaaaPkn02
import Derived.Test.YtilbkmogmlcpaaaGa08
import Derived.Deep.DeepCutAuto
namespace Go.Proofs.Ytilbkmogmlcpaaa
open Go.RowKit Go.Shelf

/-- A book in which each spot is one, too. -/
structure Easier (x y : Book) : Prop where
  pl : y.planks.length = x.planks.length
  pa : y.parts.length = x.parts.length
  spot : ∀ (i p : Nat) (t : Int), i < x.planks.length → p < x.parts.length → Spot x i p t → Spot y i p t
  len : ∀ p, plen y p = plen x p
section
variable {x y : Book}
theorem Easier.pack (h : Easier x y) {Q P : Nat → Prop} (hP : ∀ p, P p → p < x.parts.length) (hp : Pack x Q P) : Pack y Q P := by
  obtain ⟨g, a, h1, h2⟩ := hp
  refine ⟨g, a, fun p hp => ⟨by rw [h.pl]; exact (h1 p hp).1, (h1 p hp).2.1, h.spot _ _ _ (h1 p hp).1 (hP p hp) (h1 p hp).2.2⟩, fun p q hp hq hpq e => ?_⟩
  have := h2 p q hp hq hpq e
  unfold Apart at this ⊢
  rw [h.len, h.len]
  exact this
theorem spots_iff (hb : bookOk x = true) {i p : Nat} (hi : i < x.planks.length) (hp : p < x.parts.length) {t : Int} : t ∈ spotsL x i p ↔ Spot x i p t := by
  have h := spot_mem hb hi (q := (p : Int)) (by omega) (by omega) (t := t)
  rw [h]
  unfold Spot
  simp only [Int.toNat_natCast]
  constructor
  · rintro ⟨h1, h2, h3⟩
    rw [board_two hp h1 h2] at h3
    exact ⟨h1, h2, h3⟩
  · rintro ⟨h1, h2, h3⟩
    exact ⟨h1, h2, by rw [board_two hp h1 h2]; exact h3⟩
theorem Easier.spots (h : Easier x y) (hb : bookOk x = true) (hy : bookOk y = true) {i p : Nat} (hi : i < x.planks.length) (hp : p < x.parts.length) {t : Int} (ht : t ∈ spotsL x i p) : t ∈ spotsL y i p :=
  (spots_iff hy (by rw [h.pl]; exact hi) (by rw [h.pa]; exact hp)).2 (h.spot _ _ _ hi hp ((spots_iff hb hi hp).1 ht))
theorem Easier.most (h : Easier x y) (hb : bookOk x = true) (hy : bookOk y = true) : (mostR x).1.length ≤ (mostR y).1.length ∧ (mostR x).2 = 0 ∧ (mostR y).2 = 0 := by
  obtain ⟨s, s1, s2, s3⟩ := most_is hb
  obtain ⟨u, u1, u2, u3⟩ := most_is hy
  rw [s3, u3]
  refine ⟨?_, rfl, rfl⟩
  have hs2 : s < 2 ^ y.parts.length := by rw [h.pa]; exact s2
  have : allF y s = true := (all_pack hy hs2).2 (h.pack (fun p hp => has_lt s2 hp) ((all_pack hb s2).1 s1.2.1))
  have h3 := u1.2.2 s (lt32 hb s2) this
  rw [more_is, Bool.or_eq_false_iff, decide_eq_false_iff_not] at h3
  have := h3.1
  show (memL s).length ≤ (memL u).length
  omega
theorem Easier.fewest (h : Easier x y) (hb : bookOk x = true) (hy : bookOk y = true) : ((fewestR x).2 = 0 ∧ (fewestR y).2 = 0 ∧ (fewestR y).1.length ≤ (fewestR x).1.length) ∨ ((fewestR x).2 ≠ 0 ∧ ((fewestR y).2 = 0 ∨ (fewestR y).2 = 4)) := by
  rcases fewest_is hb with ⟨h1, h2⟩ | ⟨S, h1, h2, h3⟩
  · refine .inr ⟨by rw [h1]; simp, ?_⟩
    rcases fewest_is hy with ⟨k1, k2⟩ | ⟨T, k1, k2, k3⟩
    · exact .inr (by rw [k1])
    · exact .inl (by rw [k2])
  · have hA : AllP y := by
      unfold AllP at h3 ⊢
      rw [h.pa]
      exact h.pack (fun p hp => hp) h3
    rcases fewest_is hy with ⟨k1, k2⟩ | ⟨T, k1, k2, k3⟩
    · exact absurd hA k2
    · refine .inl ⟨by rw [h2], by rw [k2], ?_⟩
      rw [h2, k2]
      have hw : wholeF y S = true := (wholeF_pack hy).2 (by rw [h.pa]; exact h.pack (fun p hp => hp) ((wholeF_pack hb).1 h1.2.1))
      have := k1.2.2 S (by rw [h.pl]; exact h1.1) hw
      rw [fewer_is, Bool.or_eq_false_iff, decide_eq_false_iff_not] at this
      have := this.1
      show (memL T).length ≤ (memL S).length
      omega

theorem ans_mono {W W' : Wood} {S S' : Shape} {t : Nat} (ht : S'.turns = S.turns) (hm : ∀ way, mayHit W' S' t W'.knots.length way = true → mayHit W S t W.knots.length way = true) (h : ansOf W S t = 2) : ansOf W' S' t = 2 := by
  have h1 := ans_two (W := W) (S := S) (t := t)
  have h2 := ans_two (W := W') (S := S') (t := t)
  rw [decide_eq_true h] at h1
  have : decide (ansOf W' S' t = 2) = true := by
    rw [h2, ht]
    rw [eq_comm, Bool.or_eq_true, Bool.and_eq_true, Bool.not_eq_true', Bool.not_eq_true'] at h1
    rw [Bool.or_eq_true, Bool.and_eq_true, Bool.not_eq_true', Bool.not_eq_true']
    have m0 := hm 0
    have m1 := hm 1
    rcases h1 with h1 | ⟨h1, h1'⟩
    · left
      rw [← Bool.not_eq_true]
      intro h
      rw [m0 h] at h1; cases h1
    · right
      refine ⟨h1, ?_⟩
      rw [← Bool.not_eq_true]
      intro h
      rw [m1 h] at h1'; cases h1'
  exact of_decide_eq_true this
theorem hitC_mono {k k' : Int × Int} {M M' : Nat → Bool} (h1 : k.1 ≤ k'.1) (h2 : k'.2 ≤ k.2) (hM : ∀ m, M' m = true → M m = true) (h : hitC k' M' = true) : hitC k M = true := by
  unfold hitC at h ⊢
  rw [anyB_iff] at h ⊢
  obtain ⟨m, hm, h⟩ := h
  refine ⟨m, hm, ?_⟩
  simp only [andM, knotM, betM, Bool.and_eq_true, decide_eq_true_eq] at h ⊢
  exact ⟨hM m h.1, by omega, by omega⟩

/-- More is known of a knot. -/
theorem easier_looked {i k : Nat} {t : Int} (hi : i < x.planks.length) (hk : k < (gw x.planks i).knots.length) (h1 : (gp (gw x.planks i).knots k).1 ≤ t) (h2 : t ≤ (gp (gw x.planks i).knots k).2) : Easier x (lookedB x i k t) where
  pl := by unfold lookedB; simp
  pa := rfl
  len := fun p => rfl
  spot := fun j p u hj hp hs => by
    by_cases e : j = i
    · subst e
      obtain ⟨s1, s2, s3⟩ := hs
      unfold Spot
      rw [looked_same hi]
      refine ⟨s1, s2, ans_mono (W := gw x.planks j) (S := gs x.parts p) rfl (fun way h => ?_) s3⟩
      unfold mayHit at h ⊢
      rw [anyB_iff] at h ⊢
      obtain ⟨l, hl, h⟩ := h
      simp only [List.length_set] at hl
      refine ⟨l, hl, ?_⟩
      by_cases e : l = k
      · subst e
        rw [gp_set_same hl] at h
        exact hitC_mono h1 h2 (fun _ h => h) h
      · rw [gp_set_other e] at h
        exact h
    · unfold Spot
      rw [looked_other e]
      exact hs

/-- A plank is longer at its end. -/
def longB (x : Book) (i : Nat) (L : Int) : Book := ⟨x.planks.set i ⟨L, (gw x.planks i).knots⟩, x.parts⟩
theorem long_other {i j : Nat} {L : Int} (h : j ≠ i) : gw (longB x i L).planks j = gw x.planks j := by
  unfold gw longB
  rw [List.getD_eq_getElem?_getD, List.getD_eq_getElem?_getD, List.getElem?_set_ne (by omega)]
theorem long_same {i : Nat} {L : Int} (h : i < x.planks.length) : gw (longB x i L).planks i = ⟨L, (gw x.planks i).knots⟩ := by
  unfold gw longB
  rw [List.getD_eq_getElem?_getD, List.getElem?_set_self h]; rfl
theorem long_ok {i : Nat} {L : Int} (hb : bookOk x = true) (hi : i < x.planks.length) (h1 : (gw x.planks i).long ≤ L) (h2 : L ≤ 16) : bookOk (longB x i L) = true := by
  have hG := good_of hb
  unfold bookOk at hb
  simp only [Bool.and_eq_true, allB_iff, decide_eq_true_eq] at hb
  refine bookOk_good (by unfold longB; simpa using hG.planks.1) (by unfold longB; simpa using hG.planks.2) hG.parts.1 hG.parts.2 ?_ ?_
  · rw [allB_iff]
    intro j hj
    have hj' : j < x.planks.length := by unfold longB at hj; simpa using hj
    by_cases e : j = i
    · subst e
      rw [long_same hi]
      have hw := hb.1.2 j hi
      have hg := hG.wood j hi
      refine woodOk_good (by show 1 ≤ L; omega) h2 hg.2.2 ?_
      rw [allB_iff]
      intro k hk
      unfold woodOk at hw
      simp only [Bool.and_eq_true, allB_iff] at hw
      have := hw.2 k hk
      unfold spanOk withinB at this ⊢
      simp only [Bool.and_eq_true, decide_eq_true_eq] at this ⊢
      refine ⟨⟨⟨this.1.1.1, by have := this.1.1.2; show _ ≤ L - 1; omega⟩, this.1.2.1, by have := this.1.2.2; show _ ≤ L - 1; omega⟩, this.2⟩
    · rw [long_other e]
      exact hb.1.2 j hj'
  · rw [allB_iff]
    exact fun j hj => hb.2 j hj
theorem easier_long {i : Nat} {L : Int} (hi : i < x.planks.length) (h1 : (gw x.planks i).long ≤ L) : Easier x (longB x i L) where
  pl := by unfold longB; simp
  pa := rfl
  len := fun p => rfl
  spot := fun j p u hj hp hs => by
    by_cases e : j = i
    · subst e
      obtain ⟨s1, s2, s3⟩ := hs
      unfold Spot
      rw [long_same hi]
      exact ⟨s1, by show u ≤ L - (gs x.parts p).long; omega, ans_mono (W := gw x.planks j) (S := gs x.parts p) rfl (fun way h => h) s3⟩
    · unfold Spot
      rw [long_other e]
      exact hs

/-- A part has a joint less. -/
def jointB (x : Book) (p q : Nat) : Book := ⟨x.planks, x.parts.set p ⟨(gs x.parts p).long, cutU (gs x.parts p).joints q (gs x.parts p).joints.length, (gs x.parts p).turns⟩⟩
theorem joint_other {p q j : Nat} (h : j ≠ p) : gs (jointB x p q).parts j = gs x.parts j := by
  unfold gs jointB
  rw [List.getD_eq_getElem?_getD, List.getD_eq_getElem?_getD, List.getElem?_set_ne (by omega)]
theorem joint_same {p q : Nat} (h : p < x.parts.length) : gs (jointB x p q).parts p = ⟨(gs x.parts p).long, cutU (gs x.parts p).joints q (gs x.parts p).joints.length, (gs x.parts p).turns⟩ := by
  unfold gs jointB
  rw [List.getD_eq_getElem?_getD, List.getElem?_set_self h]; rfl
theorem cutU_sub (xs : List Int) (q : Nat) : (cutU xs q xs.length).Sublist xs := by
  have h : cutU xs q xs.length = ((List.range xs.length).filter fun j => j != q).map fun j => gi xs j := rfl
  have h2 : (List.range xs.length).map (fun j => gi xs j) = xs := by
    apply List.ext_getElem (by simp)
    intro i h1 h2
    rw [List.getElem_map, List.getElem_range, gi_eq h2]
  rw [h]
  have h3 : (((List.range xs.length).filter fun j => j != q).map fun j => gi xs j).Sublist ((List.range xs.length).map fun j => gi xs j) := List.filter_sublist.map _
  rw [h2] at h3
  exact h3
theorem inc_pair {xs : List Int} (h : incB xs = true) : xs.Pairwise (· < ·) := by
  unfold incB at h
  rw [allB_iff] at h
  have step : ∀ d i, i + d + 1 < xs.length → gi xs i < gi xs (i + d + 1) := by
    intro d
    induction d with
    | zero =>
      intro i hi
      have := h i (by omega)
      simpa using this
    | succ d ih =>
      intro i hi
      have h1 := ih i (by omega)
      have h2 := h (i + d + 1) (by omega)
      rw [decide_eq_true_eq] at h2
      rw [show i + (d + 1) + 1 = i + d + 1 + 1 by omega]
      omega
  rw [List.pairwise_iff_getElem]
  intro i j hi hj hij
  have := step (j - i - 1) i (by omega)
  rw [show i + (j - i - 1) + 1 = j by omega, gi_eq hi, gi_eq hj] at this
  exact this
theorem joint_ok {p q : Nat} (hb : bookOk x = true) (hp : p < x.parts.length) : bookOk (jointB x p q) = true := by
  have hG := good_of hb
  unfold bookOk at hb
  simp only [Bool.and_eq_true, allB_iff, decide_eq_true_eq] at hb
  refine bookOk_good hG.planks.1 hG.planks.2 (by unfold jointB; simpa using hG.parts.1) (by unfold jointB; simpa using hG.parts.2) ?_ ?_
  · rw [allB_iff]
    exact fun j hj => hb.1.2 j hj
  · rw [allB_iff]
    intro j hj
    have hj' : j < x.parts.length := by unfold jointB at hj; simpa using hj
    by_cases e : j = p
    · subst e
      rw [joint_same hp]
      have hw := hb.2 j hp
      have hg := hG.shape j hp
      unfold shapeOk at hw
      simp only [Bool.and_eq_true, allB_iff, decide_eq_true_eq] at hw
      have hsub := cutU_sub (gs x.parts j).joints q
      refine (shapeOk_good (x := ⟨(gs x.parts j).long, cutU (gs x.parts j).joints q (gs x.parts j).joints.length, (gs x.parts j).turns⟩) hg.1 hg.2.1 ?_ ?_).trans ?_
      · have h1 := hsub.length_le
        have h2 := hg.2.2
        show (cutU (gs x.parts j).joints q (gs x.parts j).joints.length).length ≤ 3
        omega
      · rw [allB_iff]
        intro k hk
        have hm : gi (cutU (gs x.parts j).joints q (gs x.parts j).joints.length) k ∈ cutU (gs x.parts j).joints q (gs x.parts j).joints.length := by rw [gi_eq hk]; exact List.getElem_mem hk
        obtain ⟨l, hl, e⟩ := cutU_mem hm
        show withinB (gi (cutU (gs x.parts j).joints q (gs x.parts j).joints.length) k) 0 ((gs x.parts j).long - 1) = true
        rw [e]
        exact hw.1.2 l hl
      · exact inc_pairwise ((inc_pair hw.2).sublist hsub)
    · rw [joint_other e]
      exact hb.2 j hj'
theorem easier_joint {p q : Nat} (hp : p < x.parts.length) : Easier x (jointB x p q) where
  pl := rfl
  pa := by unfold jointB; simp
  len := fun j => by
    unfold plen
    by_cases e : j = p
    · subst e; rw [joint_same hp]
    · rw [joint_other e]
  spot := fun j r u hj hr hs => by
    by_cases e : r = p
    · subst e
      obtain ⟨s1, s2, s3⟩ := hs
      unfold Spot
      rw [joint_same hp]
      refine ⟨s1, s2, ans_mono (W := gw x.planks j) (S := gs x.parts r) rfl (fun way h => ?_) s3⟩
      unfold mayHit at h ⊢
      rw [anyB_iff] at h ⊢
      obtain ⟨l, hl, h⟩ := h
      refine ⟨l, hl, hitC_mono (Int.le_refl _) (Int.le_refl _) (fun m hm => ?_) h⟩
      rw [lieM_pos (b := decide (way ≠ 0)) rfl] at hm ⊢
      obtain ⟨k, hk, e⟩ := hm
      have hmm : gi (cutU (gs x.parts r).joints q (gs x.parts r).joints.length) k ∈ cutU (gs x.parts r).joints q (gs x.parts r).joints.length := by rw [gi_eq hk]; exact List.getElem_mem hk
      obtain ⟨l', hl', e'⟩ := cutU_mem hmm
      refine ⟨l', hl', ?_⟩
      unfold posJ at e ⊢
      simp only at e
      rw [e'] at e
      exact e
    · unfold Spot
      rw [joint_other e]
      exact hs
end
end Go.Proofs.Ytilbkmogmlcpaaa
namespace Go.Proofs.Ytilbkmogmlcpaaa
open Go.RowKit Go.Shelf

def subN (s n : Nat) : List Nat := (List.range n).filter (hasN s)
theorem subN_succ (s k : Nat) : subN s (k + 1) = subN s k ++ (if hasN s k = true then [k] else []) := by
  unfold subN
  rw [List.range_succ, List.filter_append]
  cases h : hasN s k <;> simp [h]
theorem subN_len (s k : Nat) : (subN s k).length ≤ k := by
  have := List.length_filter_le (hasN s) (List.range k)
  rwa [List.length_range] at this
theorem subN_mem {s k i : Nat} (h : i ∈ subN s k) : i < k ∧ hasN s i = true := by
  unfold subN at h
  rw [List.mem_filter, List.mem_range] at h
  exact h
/-- A book of some planks and some parts. -/
def onlyB (x : Book) (S s : Nat) : Book := ⟨(subN S x.planks.length).map (gw x.planks), (subN s x.parts.length).map (gs x.parts)⟩

theorem shapeInfo : (Try.prog.info? 50).map (fun i => (i.zero, i.size, i.bytes)) = some (some (.agg #[.int .i64 0, .slice none 0 0, .bool false]), 3, 40) := by kernel_rfl
theorem shapesUnder : Try.prog.underlying 23 = some (.slice 50) := by kernel_rfl

theorem flat_get {α : Type} {L : List Nat} {f : Nat → List α} {m : Nat} (hf : ∀ i, (f i).length = m) {i j : Nat} (hi : i < L.length) (hj : j < m) : (L.flatMap f)[i * m + j]? = (f L[i])[j]? := by
  induction L generalizing i with
  | nil => simp at hi
  | cons a L ih =>
    rw [List.flatMap_cons]
    cases i with
    | zero => rw [Nat.zero_mul, Nat.zero_add, List.getElem?_append_left (by rw [hf]; exact hj)]; rfl
    | succ i =>
      have h1 : (i + 1) * m + j = m + (i * m + j) := by rw [Nat.succ_mul]; omega
      rw [List.getElem?_append_right (by rw [hf, h1]; omega), hf, h1, Nat.add_sub_cancel_left, ih (by simpa using hi)]
      rfl
def woodC (x : Book) (kv : Nat → Value) (i : Nat) : List Value := [.int .i64 (gw x.planks i).long, kv i]
def shapeC (x : Book) (jv : Nat → Value) (i : Nat) : List Value := [.int .i64 (gs x.parts i).long, jv i, .bool (gs x.parts i).turns]

theorem add_at (b o i : Nat) : (⟨b, o, none⟩ : Addr).add i = ⟨b, o + i, none⟩ := by
  unfold Addr.add
  split
  · rename_i h; rw [h]; rfl
  · rfl
/-- One element more behind a slice of one's own. -/
theorem grow_row {w : World} {base n e sl size bytes : Nat} {z : Value} {va : Option Addr} {vn vc : Nat} {xs news : List Value} (hinfo : (Try.prog.info? e).map (fun i => (i.zero, i.size, i.bytes)) = some (some z, size, bytes)) (hu : Try.prog.underlying sl = some (.slice e))
    (hz : z.cells.size = size) (h0 : 0 < size) (hby : bytes ≤ 1000) (hown : w.ownsRow base e size (.slice va vn vc) n xs) (hl : news.length = size) (h1 : ∀ u ∈ news, u.oneCell' = true) (hn : n ≤ 1000) (hb : base ≤ w.heap.size) :
    ∃ v' w', (appendS #[sl, sl] sl #[.slice va vn vc, .slice (some ⟨w.heap.size, 0, none⟩) 1 1]).run Try.prog (w.alloc (.cells news.toArray e)) = .ok v' w' ∧
      w'.ownsRow base e size v' (n + 1) (xs ++ news) ∧ SameBut (fun i => base ≤ i) w w' := by
  obtain ⟨i0, hi, hz0, hz1, hz2⟩ := info_parts hinfo
  obtain ⟨v', w7, hap, hown7, hgr7, _, _⟩ := run_append_own_at (P := Try.prog) (w := w.alloc (.cells news.toArray e)) base sl sl e i0 z size bytes hu hi hz0 hz1 hz2 hz h0 (.slice va vn vc) _ _ (hown.alloc _) ⟨w.heap.size, 0, none⟩ 1 1 news (by rw [hl, Nat.one_mul])
    (fun j u hj => by
      have := (Blk.new w news.toArray e).cell (i := j)
      rw [add_at, Nat.zero_add, this]
      simpa using hj)
    h1 (by unfold maxLen; omega) (by have : (n + 1) * bytes ≤ 1001 * 1000 := Nat.mul_le_mul (by omega) hby
                                     omega) (by simp; omega)
  have hlt6 := hown.lt
  exact ⟨v', w7, hap, hown7, ((SameBut.refl _ w).alloc _).trans (same_grown hgr7 (fun k h => (hlt6 k h).1))⟩
theorem own_get {w : World} {base e size n : Nat} {v : Value} {xs : List Value} (h : w.ownsRow base e size v n xs) (hn : n ≤ 1000) :
    ∃ a c, v = .slice a n c ∧ ∀ i, i < n → ∃ g, a = some ⟨g, 0, none⟩ ∧ g < w.heap.size ∧ base ≤ g ∧ ∀ k u, xs[k]? = some u → w.cell? ⟨g, k, none⟩ = some u := by
  obtain ⟨h1, h2⟩ := h
  rcases h2 with ⟨rfl, rfl⟩ | ⟨g, cap, cur, rfl, hb, hg, hc, hm, hs, ht⟩
  · exact ⟨none, 0, rfl, fun i hi => absurd hi (by omega)⟩
  · refine ⟨some ⟨g, 0, none⟩, cap, rfl, fun i hi => ⟨g, rfl, (Array.getElem?_eq_some_iff.1 hg).1, hb, fun k u hk => ?_⟩⟩
    have hbl : Blk w g cur := ⟨_, hg⟩
    have hkl : k < n * size := by
      have := (List.getElem?_eq_some_iff.1 hk).1
      omega
    rw [hbl.cell, ← Array.getElem?_toList, ← List.getElem?_take_of_lt hkl, ht]
    exact hk
theorem woods_own {w : World} {base B : Nat} {x : Book} {kv : Nat → Value} {L : List Nat} {v : Value} (h : w.ownsRow base 48 2 v L.length (L.flatMap (woodC x kv))) (hl : L.length ≤ 1000) (hB : B ≤ w.heap.size)
    (hk : ∀ i ∈ L, KnotsV B w (kv i) (gw x.planks i) ∧ I64 (gw x.planks i).long) : ∃ a n c, v = .slice a n c ∧ WoodsAt w.heap.size w a n (L.map (gw x.planks)) := by
  obtain ⟨a, c, rfl, hg⟩ := own_get h hl
  refine ⟨a, _, c, rfl, ⟨by rw [List.length_map], by omega, fun i hi => ?_⟩⟩
  obtain ⟨g, rfl, hlt, _, hc⟩ := hg i hi
  refine ⟨g, 0, rfl, hlt, fun j hj => ?_⟩
  have e : gw (L.map (gw x.planks)) j = gw x.planks L[j] := by
    show (L.map (gw x.planks)).getD j _ = _
    rw [List.getD_eq_getElem?_getD, List.getElem?_map, List.getElem?_eq_getElem hj]; rfl
  obtain ⟨k1, k2⟩ := hk _ (List.getElem_mem hj)
  rw [e]
  refine ⟨kv L[j], k1.keep hB (fun _ _ _ => rfl), ?_, ?_, k2⟩
  · rw [Nat.zero_add]
    exact hc (j * 2) _ ((flat_get (m := 2) (fun _ => rfl) hj (j := 0) (by omega)).trans rfl)
  · rw [Nat.zero_add]
    exact hc (j * 2 + 1) _ ((flat_get (m := 2) (fun _ => rfl) hj (j := 1) (by omega)).trans rfl)
theorem shapes_own {w : World} {base B : Nat} {x : Book} {jv : Nat → Value} {L : List Nat} {v : Value} (h : w.ownsRow base 50 3 v L.length (L.flatMap (shapeC x jv))) (hl : L.length ≤ 1000) (hB : B ≤ w.heap.size)
    (hk : ∀ i ∈ L, JointsV B w (jv i) (gs x.parts i) ∧ I64 (gs x.parts i).long) : ∃ a n c, v = .slice a n c ∧ ShapesAt w.heap.size w a n (L.map (gs x.parts)) := by
  obtain ⟨a, c, rfl, hg⟩ := own_get h hl
  refine ⟨a, _, c, rfl, ⟨by rw [List.length_map], by omega, fun i hi => ?_⟩⟩
  obtain ⟨g, rfl, hlt, _, hc⟩ := hg i hi
  refine ⟨g, 0, rfl, hlt, fun j hj => ?_⟩
  have e : gs (L.map (gs x.parts)) j = gs x.parts L[j] := by
    show (L.map (gs x.parts)).getD j _ = _
    rw [List.getD_eq_getElem?_getD, List.getElem?_map, List.getElem?_eq_getElem hj]; rfl
  obtain ⟨k1, k2⟩ := hk _ (List.getElem_mem hj)
  rw [e]
  refine ⟨jv L[j], k1.keep hB (fun _ _ _ => rfl), ?_, ?_, ?_, k2⟩
  · rw [Nat.zero_add]
    exact hc (j * 3) _ ((flat_get (m := 3) (fun _ => rfl) hj (j := 0) (by omega)).trans rfl)
  · rw [Nat.zero_add]
    exact hc (j * 3 + 1) _ ((flat_get (m := 3) (fun _ => rfl) hj (j := 1) (by omega)).trans rfl)
  · rw [Nat.zero_add]
    exact hc (j * 3 + 2) _ ((flat_get (m := 3) (fun _ => rfl) hj (j := 2) (by omega)).trans rfl)

/-- The second cells of planks, of parts, one by one. -/
theorem woods_cells {B : Nat} {w : World} {a : Option Addr} {n : Nat} {x : Book} (h : WoodsAt B w a n x.planks) (h0 : 0 < n) : ∃ (b o : Nat) (kv : Nat → Value), a = some ⟨b, o, none⟩ ∧ b < B ∧ ∀ i, i < n → KnotsV B w (kv i) (gw x.planks i) ∧ w.cell? ⟨b, o + i * 2, none⟩ = some (.int .i64 (gw x.planks i).long) ∧ w.cell? ⟨b, o + i * 2 + 1, none⟩ = some (kv i) ∧ I64 (gw x.planks i).long := by
  obtain ⟨b, o, rfl, hb, hc⟩ := h.get 0 h0
  refine ⟨b, o, fun i => if hi : i < n then (hc i hi).choose else undef, rfl, hb, fun i hi => ?_⟩
  simp only [dif_pos hi]
  exact (hc i hi).choose_spec
theorem shapes_cells {B : Nat} {w : World} {a : Option Addr} {n : Nat} {x : Book} (h : ShapesAt B w a n x.parts) (h0 : 0 < n) : ∃ (b o : Nat) (jv : Nat → Value), a = some ⟨b, o, none⟩ ∧ b < B ∧ ∀ i, i < n → JointsV B w (jv i) (gs x.parts i) ∧ w.cell? ⟨b, o + i * 3, none⟩ = some (.int .i64 (gs x.parts i).long) ∧ w.cell? ⟨b, o + i * 3 + 1, none⟩ = some (jv i) ∧ w.cell? ⟨b, o + i * 3 + 2, none⟩ = some (.bool (gs x.parts i).turns) ∧ I64 (gs x.parts i).long := by
  obtain ⟨b, o, rfl, hb, hc⟩ := h.get 0 h0
  refine ⟨b, o, fun i => if hi : i < n then (hc i hi).choose else undef, rfl, hb, fun i hi => ?_⟩
  simp only [dif_pos hi]
  exact (hc i hi).choose_spec

attribute [local go_sem ↓] append_alias

set_option maxRecDepth 100000 in
set_option maxHeartbeats 4000000 in
theorem only_any {B : Nat} {pa sa : Option Addr} {pn pc sn sc S s : Nat} {x : Book} {w : World} (hB : B ≤ w.heap.size) (hx : BookAt B w pa pn sa sn x) (h1 : 0 < pn) (h2 : pn ≤ 5) (h3 : 0 < sn) (h4 : sn ≤ 5) (hS : S < 32) (hs32 : s < 32) :
    Calls Try.prog 91 #[.agg #[.slice pa pn pc, .slice sa sn sc], .int .i64 S, .int .i64 s] w fun e w' => ∃ qa qn qc ta tn tc, e = .returned (.agg #[.slice qa qn qc, .slice ta tn tc]) ∧ BookAt w'.heap.size w' qa qn ta tn (onlyB x S s) ∧ Below w.heap.size w w' := by
  have hpn := Lib.hid hx.planks.len
  have hsn := Lib.hid hx.parts.len
  obtain ⟨W0, hW0⟩ : ∃ W0, W0 = ((w.alloc (.cells #[.slice pa pn pc, .slice sa sn sc] 25)).alloc (.cells #[.slice none 0 0, .slice none 0 0] 25)).alloc (.cells #[.slice none 0 0, .slice none 0 0] 25) := ⟨_, rfl⟩
  have hb0 : Below w.heap.size w W0 := by rw [hW0]; exact (((Below.refl _ _).alloc (Nat.le_refl _) _).alloc (by simp) _).alloc (by simp; omega) _
  have hk0 : Blk W0 w.heap.size #[.slice pa pn pc, .slice sa sn sc] := by rw [hW0]; exact ((Blk.new w _ _).alloc _).alloc _
  have hr0 : Blk W0 (w.heap.size + 1) #[.slice none 0 0, .slice none 0 0] := by
    rw [hW0]
    have := Blk.new (w.alloc (.cells #[.slice pa pn pc, .slice sa sn sc] 25)) #[.slice none 0 0, .slice none 0 0] 25
    rw [World.size_alloc] at this
    exact this.alloc _
  have hX0 : Blk W0 (w.heap.size + 2) #[.slice none 0 0, .slice none 0 0] := by
    rw [hW0]
    have := Blk.new ((w.alloc (.cells #[.slice pa pn pc, .slice sa sn sc] 25)).alloc (.cells #[.slice none 0 0, .slice none 0 0] 25)) #[.slice none 0 0, .slice none 0 0] 25
    rw [World.size_alloc, World.size_alloc] at this
    exact this
  have hz0 : W0.heap.size = w.heap.size + 3 := by rw [hW0]; simp
  have hx0 := hx.keep (w' := W0) (Nat.le_refl _) (fun b o h => bcells hb0 b o (by omega))
  clear hx
  obtain ⟨pb, po, kv, rfl, hpB, hkv⟩ := woods_cells hx0.planks h1
  obtain ⟨sb, so, jv, rfl, hsB, hjv⟩ := shapes_cells hx0.parts h3
  have hkv' := Lib.hid hkv
  have hjv' := Lib.hid hjv
  clear hkv hjv hx0
  go_enter Try.func91, Try.ntmps91
  go_wp2_with (fail)
  rw [← hW0]
  clear hW0
  go_loopw [8] (fun v wr => ∃ (k : Nat) (va : Option Addr) (vn vc : Nat), k ≤ pn ∧ v = .int .i64 k ∧ Blk wr (w.heap.size + 2) #[.slice va vn vc, .slice none 0 0] ∧ wr.ownsRow (w.heap.size + 3) 48 2 (.slice va vn vc) (subN S k).length ((subN S k).flatMap (woodC x kv)) ∧ SameBut (fun b => w.heap.size + 2 ≤ b) W0 wr) (fun v _ => pn - (intOf v).toNat)
  case atStart => exact ⟨0, none, 0, 0, by omega, rfl, hX0, ⟨rfl, .inl ⟨rfl, rfl⟩⟩, SameBut.refl _ _⟩
  case round =>
    obtain ⟨k, va, vn, vc, hk, rfl, hX, hown, hs⟩ := hrel
    have hkr := hk0.same hs (by omega)
    have q0 : wr.cell? ⟨w.heap.size, 0, none⟩ = some (.slice (some ⟨pb, po, none⟩) pn pc) := hkr.cell
    have q1 : wr.cell? ⟨w.heap.size, 1, none⟩ = some (.slice (some ⟨sb, so, none⟩) sn sc) := hkr.cell
    have hzr := hs.size
    by_cases hlt : k < pn
    · have hki : (k : Int) < pn := by omega
      have dk : decide ((k : Int) < pn) = true := decide_eq_true hki
      have hsu := subN_succ S k
      have hsl := subN_len S k
      rcases Bool.eq_false_or_eq_true (hasN S k) with hh | hh
      · rw [if_pos hh] at hsu
        have hh' := Lib.hid hh
        have hsu' := Lib.hid hsu
        clear hh hsu
        go_wp2_with (go_at_call 90; refine (Of_any _ hS (by omega)).mono ?_; rintro e w' ⟨rfl, rfl⟩; rw [hh'.out])
        obtain ⟨k1, k2, k3, k4⟩ := hkv'.out k hlt
        obtain ⟨ka, kn, kc, ke, hks⟩ := k1
        have hke := Lib.hid ke
        rw [ke] at k3
        obtain ⟨L, hL⟩ : ∃ L, L = (gw x.planks k).long := ⟨_, rfl⟩
        rw [← hL] at k2
        have hL' := Lib.hid hL
        clear ke hks hL k4
        have hF0 : SameBut (fun b => w.heap.size + 3 ≤ b) wr wr.drew := (SameBut.refl _ _).drew
        have hread : ∀ w', SameBut (fun b => w.heap.size + 3 ≤ b) wr w' → w'.cell? ⟨w.heap.size, 0, none⟩ = some (.slice (some ⟨pb, po, none⟩) pn pc) ∧ w'.cell? ⟨w.heap.size + 2, 0, none⟩ = some (.slice va vn vc) ∧ w'.cell? ⟨pb, po + k * 2, none⟩ = some (.int .i64 L) ∧ w'.cell? ⟨pb, po + k * 2 + 1, none⟩ = some (.slice ka kn kc) := fun w' h =>
          ⟨(hkr.same h (by omega)).cell, (hX.same h (by omega)).cell, ((h.cell (by omega) (by omega)).trans (hs.cell (by omega) (by omega))).trans k2, ((h.cell (by omega) (by omega)).trans (hs.cell (by omega) (by omega))).trans k3⟩
        clear q0 q1 k2 k3
        have hO := open_wide
        have hF := hO.fn
        have hd := hO.depth
        refine region_planW (fun w' => SameBut (fun b => w.heap.size + 3 ≤ b) wr w') [(0, true), (1, true), (2, true), (3, true), (4, true), (5, true), (6, true), (7, false), (8, false), (9, true), (10, false)] (by kernel_rfl) (by kernel_rfl) (by kernel_rfl) (by decide) (by kernel_rfl) ?_
        have hown6 : wr.drew.ownsRow (w.heap.size + 3) 48 2 (.slice va vn vc) (subN S k).length ((subN S k).flatMap (woodC x kv)) := own_same hown ((SameBut.refl (fun _ => False) wr).drew) (fun _ _ h => h)
        obtain ⟨wd, hwd⟩ : ∃ wd, wd = wr.drew := ⟨_, rfl⟩
        rw [← hwd] at hF0 hown6 ⊢
        have hzd : wd.heap.size = wr.heap.size := by rw [hwd]; rfl
        have hzd2 : w.heap.size + 3 ≤ wd.heap.size := by omega
        clear hwd hzd
        iterate 7
          (refine plan_take ?_ rfl hF0 (by rfl) ?_ ?_
           rotate_left
           · intro w' hw'
             obtain ⟨q1, q2, q3, q4⟩ := hread w' hw'
             go_simp
             with_reducible rfl
           simp only [Act.put, List.setIfInBounds_toArray, List.set_cons_zero, List.set_cons_succ])
        refine plan_one rfl (by rfl) (fun K hK => ?_)
        go_simp
        refine hK _ _ (hF0.alloc _) ?_
        clear hK K
        obtain ⟨v', w7, hap, hown7, hs7⟩ := grow_row woodInfo woodsUnder rfl (by decide) (by decide) hown6 (news := [.int .i64 L, .slice ka kn kc]) rfl (fun u hu => by simp at hu; rcases hu with rfl | rfl <;> rfl) (by omega) hzd2
        have hS7 := hF0.trans hs7
        obtain ⟨ua, un, uc, hu⟩ := own_slice hown7
        subst hu
        have hown8 : Hid (w7.ownsRow (w.heap.size + 3) 48 2 (.slice ua un uc) (subN S (k + 1)).length ((subN S (k + 1)).flatMap (woodC x kv))) := Lib.hid (by
          rw [hsu'.out, List.length_append, List.flatMap_append]
          have e : woodC x kv k = [.int .i64 L, .slice ka kn kc] := by unfold woodC; rw [hke.out, hL'.out]
          show w7.ownsRow _ _ _ _ ((subN S k).length + 1) (_ ++ [k].flatMap (woodC x kv))
          rw [show [k].flatMap (woodC x kv) = woodC x kv k by simp, e]
          exact hown7)
        have hX7 := hX.same hS7 (by omega)
        have x0 : w7.cell? ⟨w.heap.size + 2, 0, none⟩ = some (.slice va vn vc) := hX7.cell
        have xf : w7.frozen? ⟨w.heap.size + 2, 0, none⟩ = false := hX7.frozen
        clear hown7 hown6
        refine plan_one rfl (by rfl) (fun K hK => ?_)
        go_simp
        refine hK _ _ hS7 ?_
        clear hK K hap
        iterate 1
          (refine plan_take ?_ rfl hS7 (by rfl) ?_ ?_
           rotate_left
           · intro w' hw'
             go_simp
             with_reducible rfl
           simp only [Act.put, List.setIfInBounds_toArray, List.set_cons_zero, List.set_cons_succ])
        refine plan_last (by kernel_rfl) rfl (by rfl) (fun K hK => ?_)
        go_simp
        refine hK _ _ ?_
        clear hK K
        unfold planW okN
        go_wp2_with fail
        go_roundw
        case rel => exact ⟨k + 1, ua, un, uc, by omega, by go_num, hX7.setAt (i := 0) (.slice ua un uc), own_same hown8.out ((SameBut.refl (fun b => b = w.heap.size + 2) w7).setCell (M := fun b => b = w.heap.size + 2) (.inl rfl) _) (fun g hg e => by have := (hown8.out.lt g hg).1; omega), (hs.trans (hS7.mono (fun b h => by omega))).setCell (M := fun b => w.heap.size + 2 ≤ b) (.inl (Nat.le_refl _)) _⟩
        case measure => simp [intOf]; omega
      · have hsu' : Hid (subN S (k + 1) = subN S k) := Lib.hid (by rw [hsu, if_neg (by rw [hh]; simp), List.append_nil])
        have hh' := Lib.hid hh
        clear hh hsu
        go_wp2_with (go_at_call 90; refine (Of_any _ hS (by omega)).mono ?_; rintro e w' ⟨rfl, rfl⟩; rw [hh'.out])
        go_roundw
        case rel => exact ⟨k + 1, va, vn, vc, by omega, by go_num, hX, by rw [hsu'.out]; exact hown, hs⟩
        case measure => simp [intOf]; omega
    · obtain rfl : k = pn := by omega
      have dk : decide ((k : Int) < k) = false := decide_eq_false (by omega)
      go_wp2_with (fail)
      obtain ⟨W1, hW1⟩ : ∃ W1, W1 = wr := ⟨_, rfl⟩
      rw [← hW1] at hX hown hs hkr hzr ⊢
      clear hW1 q0 q1 dk hX0
      have hr1 := hr0.same hs (by omega)
      go_loopw [9] (fun v wr => ∃ (j : Nat) (ta : Option Addr) (tn tc : Nat), j ≤ sn ∧ v = .int .i64 j ∧ Blk wr (w.heap.size + 2) #[.slice va vn vc, .slice ta tn tc] ∧ wr.ownsRow W1.heap.size 50 3 (.slice ta tn tc) (subN s j).length ((subN s j).flatMap (shapeC x jv)) ∧ SameBut (fun b => b = w.heap.size + 2 ∨ W1.heap.size ≤ b) W1 wr) (fun v _ => sn - (intOf v).toNat)
      case atStart => exact ⟨0, none, 0, 0, by omega, rfl, hX, ⟨rfl, .inl ⟨rfl, rfl⟩⟩, SameBut.refl _ _⟩
      case round =>
        obtain ⟨j, ta, tn, tc, hj, rfl, hY, hown2, hs2⟩ := hrel
        have hk2 := hkr.same hs2 (by omega)
        have q0 : wr.cell? ⟨w.heap.size, 0, none⟩ = some (.slice (some ⟨pb, po, none⟩) k pc) := hk2.cell
        have q1 : wr.cell? ⟨w.heap.size, 1, none⟩ = some (.slice (some ⟨sb, so, none⟩) sn sc) := hk2.cell
        have hz2 := hs2.size
        by_cases hlt2 : j < sn
        · have hji : (j : Int) < sn := by omega
          have dj : decide ((j : Int) < sn) = true := decide_eq_true hji
          have hsu := subN_succ s j
          have hsl := subN_len s j
          rcases Bool.eq_false_or_eq_true (hasN s j) with hh | hh
          · rw [if_pos hh] at hsu
            have hh' := Lib.hid hh
            have hsu' := Lib.hid hsu
            clear hh hsu
            go_wp2_with (go_at_call 90; refine (Of_any _ hs32 (by omega)).mono ?_; rintro e w' ⟨rfl, rfl⟩; rw [hh'.out])
            obtain ⟨k1, k2, k3, k4, k5⟩ := hjv'.out j hlt2
            obtain ⟨ka, kn, kc, ke, hks⟩ := k1
            have hke := Lib.hid ke
            rw [ke] at k3
            obtain ⟨L, hL⟩ : ∃ L, L = (gs x.parts j).long := ⟨_, rfl⟩
            obtain ⟨T, hT⟩ : ∃ T, T = (gs x.parts j).turns := ⟨_, rfl⟩
            rw [← hL] at k2
            rw [← hT] at k4
            have hL' := Lib.hid hL
            have hT' := Lib.hid hT
            clear ke hks hL hT k5
            have hF0 : SameBut (fun b => W1.heap.size ≤ b) wr wr.drew := (SameBut.refl _ _).drew
            have hss : SameBut (fun b => w.heap.size + 2 ≤ b) W0 wr := hs.trans (hs2.mono (fun b h => by omega))
            have hread : ∀ w', SameBut (fun b => W1.heap.size ≤ b) wr w' → w'.cell? ⟨w.heap.size, 1, none⟩ = some (.slice (some ⟨sb, so, none⟩) sn sc) ∧ w'.cell? ⟨w.heap.size + 2, 1, none⟩ = some (.slice ta tn tc) ∧ w'.cell? ⟨sb, so + j * 3, none⟩ = some (.int .i64 L) ∧ w'.cell? ⟨sb, so + j * 3 + 1, none⟩ = some (.slice ka kn kc) ∧ w'.cell? ⟨sb, so + j * 3 + 2, none⟩ = some (.bool T) := fun w' h =>
              ⟨(hk2.same h (by omega)).cell, (hY.same h (by omega)).cell, ((h.cell (by omega) (by omega)).trans (hss.cell (by omega) (by omega))).trans k2, ((h.cell (by omega) (by omega)).trans (hss.cell (by omega) (by omega))).trans k3, ((h.cell (by omega) (by omega)).trans (hss.cell (by omega) (by omega))).trans k4⟩
            clear q0 q1 k2 k3 k4
            have hO := open_wide
            have hF := hO.fn
            have hd := hO.depth
            refine region_planW (fun w' => SameBut (fun b => W1.heap.size ≤ b) wr w') [(0, true), (1, true), (2, true), (3, true), (4, true), (5, true), (6, true), (7, false), (8, false), (9, true), (10, false)] (by kernel_rfl) (by kernel_rfl) (by kernel_rfl) (by decide) (by kernel_rfl) ?_
            have hown6 : wr.drew.ownsRow W1.heap.size 50 3 (.slice ta tn tc) (subN s j).length ((subN s j).flatMap (shapeC x jv)) := own_same hown2 ((SameBut.refl (fun _ => False) wr).drew) (fun _ _ h => h)
            obtain ⟨wd, hwd⟩ : ∃ wd, wd = wr.drew := ⟨_, rfl⟩
            rw [← hwd] at hF0 hown6 ⊢
            have hzd : wd.heap.size = wr.heap.size := by rw [hwd]; rfl
            have hzd2 : W1.heap.size ≤ wd.heap.size := by omega
            clear hwd hzd
            iterate 7
              (refine plan_take ?_ rfl hF0 (by rfl) ?_ ?_
               rotate_left
               · intro w' hw'
                 obtain ⟨q1, q2, q3, q4, q5⟩ := hread w' hw'
                 go_simp
                 with_reducible rfl
               simp only [Act.put, List.setIfInBounds_toArray, List.set_cons_zero, List.set_cons_succ])
            refine plan_one rfl (by rfl) (fun K hK => ?_)
            go_simp
            refine hK _ _ (hF0.alloc _) ?_
            clear hK K
            obtain ⟨v', w7, hap, hown7, hs7⟩ := grow_row shapeInfo shapesUnder rfl (by decide) (by decide) hown6 (news := [.int .i64 L, .slice ka kn kc, .bool T]) rfl (fun u hu => by simp at hu; rcases hu with rfl | rfl | rfl <;> rfl) (by omega) hzd2
            have hS7 := hF0.trans hs7
            obtain ⟨ua, un, uc, hu⟩ := own_slice hown7
            subst hu
            have hown8 : Hid (w7.ownsRow W1.heap.size 50 3 (.slice ua un uc) (subN s (j + 1)).length ((subN s (j + 1)).flatMap (shapeC x jv))) := Lib.hid (by
              rw [hsu'.out, List.length_append, List.flatMap_append]
              have e : shapeC x jv j = [.int .i64 L, .slice ka kn kc, .bool T] := by unfold shapeC; rw [hke.out, hL'.out, hT'.out]
              show w7.ownsRow _ _ _ _ ((subN s j).length + 1) (_ ++ [j].flatMap (shapeC x jv))
              rw [show [j].flatMap (shapeC x jv) = shapeC x jv j by simp, e]
              exact hown7)
            have hY7 := hY.same hS7 (by omega)
            have x0 : w7.cell? ⟨w.heap.size + 2, 1, none⟩ = some (.slice ta tn tc) := hY7.cell
            have xf : w7.frozen? ⟨w.heap.size + 2, 1, none⟩ = false := hY7.frozen
            clear hown7 hown6
            refine plan_one rfl (by rfl) (fun K hK => ?_)
            go_simp
            refine hK _ _ hS7 ?_
            clear hK K hap
            iterate 1
              (refine plan_take ?_ rfl hS7 (by rfl) ?_ ?_
               rotate_left
               · intro w' hw'
                 go_simp
                 with_reducible rfl
               simp only [Act.put, List.setIfInBounds_toArray, List.set_cons_zero, List.set_cons_succ])
            refine plan_last (by kernel_rfl) rfl (by rfl) (fun K hK => ?_)
            go_simp
            refine hK _ _ ?_
            clear hK K
            unfold planW okN
            go_wp2_with fail
            go_roundw
            case rel => exact ⟨j + 1, ua, un, uc, by omega, by go_num, hY7.setAt (i := 1) (.slice ua un uc), own_same hown8.out ((SameBut.refl (fun b => b = w.heap.size + 2) w7).setCell (M := fun b => b = w.heap.size + 2) (.inl rfl) _) (fun g hg e => by have := (hown8.out.lt g hg).1; omega), (hs2.trans (hS7.mono (fun b h => .inr h))).setCell (M := fun b => b = w.heap.size + 2 ∨ W1.heap.size ≤ b) (.inl (.inl rfl)) _⟩
            case measure => simp [intOf]; omega
          · have hsu' : Hid (subN s (j + 1) = subN s j) := Lib.hid (by rw [hsu, if_neg (by rw [hh]; simp), List.append_nil])
            have hh' := Lib.hid hh
            clear hh hsu
            go_wp2_with (go_at_call 90; refine (Of_any _ hs32 (by omega)).mono ?_; rintro e w' ⟨rfl, rfl⟩; rw [hh'.out])
            go_roundw
            case rel => exact ⟨j + 1, ta, tn, tc, by omega, by go_num, hY, by rw [hsu'.out]; exact hown2, hs2⟩
            case measure => simp [intOf]; omega
        · obtain rfl : j = sn := by omega
          have dj : decide ((j : Int) < j) = false := decide_eq_false (by omega)
          have x0 : wr.cell? ⟨w.heap.size + 2, 0, none⟩ = some (.slice va vn vc) := hY.cell
          have x1 : wr.cell? ⟨w.heap.size + 2, 1, none⟩ = some (.slice ta tn tc) := hY.cell
          have hr2 := hr1.same hs2 (by omega)
          have r0 : wr.cell? ⟨w.heap.size + 1, 0, none⟩ = some (.slice none 0 0) := hr2.cell
          have r1 : wr.cell? ⟨w.heap.size + 1, 1, none⟩ = some (.slice none 0 0) := hr2.cell
          have f0 : wr.frozen? ⟨w.heap.size + 1, 0, none⟩ = false := hr2.frozen
          have f1 : wr.frozen? ⟨w.heap.size + 1, 1, none⟩ = false := hr2.frozen
          have hown1 := own_same hown hs2 (fun g hg e => by have := hown.lt g hg; omega)
          have hss : SameBut (fun b => w.heap.size + 2 ≤ b) W0 wr := hs.trans (hs2.mono (fun b h => by omega))
          have hbw : Below w.heap.size w wr := hb0.trans (hss.toBelow (by omega) (fun b h => by omega))
          have hfin : ∀ w9, SameBut (fun b => b = w.heap.size + 1) wr w9 → BookAt w9.heap.size w9 va vn ta tn (onlyB x S s) ∧ Below w.heap.size w w9 := by
            intro w9 h9
            have hz9 := h9.size
            have o1 := own_same hown1 h9 (fun g hg e => by have := (hown1.lt g hg).1; omega)
            have o2 := own_same hown2 h9 (fun g hg e => by have := (hown2.lt g hg).1; omega)
            obtain ⟨a1, n1, c1, e1, hw⟩ := woods_own (B := B) o1 (by have := subN_len S k; omega) (by omega) (fun i hi => by
              have hi := (subN_mem hi).1
              obtain ⟨k1, _, _, k4⟩ := hkv'.out i hi
              exact ⟨k1.keep (Nat.le_refl _) (fun b o h => (h9.cell (by omega) (by omega)).trans (hss.cell (by omega) (by omega))), k4⟩)
            obtain ⟨a2, n2, c2, e2, hw2⟩ := shapes_own (B := B) o2 (by have := subN_len s j; omega) (by omega) (fun i hi => by
              have hi := (subN_mem hi).1
              obtain ⟨k1, _, _, _, k5⟩ := hjv'.out i hi
              exact ⟨k1.keep (Nat.le_refl _) (fun b o h => (h9.cell (by omega) (by omega)).trans (hss.cell (by omega) (by omega))), k5⟩)
            cases e1
            cases e2
            refine ⟨⟨?_, ?_⟩, hbw.trans (h9.toBelow (by omega) (fun b h => by omega))⟩
            · unfold onlyB; rw [hpn.out]; exact hw
            · unfold onlyB; rw [hsn.out]; exact hw2
          have hfin' := Lib.hid hfin
          clear hfin
          go_wp2_with (fail)
          refine bodyPost_ret (v := .agg #[.slice va vn vc, .slice ta tn tc]) ?_ rfl ⟨va, vn, vc, ta, tn, tc, rfl, hfin'.out _ (((SameBut.refl _ wr).setCell (M := fun b => b = w.heap.size + 1) (.inl rfl) _).setCell (M := fun b => b = w.heap.size + 1) (.inl rfl) _)⟩
          simp [results, Try.results91, go_sem, r0, r1]
end Go.Proofs.Ytilbkmogmlcpaaa
