/- Walks: the specification's Spots, of any question. Plain mathematics: the specification's search for inches finds what the program's does. Numbers in a block of one's own; the tables of all planks in memory. Walks: the specification's table of ends. -/
import Derived.Test.YtbbolibkheelmaaPfs10
import Derived.Test.YtbbolibkheelmaaPfs08
import Derived.Deep.DeepCutAuto
namespace Go.Proofs.Ytbbolibkheelmaa
open Go.RowKit Go.Shelf

theorem asked_ask {x : Book} {i p : Int} : askedE x (numB x.planks.length i && numB x.parts.length p) = askE x i [p] := by
  unfold askedE
  rcases Bool.eq_false_or_eq_true (bookOk x) with hb | hb
  · rw [if_pos hb, ask_one hb]
  · rw [if_neg (by rw [hb]; simp), askE_bad hb]

set_option maxRecDepth 100000 in
set_option maxHeartbeats 4000000 in
theorem refSpots_any {B : Nat} {pa sa : Option Addr} {pn pc sn sc : Nat} {i p : Int} {x : Book} {w : World} (hB : B ≤ w.heap.size) (hx : BookAt B w pa pn sa sn x) :
    Calls Try.prog 21 #[.agg #[.slice pa pn pc, .slice sa sn sc], .int .i64 i, .int .i64 p] w fun e w' => ∃ v, e = .returned (.tuple #[v, .int .i64 (askE x i [p])]) ∧ IntsV w'.heap.size w' v (spotsL x i p) ∧ Below w.heap.size w w' := by
  have hpn := Lib.hid hx.planks.len
  have hsn := Lib.hid hx.parts.len
  have hps := hx.planks.small
  have hss := hx.parts.small
  obtain ⟨W0, hW0⟩ : ∃ W0, W0 = w.alloc (.cells #[.slice pa pn pc, .slice sa sn sc] 25) := ⟨_, rfl⟩
  have hb0 : Below w.heap.size w W0 := by rw [hW0]; exact (Below.refl _ _).alloc (Nat.le_refl _) _
  have hk0 : Blk W0 w.heap.size #[.slice pa pn pc, .slice sa sn sc] := by rw [hW0]; exact Blk.new w _ _
  have l0 : w.heap.size < W0.heap.size := hk0.lt
  have hx0 := Lib.hid (hx.keep (w' := W0) (Nat.le_refl _) (fun b o h => bcells hb0 b o (by omega)))
  clear hx
  obtain ⟨b1, hb1⟩ : ∃ b1, numB pn i = b1 := ⟨_, rfl⟩
  obtain ⟨b2, hb2⟩ : ∃ b2, numB sn p = b2 := ⟨_, rfl⟩
  obtain ⟨E, hE⟩ : ∃ E, E = askE x i [p] := ⟨_, rfl⟩
  rw [← hE]
  have hE2 : Hid (E = askedE x (b1 && b2)) := Lib.hid (by rw [hE, ← asked_ask, hpn.out, hsn.out, hb1, hb2])
  have hb1' := Lib.hid hb1
  have hb2' := Lib.hid hb2
  have hE' := Lib.hid hE
  clear hb1 hb2 hE
  go_enter Try.func21, Try.ntmps21
  replace hW0 := hW0.symm
  go_upto_region 1 with fail
  clear hW0
  go_cut [8] (fun s wx => s = .int .i64 E ∧ Below W0.heap.size W0 wx)
  case first =>
    have hO := open_wide
    have hF := hO.fn
    have hd := hO.depth
    have hS0 : SameBut (fun _ => False) W0 W0.drew := (SameBut.refl _ _).drew
    have hread : ∀ w', SameBut (fun _ => False) W0 w' → w'.cell? ⟨w.heap.size, 0, none⟩ = some (.slice pa pn pc) ∧ w'.cell? ⟨w.heap.size, 1, none⟩ = some (.slice sa sn sc) := fun w' h =>
      ⟨(hk0.same h (fun e => e)).cell, (hk0.same h (fun e => e)).cell⟩
    cases b1 with
    | false =>
      refine region_planW (fun w' => SameBut (fun _ => False) W0 w') [(0, true), (1, true), (2, true), (3, false), (4, true), (5, true), (6, true), (7, true), (8, true), (9, false), (10, true)] (by kernel_rfl) (by kernel_rfl) (by kernel_rfl) (by decide) (by kernel_rfl) ?_
      iterate 3
        (refine plan_take ?_ rfl hS0 (by rfl) ?_ ?_
         rotate_left
         · intro w' hw'
           obtain ⟨q1, q2⟩ := hread w' hw'
           go_simp
           with_reducible rfl
         simp only [Act.put, List.setIfInBounds_toArray, List.set_cons_zero, List.set_cons_succ])
      refine plan_one rfl (by rfl) (fun K hK => ?_)
      go_simp
      refine (hO.calls (isPlank_any hps)).mono ?_
      rintro e w5 ⟨rfl, hb5⟩
      rw [hb1'.out]
      have hS5 : SameBut (fun _ => False) W0 w5 := hS0.below hb5
      refine hK _ _ hS5 ?_
      clear hK K hb5
      iterate 1
        (refine plan_take ?_ rfl hS5 (by rfl) ?_ ?_
         rotate_left
         · intro w' hw'
           go_simp
           with_reducible rfl
         simp only [Act.put, List.setIfInBounds_toArray, List.set_cons_zero, List.set_cons_succ])
      iterate 3
        (refine plan_skip rfl hS5 (by rfl) ?_
         simp only [Act.put, List.setIfInBounds_toArray, List.set_cons_zero, List.set_cons_succ])
      iterate 1
        (refine plan_take ?_ rfl hS5 (by rfl) ?_ ?_
         rotate_left
         · intro w' hw'
           go_simp
           with_reducible rfl
         simp only [Act.put, List.setIfInBounds_toArray, List.set_cons_zero, List.set_cons_succ])
      refine plan_one rfl (by rfl) (fun K hK => ?_)
      go_simp
      refine (hO.calls (asked_any (B := B) (ok := false) (by have := hS5.size; omega) (hx0.out.keep (Nat.le_refl _) (fun b o h => hS5.cell (by omega) (fun e => e))))).mono ?_
      rintro e w6 ⟨rfl, hb6⟩
      have hS6 : SameBut (fun _ => False) W0 w6 := hS5.below hb6
      refine hK _ _ hS6 ?_
      clear hK K hb6
      iterate 1
        (refine plan_take ?_ rfl hS6 (by rfl) ?_ ?_
         rotate_left
         · intro w' hw'
           go_simp
           with_reducible rfl
         simp only [Act.put, List.setIfInBounds_toArray, List.set_cons_zero, List.set_cons_succ])
      unfold planW okN
      go_wp2_with fail
      go_meet
      exact ⟨by rw [hE2.out]; rfl, hS6.toBelow (Nat.le_refl _) (fun _ h => h.elim)⟩
    | true =>
      refine region_planW (fun w' => SameBut (fun _ => False) W0 w') [(0, true), (1, true), (2, true), (3, false), (4, true), (5, true), (6, true), (7, false), (8, true), (9, false), (10, true)] (by kernel_rfl) (by kernel_rfl) (by kernel_rfl) (by decide) (by kernel_rfl) ?_
      iterate 3
        (refine plan_take ?_ rfl hS0 (by rfl) ?_ ?_
         rotate_left
         · intro w' hw'
           obtain ⟨q1, q2⟩ := hread w' hw'
           go_simp
           with_reducible rfl
         simp only [Act.put, List.setIfInBounds_toArray, List.set_cons_zero, List.set_cons_succ])
      refine plan_one rfl (by rfl) (fun K hK => ?_)
      go_simp
      refine (hO.calls (isPlank_any hps)).mono ?_
      rintro e w5 ⟨rfl, hb5⟩
      rw [hb1'.out]
      have hS5 : SameBut (fun _ => False) W0 w5 := hS0.below hb5
      refine hK _ _ hS5 ?_
      clear hK K hb5
      iterate 3
        (refine plan_take ?_ rfl hS5 (by rfl) ?_ ?_
         rotate_left
         · intro w' hw'
           obtain ⟨q1, q2⟩ := hread w' hw'
           go_simp
           with_reducible rfl
         simp only [Act.put, List.setIfInBounds_toArray, List.set_cons_zero, List.set_cons_succ])
      refine plan_one rfl (by rfl) (fun K hK => ?_)
      go_simp
      refine (hO.calls (isPart_any hss)).mono ?_
      rintro e w6 ⟨rfl, hb6⟩
      rw [hb2'.out]
      have hS6 : SameBut (fun _ => False) W0 w6 := hS5.below hb6
      refine hK _ _ hS6 ?_
      clear hK K hb6
      iterate 1
        (refine plan_take ?_ rfl hS6 (by rfl) ?_ ?_
         rotate_left
         · intro w' hw'
           go_simp
           with_reducible rfl
         simp only [Act.put, List.setIfInBounds_toArray, List.set_cons_zero, List.set_cons_succ])
      refine plan_one rfl (by rfl) (fun K hK => ?_)
      go_simp
      refine (hO.calls (asked_any (B := B) (ok := b2) (by have := hS6.size; omega) (hx0.out.keep (Nat.le_refl _) (fun b o h => hS6.cell (by omega) (fun e => e))))).mono ?_
      rintro e w7 ⟨rfl, hb7⟩
      have hS7 : SameBut (fun _ => False) W0 w7 := hS6.below hb7
      refine hK _ _ hS7 ?_
      clear hK K hb7
      iterate 1
        (refine plan_take ?_ rfl hS7 (by rfl) ?_ ?_
         rotate_left
         · intro w' hw'
           go_simp
           with_reducible rfl
         simp only [Act.put, List.setIfInBounds_toArray, List.set_cons_zero, List.set_cons_succ])
      unfold planW okN
      go_wp2_with fail
      go_meet
      exact ⟨by rw [hE2.out]; rfl, hS7.toBelow (Nat.le_refl _) (fun _ h => h.elim)⟩
  case rest =>
  obtain ⟨rfl, hb4⟩ := hcut
  obtain ⟨w1, hw1⟩ : ∃ w1, w1 = wc := ⟨_, rfl⟩
  rw [← hw1] at hb4 ⊢
  clear hw1 hb1' hb2' hE2
  have hbw : Below w.heap.size w w1 := hb0.trans (hb4.mono (by omega))
  replace hk0 := hk0.below hb4 hk0.lt
  replace hx0 := Lib.hid (hx0.out.keep (w' := w1) (Nat.le_refl _) (fun b o h => bcells hb4 b o (by omega)))
  have hBw : B ≤ w1.heap.size := by have := hbw.size; omega
  clear hb4 hb0 l0
  have q0 : w1.cell? ⟨w.heap.size, 0, none⟩ = some (.slice pa pn pc) := hk0.cell
  have q1 : w1.cell? ⟨w.heap.size, 1, none⟩ = some (.slice sa sn sc) := hk0.cell
  by_cases h0 : E = 0
  · have hee : (E != 0) = false := by simp [h0]
    obtain ⟨hb, hi0, hi1, hpp⟩ := askE_zero (hE'.out.symm.trans h0)
    have hp1 := hpp 0 (by simp)
    have hpe : gi [p] 0 = p := rfl
    rw [hpe] at hp1
    obtain ⟨i', rfl⟩ := Int.eq_ofNat_of_zero_le hi0
    obtain ⟨p', rfl⟩ := Int.eq_ofNat_of_zero_le hp1.1
    have h0' := Lib.hid h0
    have hi2 : i' < pn := by rw [← hpn.out]; omega
    have hp2 : p' < sn := by rw [← hsn.out]; omega
    clear h0 hpe hi1 hp1
    go_wp2_with (fail)
    refine (refspots_any (B := B) hBw hx0.out hb hi2 hp2).mono ?_
    rintro e w2 ⟨ra, rn, rc, rfl, hl, hb2⟩
    go_wp2_with (fail)
    go_ret2
    exact ⟨_, by rw [h0'.out]; rfl, ⟨ra, rn, rc, rfl, hl⟩, hbw.trans (hb2.mono hbw.size)⟩
  · have hee : (E != 0) = true := by simp [h0]
    have hL : Hid (spotsL x i p = []) := Lib.hid (by unfold spotsL; rw [if_neg (by rw [← hE'.out]; exact h0)])
    clear h0
    go_wp2_with (fail)
    go_ret2
    exact ⟨_, rfl, by rw [hL.out]; exact ⟨none, 0, 0, rfl, rfl, by omega, fun i hi => by omega⟩, hbw⟩
end Go.Proofs.Ytbbolibkheelmaa
namespace Go.Proofs.Ytbbolibkheelmaa
open Go.RowKit Go.Shelf

theorem find_congr {α β : Type} {f g : α → Option β} : ∀ l : List α, (∀ t ∈ l, f t = g t) → l.findSome? f = l.findSome? g
  | [], _ => rfl
  | a :: l, h => by
    rw [List.findSome?_cons, List.findSome?_cons, h a (by simp), find_congr l (fun t ht => h t (by simp [ht]))]
theorem find_map {α β γ : Type} {f : α → Option β} {h : β → γ} : ∀ l : List α, (l.findSome? f).map h = l.findSome? fun t => (f t).map h
  | [] => rfl
  | a :: l => by
    rw [List.findSome?_cons, List.findSome?_cons, ← find_map l]
    cases f a <;> rfl
theorem find_spots {β : Type} {bm : Int × Int → Option Int} {q : Int} {f : Int → Option β} : ∀ ts : List Nat, (spotsOf bm q ts).findSome? f = ts.findSome? fun (t : Nat) => if (bm (q, (t : Int))).getD 0 = 2 then f t else none
  | [] => rfl
  | a :: ts => by
    have ih := find_spots (bm := bm) (q := q) (f := f) ts
    unfold spotsOf at ih ⊢
    rw [List.findSome?_cons, ← ih]
    by_cases h : (bm (q, (a : Int))).getD 0 = 2
    · rw [if_pos h, List.filter_cons_of_pos (by simpa using h), List.map_cons, List.findSome?_cons]
    · rw [if_neg h, List.filter_cons_of_neg (by simpa using h)]

/-- Does a part lie free of those before it? -/
def freeR (x : Book) (parts at_ : List Int) (n : Nat) (t : Int) (k : Nat) : Bool := allB k fun k => decide (t + lenOf x.parts parts n ≤ gi at_ k) || decide (gi at_ k + lenOf x.parts parts k ≤ t)
/-- The first list of inches that goes on from these. -/
def laidF (x : Book) (i : Nat) (parts : List Int) : Nat → List Int → Option (List Int)
  | 0, at_ => some at_
  | r + 1, at_ => (spotsL x i (gi parts at_.length)).findSome? fun t => if freeR x parts at_ at_.length t at_.length = true then laidF x i parts r (at_ ++ [t]) else none
def maskU (x : Book) (parts at_ : List Int) (n : Nat) : Nat → Bool := fun m => anyB n fun k => decide (gi at_ k ≤ m ∧ (m : Int) < gi at_ k + lenOf x.parts parts k)

theorem gi_app {xs : List Int} {y : Int} {k : Nat} (h : k < xs.length) : gi (xs ++ [y]) k = gi xs k := by
  rw [gi_eq (by simp; omega), gi_eq h, List.getElem_append_left h]
theorem gi_last {xs : List Int} {y : Int} : gi (xs ++ [y]) xs.length = y := by
  rw [gi_eq (by simp)]; simp
section
variable {x : Book} {i : Nat} {parts : List Int}
theorem mask_more {at_ : List Int} {t : Int} : orM (maskU x parts at_ at_.length) (betM t (t + lenOf x.parts parts at_.length - 1)) = maskU x parts (at_ ++ [t]) (at_.length + 1) := by
  funext m
  rw [Bool.eq_iff_iff]
  unfold orM betM maskU
  rw [Bool.or_eq_true, anyB_iff, anyB_iff, decide_eq_true_eq]
  constructor
  · rintro (⟨k, hk, h⟩ | h)
    · exact ⟨k, by omega, by rw [gi_app hk]; exact h⟩
    · exact ⟨at_.length, by omega, by rw [gi_last]; simp only [decide_eq_true_eq]; omega⟩
  · rintro ⟨k, hk, h⟩
    by_cases e : k = at_.length
    · subst e
      rw [gi_last, decide_eq_true_eq] at h
      exact .inr (by omega)
    · rw [gi_app (by omega)] at h
      exact .inl ⟨k, by omega, h⟩
theorem free_mask (hb : bookOk x = true) (hi : i < x.planks.length) (hP : Parts x parts) {at_ : List Int} (hl : at_.length < parts.length) (ha : ∀ k, k < at_.length → 0 ≤ gi at_ k ∧ gi at_ k + lenOf x.parts parts k ≤ (gw x.planks i).long) {t : Int} (h0 : 0 ≤ t) (h1 : t + lenOf x.parts parts at_.length ≤ (gw x.planks i).long) :
    freeR x parts at_ at_.length t at_.length = freeB (maskU x parts at_ at_.length) t (lenOf x.parts parts at_.length) := by
  have hG := good_of hb
  have hL := hG.wood i hi
  have hlen : ∀ k, k < parts.length → 1 ≤ lenOf x.parts parts k := fun k hk => by
    have := hP.num k hk
    exact (hG.shape (gi parts k).toNat (by omega)).1
  rw [Bool.eq_iff_iff, free_iff]
  unfold freeR
  rw [allB_iff]
  constructor
  · intro h m hm m1 m2
    rw [← Bool.not_eq_true]
    intro hx
    unfold maskU at hx
    rw [anyB_iff] at hx
    obtain ⟨k, hk, e⟩ := hx
    have h3 := h k hk
    rw [Bool.or_eq_true, decide_eq_true_eq, decide_eq_true_eq] at h3
    rw [decide_eq_true_eq] at e
    omega
  · intro h k hk
    rw [Bool.or_eq_true, decide_eq_true_eq, decide_eq_true_eq]
    by_cases c1 : t + lenOf x.parts parts at_.length ≤ gi at_ k
    · exact .inl c1
    by_cases c2 : gi at_ k + lenOf x.parts parts k ≤ t
    · exact .inr c2
    exfalso
    have h3 := ha k hk
    have h4 := hlen k (by omega)
    have h5 := hlen at_.length hl
    have h6 := h (max t (gi at_ k)).toNat (by omega) (by omega) (by omega)
    unfold maskU at h6
    rw [← Bool.not_eq_true, anyB_iff] at h6
    refine h6 ⟨k, hk, ?_⟩
    rw [decide_eq_true_eq]
    omega
theorem laidF_is (hb : bookOk x = true) (hi : i < x.planks.length) (hP : Parts x parts) : ∀ (r : Nat) (at_ : List Int), at_.length + r = parts.length → (∀ k, k < at_.length → 0 ≤ gi at_ k ∧ gi at_ k + lenOf x.parts parts k ≤ (gw x.planks i).long) →
    laidF x i parts r at_ = (srch (boardM (gw x.planks i) x.parts x.parts.length) x.parts (gw x.planks i).long parts r (maskU x parts at_ at_.length) at_.length).map fun l => at_ ++ l
  | 0, at_, _, _ => by simp [laidF, srch]
  | r + 1, at_, hr, ha => by
    have hn := hP.num at_.length (by omega)
    obtain ⟨q, hq⟩ : ∃ q : Nat, gi parts at_.length = q := ⟨(gi parts at_.length).toNat, by omega⟩
    have hql : q < x.parts.length := by omega
    have hlq : lenOf x.parts parts at_.length = (gs x.parts q).long := by unfold lenOf; rw [hq, Int.toNat_natCast]
    unfold laidF srch
    have hsp : spotsL x i (gi parts at_.length) = spotsOf (boardM (gw x.planks i) x.parts x.parts.length) (gi parts at_.length) (List.range (many (gw x.planks i).long (lenOf x.parts parts at_.length))) := by
      have hask : askE x i [gi parts at_.length] = 0 := by
        rw [hq, ask_one hb, if_pos]
        unfold numB
        rw [Bool.and_eq_true, decide_eq_true_eq, decide_eq_true_eq]
        omega
      unfold spotsL
      rw [if_pos hask, hlq, hq]
      simp only [Int.toNat_natCast]
    rw [hsp, find_spots, find_map]
    refine find_congr _ (fun t ht => ?_)
    rw [List.mem_range] at ht
    by_cases h2 : (boardM (gw x.planks i) x.parts x.parts.length (gi parts at_.length, (t : Int))).getD 0 = 2
    · have ht2 : (t : Int) + lenOf x.parts parts at_.length ≤ (gw x.planks i).long := by unfold many at ht; omega
      rw [if_pos h2, free_mask hb hi hP (by omega) ha (by omega) ht2]
      by_cases hf : freeB (maskU x parts at_ at_.length) (t : Int) (lenOf x.parts parts at_.length) = true
      · rw [if_pos hf, if_pos ⟨h2, hf⟩, mask_more]
        have ih := laidF_is hb hi hP r (at_ ++ [(t : Int)]) (by simp; omega) (fun k hk => by
          rw [List.length_append] at hk
          by_cases e : k = at_.length
          · subst e; rw [gi_last]; exact ⟨by omega, ht2⟩
          · rw [gi_app (by simp at hk; omega)]; exact ha k (by simp at hk; omega))
        rw [ih, Option.map_map, List.length_append]
        congr 1
        funext l
        simp
      · rw [if_neg hf, if_neg (fun h => hf h.2)]; rfl
    · rw [if_neg h2, if_neg (fun h => h2 h.1)]; rfl
/-- All of it: what the program's search finds. -/
theorem laidF_all (hb : bookOk x = true) (hi : i < x.planks.length) (hP : Parts x parts) : laidF x i parts parts.length [] = layL (boardM (gw x.planks i) x.parts x.parts.length) x.parts (gw x.planks i).long parts := by
  rw [laidF_is hb hi hP parts.length [] (by simp) (fun k hk => absurd hk (by simp))]
  unfold layL
  have hM : maskU x parts [] ([] : List Int).length = fun _ => false := by funext m; rfl
  rw [hM]
  simp
theorem can_laidF (hb : bookOk x = true) (hi : i < x.planks.length) {s : Nat} (hs : s < 2 ^ x.parts.length) : canLay x i s = (laidF x i (memL s) (memL s).length []).isSome := by
  rw [laidF_all hb hi (parts_memL hb hs)]; rfl
end
end Go.Proofs.Ytbbolibkheelmaa
namespace Go.Proofs.Ytbbolibkheelmaa
open Go.RowKit Go.Shelf

def rowI (L : Nat) (f : Nat → Int) : Array Value := ((List.range L).map fun i => Value.int .i64 (f i)).toArray
theorem rowI_size (L : Nat) (f : Nat → Int) : (rowI L f).size = L := by simp [rowI]
theorem rowI_get (L : Nat) (f : Nat → Int) {i : Nat} (h : i < L) : (rowI L f)[i]? = some (.int .i64 (f i)) := by simp [rowI, h]
theorem rowI_congr {L : Nat} {f g : Nat → Int} (h : ∀ i, i < L → f i = g i) : rowI L f = rowI L g := by
  unfold rowI; congr 1
  exact List.map_congr_left fun i hi => by rw [h i (List.mem_range.1 hi)]
theorem rowI_set (L : Nat) (f : Nat → Int) {i : Nat} (h : i < L) (v : Int) : (rowI L f).setIfInBounds i (.int .i64 v) = rowI L (updI f i v) := by
  apply Array.ext_getElem?
  intro j
  rw [Array.getElem?_setIfInBounds]
  by_cases hj : j < L
  · rw [rowI_get L (updI f i v) hj]
    by_cases e : i = j
    · subst e; simp [rowI_size, h, updI]
    · rw [if_neg e, rowI_get L f hj]; simp [updI, Ne.symm e]
  · have h1 : (rowI L (updI f i v))[j]? = none := by rw [Array.getElem?_eq_none]; rw [rowI_size]; omega
    have h2 : (rowI L f)[j]? = none := by rw [Array.getElem?_eq_none]; rw [rowI_size]; omega
    rw [h1, h2]
    have : ¬ i = j := by omega
    simp [this]
theorem updI_updI (f : Nat → Int) (k : Nat) (u v : Int) : updI (updI f k u) k v = updI f k v := by
  funext j
  unfold updI
  by_cases e : j = k <;> simp [e]
theorem updI_at (f : Nat → Int) (k : Nat) (v : Int) : updI f k v k = v := by unfold updI; rw [if_pos rfl]
theorem updI_off {f : Nat → Int} {k j : Nat} {v : Int} (h : j ≠ k) : updI f k v j = f j := by unfold updI; rw [if_neg h]
theorem make_ints2 (w : World) : (Instr.makeSlice 31 (.int .i64 ((2 : Nat) : Int)) (.int .i64 ((2 : Nat) : Int))).run Try.prog w = .ok (.slice (some ⟨w.heap.size, 0, none⟩) 2 2) (w.alloc (.cells (rowI 2 fun _ => 0) 3)) := by kernel_rfl
theorem make_ints4 (w : World) : (Instr.makeSlice 31 (.int .i64 ((4 : Nat) : Int)) (.int .i64 ((4 : Nat) : Int))).run Try.prog w = .ok (.slice (some ⟨w.heap.size, 0, none⟩) 4 4) (w.alloc (.cells (rowI 4 fun _ => 0) 3)) := by kernel_rfl
theorem make_ints8 (w : World) : (Instr.makeSlice 31 (.int .i64 ((8 : Nat) : Int)) (.int .i64 ((8 : Nat) : Int))).run Try.prog w = .ok (.slice (some ⟨w.heap.size, 0, none⟩) 8 8) (w.alloc (.cells (rowI 8 fun _ => 0) 3)) := by kernel_rfl
theorem make_ints16 (w : World) : (Instr.makeSlice 31 (.int .i64 ((16 : Nat) : Int)) (.int .i64 ((16 : Nat) : Int))).run Try.prog w = .ok (.slice (some ⟨w.heap.size, 0, none⟩) 16 16) (w.alloc (.cells (rowI 16 fun _ => 0) 3)) := by kernel_rfl
theorem make_ints32 (w : World) : (Instr.makeSlice 31 (.int .i64 ((32 : Nat) : Int)) (.int .i64 ((32 : Nat) : Int))).run Try.prog w = .ok (.slice (some ⟨w.heap.size, 0, none⟩) 32 32) (w.alloc (.cells (rowI 32 fun _ => 0) 3)) := by kernel_rfl
theorem make_ints {n N : Nat} (hN : N = 2 ^ n) (h1 : 1 ≤ n) (h5 : n ≤ 5) (w : World) : (Instr.makeSlice 31 (.int .i64 (N : Int)) (.int .i64 (N : Int))).run Try.prog w = .ok (.slice (some ⟨w.heap.size, 0, none⟩) N N) (w.alloc (.cells (rowI N fun _ => 0) 3)) := by
  have : N = 2 ∨ N = 4 ∨ N = 8 ∨ N = 16 ∨ N = 32 := by
    have : n = 1 ∨ n = 2 ∨ n = 3 ∨ n = 4 ∨ n = 5 := by omega
    rcases this with rfl | rfl | rfl | rfl | rfl <;> simp [hN]
  rcases this with rfl | rfl | rfl | rfl | rfl
  · exact make_ints2 w
  · exact make_ints4 w
  · exact make_ints8 w
  · exact make_ints16 w
  · exact make_ints32 w

/-- One plank's table. -/
def endsL (x : Book) (i : Nat) : List Int := (List.range (2 ^ x.parts.length)).map (endT x i (2 ^ x.parts.length))
theorem endsL_len (x : Book) (i : Nat) : (endsL x i).length = 2 ^ x.parts.length := by simp [endsL]
theorem endsL_get {x : Book} {i s : Nat} (hs : s < 2 ^ x.parts.length) : gi (endsL x i) s = endT x i (2 ^ x.parts.length) s := by
  rw [gi_eq (by rw [endsL_len]; exact hs)]
  unfold endsL
  rw [List.getElem_map, List.getElem_range]
theorem endT_succ {x : Book} {i k : Nat} (hk : 1 ≤ k) : endT x i (k + 1) = updI (endT x i k) k (endP x i (endT x i k) k x.parts.length) := by
  show (if k = 0 then _ else _) = _
  rw [if_neg (by omega)]
theorem endT_one (x : Book) (i : Nat) : endT x i 1 = fun _ => 0 := by
  show (if 0 = 0 then _ else _) = _
  rw [if_pos rfl]
/-- The tables of all planks: a slice of slices. -/
structure TabAt (B : Nat) (w : World) (a : Option Addr) (n : Nat) (x : Book) : Prop where
  len : x.planks.length = n
  get : ∀ i, i < n → ∃ b o, a = some ⟨b, o, none⟩ ∧ b < B ∧ ∀ i, i < n → ∃ ra c, w.cell? ⟨b, o + i, none⟩ = some (.slice ra (2 ^ x.parts.length) c) ∧ IntsAt B w ra (2 ^ x.parts.length) (endsL x i)
theorem TabAt.keep {B B' : Nat} {w w' : World} {a : Option Addr} {n : Nat} {x : Book} (h : TabAt B w a n x) (hB : B ≤ B') (hk : ∀ b o, b < B → w'.cell? ⟨b, o, none⟩ = w.cell? ⟨b, o, none⟩) : TabAt B' w' a n x :=
  ⟨h.len, fun i hi => let ⟨b, o, e, hb, hc⟩ := h.get i hi; ⟨b, o, e, by omega, fun j hj => let ⟨ra, c, h1, h2⟩ := hc j hj; ⟨ra, c, (hk b _ hb).trans h1, h2.keep hB hk⟩⟩⟩
theorem sliceInfo3 : (Try.prog.info? 31).map (fun i => (i.zero, i.size, i.bytes)) = some (some (.slice none 0 0), 1, 24) := by kernel_rfl
theorem slicesUnder : Try.prog.underlying 121 = some (.slice 31) := by kernel_rfl
end Go.Proofs.Ytbbolibkheelmaa
namespace Go.Proofs.Ytbbolibkheelmaa
open Go.RowKit Go.Shelf

set_option maxRecDepth 100000 in
set_option maxHeartbeats 8000000 in
theorem ends_any {B : Nat} {pa sa : Option Addr} {pn pc sn sc i : Nat} {x : Book} {w : World} (hB : B ≤ w.heap.size) (hx : BookAt B w pa pn sa sn x) (hb : bookOk x = true) (hi : i < pn) :
    Calls Try.prog 73 #[.agg #[.slice pa pn pc, .slice sa sn sc], .int .i64 i] w fun e w' => ∃ g, e = .returned (.slice (some ⟨g, 0, none⟩) (2 ^ x.parts.length) (2 ^ x.parts.length)) ∧ w.heap.size ≤ g ∧ Blk w' g (rowI (2 ^ x.parts.length) (endT x i (2 ^ x.parts.length))) ∧ Below w.heap.size w w' := by
  have hG := Lib.hid (good_of hb)
  have hb' := Lib.hid hb
  have hsn := Lib.hid hx.parts.len
  have hpn := Lib.hid hx.planks.len
  have hxi : Hid (i < x.planks.length) := Lib.hid (by rw [hpn.out]; exact hi)
  have hps := hG.out.parts
  rw [hsn.out] at hps
  obtain ⟨s1, s2⟩ := hps
  obtain ⟨N, hN⟩ : ∃ N, N = 2 ^ sn := ⟨_, rfl⟩
  have hN32 : N ≤ 32 := by rw [hN]; exact pow_le32 s2
  have hN1 : 1 ≤ N := by rw [hN]; exact Nat.pow_pos (by decide)
  have hNx : Hid (2 ^ x.parts.length = N) := Lib.hid (by rw [hsn.out, hN])
  have mk := make_ints hN s1 s2
  have hwr : wrap64 (2 ^ sn) = (N : Int) := by rw [hN]; exact wrap_pow s2
  rw [hNx.out]
  obtain ⟨w0, hw0⟩ : ∃ w0, w0 = w.alloc (.cells #[.slice pa pn pc, .slice sa sn sc] 25) := ⟨_, rfl⟩
  have hbw0 : Below w.heap.size w w0 := by rw [hw0]; exact (Below.refl _ _).alloc (Nat.le_refl _) _
  have hk0 : Blk w0 w.heap.size #[.slice pa pn pc, .slice sa sn sc] := by rw [hw0]; exact Blk.new w _ _
  have l0 : w.heap.size < w0.heap.size := hk0.lt
  have hx0 := hx.keep (w' := w0) (Nat.le_refl _) (fun b o h => bcells hbw0 b o (by omega))
  obtain ⟨sb, so, rfl, hsB, hsc⟩ := hx0.parts.get 0 (by omega)
  have hlen : Hid (∀ p, p < sn → w0.cell? ⟨sb, so + p * 3, none⟩ = some (.int .i64 (plen x p)) ∧ 1 ≤ plen x p ∧ plen x p ≤ 12) := Lib.hid (fun p hp => by
    obtain ⟨v, _, h1, _⟩ := hsc p hp
    have := hG.out.shape p (by rw [hsn.out]; exact hp)
    exact ⟨h1, this.1, this.2.1⟩)
  have hx1 := Lib.hid hx0
  clear hx hx0 hsc hN
  have q1 : w0.cell? ⟨w.heap.size, 1, none⟩ = some (.slice (some ⟨sb, so, none⟩) sn sc) := hk0.cell
  go_enter Try.func73, Try.ntmps73
  replace hw0 := hw0.symm
  go_wp2_with fail
  clear hw0 mk hwr q1
  obtain ⟨w1, hw1⟩ : ∃ w1, w1 = w0.alloc (.cells (rowI N fun _ => 0) 3) := ⟨_, rfl⟩
  obtain ⟨g, hg⟩ : ∃ g, g = w0.heap.size := ⟨_, rfl⟩
  have hb1 : Below w.heap.size w w1 := by rw [hw1]; exact hbw0.alloc (by omega) _
  have hT1 : Blk w1 g (rowI N (endT x i 1)) := by rw [hw1, hg, endT_one]; exact Blk.new w0 _ _
  have hk1 : Blk w1 w.heap.size #[.slice pa pn pc, .slice (some ⟨sb, so, none⟩) sn sc] := by rw [hw1]; exact hk0.alloc _
  have lg : w.heap.size < g := by omega
  have hs01 : SameBut (fun _ => False) w0 w1 := by rw [hw1]; exact (SameBut.refl _ _).alloc _
  rw [← hg, ← hw1]
  have hx2 := Lib.hid (hx1.out.keep (w' := w1) (Nat.le_refl _) (fun b o h => hs01.cell (by omega) (fun e => e)))
  have hlen1 : Hid (∀ p, p < sn → w1.cell? ⟨sb, so + p * 3, none⟩ = some (.int .i64 (plen x p)) ∧ 1 ≤ plen x p ∧ plen x p ≤ 12) := Lib.hid (fun p hp => ⟨(hs01.cell (by omega) (fun e => e)).trans (hlen.out p hp).1, (hlen.out p hp).2⟩)
  have lg1 : g < w1.heap.size := hT1.lt
  clear hw1 hg hs01 hbw0 hk0 l0 hx1 hlen
  go_loopw [6] (fun v wr => ∃ k : Nat, 1 ≤ k ∧ k ≤ N ∧ v = .int .i64 k ∧ Blk wr g (rowI N (endT x i k)) ∧ SameBut (fun b => b = g) w1 wr) (fun v _ => N - (intOf v).toNat)
  case atStart => exact ⟨1, by omega, hN1, rfl, hT1, SameBut.refl _ _⟩
  case round =>
    obtain ⟨k, hk1', hk2, rfl, hTk, hsk⟩ := hrel
    by_cases hlt : k < N
    case neg =>
      obtain rfl : k = N := by omega
      go_wp2_with fail
      go_ret
      exact ⟨g, rfl, by omega, hTk, hb1.trans (hsk.toBelow (by have := hb1.size; omega) (fun b h => by omega))⟩
    have hz := hsk.size
    have hkN : (k : Int) < N := by omega
    have x0 : wr.cell? ⟨g, k, none⟩ = some (.int .i64 (endT x i k k)) := hTk.cell.trans (rowI_get N _ hlt)
    have x1 : wr.cell? ⟨g, 0 + k, none⟩ = some (.int .i64 (endT x i k k)) := by rw [Nat.zero_add]; exact x0
    have x2 : wr.frozen? ⟨g, k, none⟩ = false := hTk.frozen
    have x3 : wr.frozen? ⟨g, 0 + k, none⟩ = false := hTk.frozen
    obtain ⟨f, hf⟩ : ∃ f, f = endT x i k := ⟨_, rfl⟩
    obtain ⟨w2, hw2⟩ : ∃ w2, w2 = wr.setCell ⟨g, k, none⟩ (.int .i64 99) := ⟨_, rfl⟩
    have hT2 : Blk w2 g (rowI N (updI f k (endP x i f k 0))) := by
      have := hTk.setAt (i := k) (.int .i64 99)
      rw [rowI_set N _ hlt] at this
      rw [hw2, hf]; exact this
    have hs2 : SameBut (fun b => b = g) w1 w2 := by rw [hw2]; exact hsk.setCell (M := fun b => b = g) (.inl rfl) _
    have hf' := Lib.hid hf
    have hw2' := hw2.symm
    clear hw2 hf hTk hsk
    go_wp2_with fail
    clear x0 x1 x2 x3 hw2'
    go_loopw [7] (fun v wp => ∃ p : Nat, p ≤ sn ∧ v = .int .i64 p ∧ Blk wp g (rowI N (updI f k (endP x i f k p))) ∧ SameBut (fun b => b = g) w1 wp) (fun v _ => sn - (intOf v).toNat)
    case atStart => exact ⟨0, by omega, rfl, hT2, hs2⟩
    case round =>
      rename World => wp
      obtain ⟨p, hp, rfl, hTp, hsp⟩ := hrel
      have hkp := hk1.same hsp (by omega)
      have hzp := hsp.size
      have q0 : wp.cell? ⟨w.heap.size, 0, none⟩ = some (.slice pa pn pc) := hkp.cell
      have q1 : wp.cell? ⟨w.heap.size, 1, none⟩ = some (.slice (some ⟨sb, so, none⟩) sn sc) := hkp.cell
      by_cases hlt2 : p < sn
      case neg =>
        obtain rfl : p = sn := by omega
        go_wp2_with fail
        go_roundw
        case rel => exact ⟨k + 1, by omega, by omega, by go_num, by rw [endT_succ hk1', ← hf'.out, hsn.out]; exact hTp, hsp⟩
        case measure => simp [intOf]; omega
      have hpi : (p : Int) < sn := by omega
      obtain ⟨hh, hhe⟩ : ∃ hh, hasN k p = hh := ⟨_, rfl⟩
      have hhe' := Lib.hid hhe
      clear hhe
      cases hh with
      | false =>
        have hE : Hid (endP x i f k (p + 1) = endP x i f k p) := Lib.hid (by show (if hasN k p = true then _ else _) = _; rw [if_neg (by rw [hhe'.out]; simp)])
        go_wp2_with (go_at_call 90; refine (Of_any _ (by omega) (by omega)).mono ?_; rintro e w' ⟨rfl, rfl⟩; rw [hhe'.out])
        go_roundw
        case rel => exact ⟨p + 1, by omega, by go_num, by rw [hE.out]; exact hTp, hsp⟩
        case measure => simp [intOf]; omega
      | true =>
        have hxp : Hid (p < x.parts.length) := Lib.hid (by rw [hsn.out]; exact hlt2)
        obtain ⟨Z, hZ⟩ : ∃ Z, Z = 2 ^ p := ⟨_, rfl⟩
        obtain ⟨C, hC⟩ : ∃ C, C = clrN k p := ⟨_, rfl⟩
        have hZk : Z ≤ k := by
          have := hhe'.out
          rw [has_test] at this
          rw [hZ]; exact Nat.ge_two_pow_of_testBit this
        have hCZ : C = k - Z := by
          have := hhe'.out
          unfold hasN at this
          rw [decide_eq_true_eq] at this
          rw [hC, hZ]; unfold clrN; rw [if_pos this]
        have hZ1 : 1 ≤ Z := by rw [hZ]; exact Nat.pow_pos (by decide)
        have hwz : IntKind.i64.wrap (2 ^ p) = (Z : Int) := (IntWalk.i64_left _).trans (by rw [hZ]; exact wrap_pow (by omega))
        have hwc : IntKind.i64.wrap ((k : Int) - Z) = (C : Int) := by rw [show (k : Int) - Z = (C : Int) by omega]; exact IntWalk.i64_in _ (by omega)
        have hC1 : C < k := by omega
        have hCN : (C : Int) < N := by omega
        obtain ⟨F, hF⟩ : ∃ F, F = f C := ⟨_, rfl⟩
        have hFC : Hid (f (clrN k p) = F) := Lib.hid (by rw [hF, hC])
        have hT3 := hTp.cell (i := C)
        rw [rowI_get N _ (by omega), updI_off (by omega), ← hF] at hT3
        have hT3' := Lib.hid hT3
        obtain ⟨sp, hspe⟩ : ∃ sp, sp = spotsL x i p := ⟨_, rfl⟩
        have hspe' := Lib.hid hspe
        have hspl : sp.length ≤ 16 := by
          obtain ⟨M, hM, e⟩ := spots_spU hb'.out hxi.out hxp.out
          rw [hspe, e]
          have := spU_len x i p M
          omega
        have hspi : Hid (∀ j, j < sp.length → 0 ≤ gi sp j ∧ gi sp j ≤ 16) := Lib.hid (fun j hj => by rw [hspe'.out] at hj ⊢; exact spots_in hb'.out hxi.out hxp.out hj)
        clear hF hC hCZ hT3 hZ hspe
        go_wp2_with fail
        refine (Of_any _ (by omega) (by omega)).mono ?_
        rintro e w' ⟨rfl, rfl⟩
        rw [hhe'.out]
        go_upto_region 10 with fail
        clear q0 q1
        go_cut [8, 9] (fun s t wx => s = .int .i64 F ∧ ∃ va vc, t = .slice va sp.length vc ∧ wx.ownsRow (wp.heap.size + 1) 3 1 (.slice va sp.length vc) sp.length (sp.map intV) ∧ Below wp.heap.size wp wx)
        case first =>
          have hO := open_wide
          have hF := hO.fn
          have hd := hO.depth
          have hS0 : SameBut (fun _ => False) wp wp.drew := (SameBut.refl _ _).drew
          have hread : ∀ w', SameBut (fun _ => False) wp w' → w'.cell? ⟨w.heap.size, 0, none⟩ = some (.slice pa pn pc) ∧ w'.cell? ⟨w.heap.size, 1, none⟩ = some (.slice (some ⟨sb, so, none⟩) sn sc) ∧ w'.cell? ⟨g, C, none⟩ = some (.int .i64 F) ∧ w'.cell? ⟨g, 0 + C, none⟩ = some (.int .i64 F) := fun w' h =>
            ⟨(hkp.same h (fun e => e)).cell, (hkp.same h (fun e => e)).cell, (h.cell (by omega) (fun e => e)).trans hT3'.out, by rw [Nat.zero_add]; exact (h.cell (by omega) (fun e => e)).trans hT3'.out⟩
          refine region_planW (fun w' => SameBut (fun _ => False) wp w') [(0, true), (1, true), (2, true), (3, true), (4, true), (5, true), (6, true), (7, true), (8, true), (9, true), (10, false), (11, true), (12, true)] (by kernel_rfl) (by kernel_rfl) (by kernel_rfl) (by decide) (by kernel_rfl) ?_
          iterate 10
            (refine plan_take ?_ rfl hS0 (by rfl) ?_ ?_
             rotate_left
             · intro w' hw'
               obtain ⟨q1, q2, q3, q4⟩ := hread w' hw'
               go_simp
               with_reducible rfl
             simp only [Act.put, List.setIfInBounds_toArray, List.set_cons_zero, List.set_cons_succ])
          refine plan_one rfl (by rfl) (fun K hK => ?_)
          go_simp
          refine (hO.calls (refspots_own (B := B) (w := wp.drew) (by show B ≤ wp.heap.size; omega) (hx2.out.keep (Nat.le_refl _) (fun b o h => hsp.cell (by omega) (by omega))) hb'.out hi hlt2)).mono ?_
          rintro e w5 ⟨v, rfl, hown, hb5⟩
          rw [← hspe'.out] at hown
          obtain ⟨va, vc, rfl, _⟩ := own_get hown (by omega)
          have hS5 : SameBut (fun _ => False) wp w5 := hS0.below hb5
          refine hK _ _ hS5 ?_
          clear hK K hb5
          iterate 2
            (refine plan_take ?_ rfl hS5 (by rfl) ?_ ?_
             rotate_left
             · intro w' hw'
               go_simp
               with_reducible rfl
             simp only [Act.put, List.setIfInBounds_toArray, List.set_cons_zero, List.set_cons_succ])
          unfold planW okN
          go_wp2_with fail
          go_meet
          exact ⟨rfl, va, vc, rfl, hown, hS5.toBelow (Nat.le_refl _) (fun _ h => h.elim)⟩
        case rest =>
        obtain ⟨rfl, va, vc, rfl, hown, hb3⟩ := hcut
        obtain ⟨w3, hw3⟩ : ∃ w3, w3 = wc := ⟨_, rfl⟩
        rw [← hw3] at hown hb3 ⊢
        clear hw3
        clear hwz hwc hZk hZ1
        have hs3 : SameBut (fun b => b = g) w1 w3 := hsp.trans (SameBut.of_below hb3 (Nat.le_refl _))
        have hz3 := hb3.size
        obtain ⟨V, hV⟩ : ∃ V, V = endP x i f k p := ⟨_, rfl⟩
        have hT4 : Blk w3 g (rowI N (updI f k V)) := by rw [hV]; exact hTp.below hb3 (by omega)
        have hV' : Hid (0 ≤ V ∧ V ≤ 99) := Lib.hid (by rw [hV]; exact endP_in hb'.out hxi.out p (by have := hxp.out; omega))
        obtain ⟨P, hP⟩ : ∃ P, P = plen x p := ⟨_, rfl⟩
        obtain ⟨hP0, hP1, hP2⟩ := hlen1.out p hlt2
        rw [← hP] at hP0 hP1 hP2
        have hstep : Hid (endP x i f k (p + 1) = endI F P sp V sp.length) := Lib.hid (by
          show (if hasN k p = true then _ else _) = _
          rw [if_pos hhe'.out, hFC.out, ← hspe'.out, ← hP, ← hV])
        have hIn : Hid (∀ j, j ≤ sp.length → 0 ≤ endI F P sp V j ∧ endI F P sp V j ≤ 99) := Lib.hid (endI_in hV'.out (by omega) (fun j hj => (hspi.out j hj).1))
        have hown' := Lib.hid hown
        have hkp3 := hkp.below hb3 (by omega)
        clear hV hP hown hb3 hTp hsp hkp hT3'
        go_wp2_with fail
        go_loopw [10] (fun v wj => ∃ j : Nat, j ≤ sp.length ∧ v = .int .i64 j ∧ Blk wj g (rowI N (updI f k (endI F P sp V j))) ∧ SameBut (fun b => b = g) w3 wj) (fun v _ => sp.length - (intOf v).toNat)
        case atStart => exact ⟨0, by omega, rfl, hT4, SameBut.refl _ _⟩
        case round =>
          rename World => wj
          obtain ⟨j, hj, rfl, hTj, hsj⟩ := hrel
          have hzj := hsj.size
          by_cases hlt3 : j < sp.length
          case neg =>
            obtain rfl : j = sp.length := by omega
            go_wp2_with fail
            go_roundw
            case rel => exact ⟨p + 1, by omega, by go_num, by rw [hstep.out]; exact hTj, hs3.trans hsj⟩
            case measure => simp [intOf]; omega
          have hji : (j : Int) < sp.length := by omega
          have hownj := own_same hown'.out hsj (fun ga hga e => by have := (hown'.out.lt ga hga).1; omega)
          obtain ⟨_, _, e, hget⟩ := own_get hownj (by omega)
          cases e
          obtain ⟨ga, rfl, hga1, hga2, hgc⟩ := hget j hlt3
          have c0 := hgc j (intV (gi sp j)) (by rw [List.getElem?_map, List.getElem?_eq_getElem hlt3, gi_eq hlt3]; rfl)
          obtain ⟨X, hX⟩ : ∃ X, X = gi sp j := ⟨_, rfl⟩
          have hXi := hspi.out j hlt3
          rw [← hX] at c0 hXi
          obtain ⟨hX0, hX1⟩ := hXi
          have c1 : wj.cell? ⟨ga, j, none⟩ = some (.int .i64 X) := c0
          have c2 : wj.cell? ⟨ga, 0 + j, none⟩ = some (.int .i64 X) := by rw [Nat.zero_add]; exact c0
          have hgne : ga ≠ g := by omega
          clear c0 hgc hget hownj
          by_cases hge : F ≤ X
          case neg =>
            have hE : Hid (endI F P sp V (j + 1) = endI F P sp V j) := Lib.hid (by show (if F ≤ gi sp j then _ else _) = _; rw [← hX, if_neg hge])
            clear hX
            go_wp2_with fail
            go_roundw
            case rel => exact ⟨j + 1, by omega, by go_num, by rw [hE.out]; exact hTj, hsj⟩
            case measure => simp [intOf]; omega
          have hE : Hid (endI F P sp V (j + 1) = min (endI F P sp V j) (X + P)) := Lib.hid (by show (if F ≤ gi sp j then min _ (gi sp j + P) else _) = _; rw [← hX, if_pos hge])
          have hEj := hIn.out j hj
          obtain ⟨U, hU⟩ : ∃ U, U = endI F P sp V j := ⟨_, rfl⟩
          rw [← hU] at hE hTj hEj
          clear hX hU
          have hw3 : IntKind.i64.wrap (X + P) = X + P := IntWalk.i64_in _ (by omega)
          go_upto_region 15 with fail
          have hO := open_wide
          have hF := hO.fn
          have hd := hO.depth
          have hkj := hkp3.same hsj (by omega)
          have hS0 : SameBut (fun _ => False) wj wj.drew := (SameBut.refl _ _).drew
          have hTU := hTj.cell (i := k)
          rw [rowI_get N _ hlt, updI_at] at hTU
          have hlenj := (hsj.cell (b := sb) (o := so + p * 3) (by omega) (by omega)).trans ((hs3.cell (b := sb) (o := so + p * 3) (by omega) (by omega)).trans hP0)
          have hread : ∀ w', SameBut (fun _ => False) wj w' → w'.cell? ⟨w.heap.size, 1, none⟩ = some (.slice (some ⟨sb, so, none⟩) sn sc) ∧ w'.cell? ⟨g, k, none⟩ = some (.int .i64 U) ∧ w'.cell? ⟨g, 0 + k, none⟩ = some (.int .i64 U) ∧ w'.cell? ⟨ga, j, none⟩ = some (.int .i64 X) ∧ w'.cell? ⟨ga, 0 + j, none⟩ = some (.int .i64 X) ∧ w'.cell? ⟨sb, so + p * 3, none⟩ = some (.int .i64 P) := fun w' h =>
            ⟨(hkj.same h (fun e => e)).cell, (h.cell (by omega) (fun e => e)).trans hTU, by rw [Nat.zero_add]; exact (h.cell (by omega) (fun e => e)).trans hTU, (h.cell (by omega) (fun e => e)).trans c1, (h.cell (by omega) (fun e => e)).trans c2, (h.cell (by omega) (fun e => e)).trans hlenj⟩
          clear c1 c2
          refine region_planW (fun w' => SameBut (fun _ => False) wj w') [(0, true), (1, true), (2, true), (3, true), (4, true), (5, true), (6, true), (7, true), (8, true), (9, true), (10, true), (11, true), (12, true), (13, true), (14, true), (15, true), (16, true), (17, true), (18, true), (19, false)] (by kernel_rfl) (by kernel_rfl) (by kernel_rfl) (by decide) (by kernel_rfl) ?_
          iterate 19
            (refine plan_take ?_ rfl hS0 (by rfl) ?_ ?_
             rotate_left
             · intro w' hw'
               obtain ⟨q1, q2, q3, q4, q5, q6⟩ := hread w' hw'
               go_simp
               with_reducible rfl
             simp only [Act.put, List.setIfInBounds_toArray, List.set_cons_zero, List.set_cons_succ])
          have hTd := hTj.drew
          have y0 : wj.drew.cell? ⟨g, k, none⟩ = some (.int .i64 U) := (hread _ hS0).2.1
          have y1 : wj.drew.cell? ⟨g, 0 + k, none⟩ = some (.int .i64 U) := (hread _ hS0).2.2.1
          have y2 : wj.drew.frozen? ⟨g, k, none⟩ = false := hTd.frozen
          have y3 : wj.drew.frozen? ⟨g, 0 + k, none⟩ = false := hTd.frozen
          refine plan_last (by kernel_rfl) rfl (by rfl) (fun K hK => ?_)
          go_simp
          refine hK _ _ ?_
          clear hK K
          unfold planW okN
          go_wp2_with fail
          go_roundw
          case rel =>
            have hmin : (if X + P < U then X + P else U) = endI F P sp V (j + 1) := by
              rw [hE.out, Int.min_def]
              split <;> split <;> omega
            rw [hmin]
            have hTn := hTj.setAt (i := k) (.int .i64 (endI F P sp V (j + 1)))
            rw [rowI_set N _ hlt, updI_updI] at hTn
            exact ⟨j + 1, by omega, by go_num, hTn.drew, (hsj.setCell (M := fun b => b = g) (.inl rfl) _).drew⟩
          case measure => simp [intOf]; omega
end Go.Proofs.Ytbbolibkheelmaa
