/- Walks: the specification's Lay. Plain mathematics: how many parts can be cut at the worst; which knot should be looked for. Walks: how many parts can be cut, at the worst, once the inch of a knot is known (the law's own). Plain mathematics: there is but one best list; the specification's loops find it. -/
import Derived.Test.YtbbolibkheelmaaPls13
import Derived.Test.YtbbolibkheelmaaPls14
import Derived.Test.YtbbolibkheelmaaPls07
import Derived.Test.YtbbolibkheelmaaPls05
import Derived.Test.YtbbolibkheelmaaGa14
import Derived.Test.YtbbolibkheelmaaPls12
import Derived.Test.YtbbolibkheelmaaPls01
import Derived.Test.YtbbolibkheelmaaPls11
namespace Go.Proofs.Ytbbolibkheelmaa
open Go.RowKit Go.Shelf

/-- Is this a plank, and are these parts of the book, increasing? -/
def okLay (x : Book) (i : Int) (parts : List Int) : Bool := numB x.planks.length i && growsB parts x.parts.length
theorem grows_num {xs : List Int} {n : Nat} (h : growsB xs n = true) : (∀ k, k < xs.length → 0 ≤ gi xs k ∧ gi xs k < n) ∧ incB xs = true := by
  rw [growsB_eq, Bool.and_eq_true, allB_iff] at h
  refine ⟨fun k hk => ?_, h.2⟩
  have := h.1 k hk
  unfold withinB at this
  simp only [Bool.and_eq_true, decide_eq_true_eq] at this
  omega
theorem parts_grows {x : Book} (hb : bookOk x = true) {parts : List Int} (h : growsB parts x.parts.length = true) : Parts x parts := by
  obtain ⟨h1, h2⟩ := grows_num h
  exact ⟨h1, inc_pair h2, by have := inc_bound h2 h1; have := (good_of hb).parts; omega⟩
theorem lay_ask {x : Book} {i : Int} {parts : List Int} (h : askedE x (okLay x i parts) ≠ 0) : layR x i parts = ([], askedE x (okLay x i parts)) := by
  rcases Bool.eq_false_or_eq_true (bookOk x) with hb | hb
  · have hk : okLay x i parts = false := by
      rw [← Bool.not_eq_true]
      intro e
      unfold askedE at h
      rw [if_pos hb, if_pos e] at h
      exact h rfl
    have hE : askedE x (okLay x i parts) = 11 := by unfold askedE; rw [if_pos hb, if_neg (by rw [hk]; simp)]
    rw [hE]
    unfold layR
    rw [askE_good hb]
    cases hn : (numB x.planks.length i && allB parts.length fun k => numB x.parts.length (gi parts k)) with
    | true =>
      rw [if_pos rfl, if_pos rfl]
      rw [Bool.and_eq_true] at hn
      rw [if_neg]
      intro hinc
      unfold okLay at hk
      rw [hn.1, Bool.true_and, growsB_eq, hinc, Bool.and_true, ← Bool.not_eq_true, allB_iff] at hk
      refine hk fun k hk' => ?_
      have := (allB_iff.1 hn.2) k hk'
      rw [num_within]
      exact this
    | false => rw [if_neg (by simp), if_neg (by simp)]
  · have hE : askedE x (okLay x i parts) = errOf false := by unfold askedE; rw [if_neg (by rw [hb]; simp)]
    rw [hE]
    unfold layR
    rw [askE_bad hb]
    rfl
theorem lay_ok {x : Book} {i : Int} {parts : List Int} (h : askedE x (okLay x i parts) = 0) : bookOk x = true ∧ ∃ i' : Nat, i = i' ∧ i' < x.planks.length ∧ growsB parts x.parts.length = true := by
  unfold askedE at h
  rcases Bool.eq_false_or_eq_true (bookOk x) with hb | hb
  · rw [if_pos hb] at h
    have hk : okLay x i parts = true := by
      by_cases e : okLay x i parts = true
      · exact e
      · rw [if_neg e] at h; cases h
    unfold okLay numB at hk
    rw [Bool.and_eq_true, decide_eq_true_eq] at hk
    exact ⟨hb, i.toNat, by omega, by omega, hk.2⟩
  · rw [if_neg (by rw [hb]; simp)] at h; cases h
/-- A list of parts as a set. -/
theorem setU_all {x : Book} {parts : List Int} (hP : Parts x parts) : setU parts parts.length < 2 ^ x.parts.length ∧ ∀ p, hasN (setU parts parts.length) p = true ↔ (p : Int) ∈ parts := by
  refine ⟨lt_of_has fun p hp => ?_, fun p => ?_⟩
  · obtain ⟨j, hj, e⟩ := (setU_has parts p parts.length).1 hp
    have := hP.num j hj
    omega
  · rw [setU_has]
    constructor
    · rintro ⟨j, hj, e⟩
      have := hP.num j hj
      rw [show (p : Int) = gi parts j by omega, gi_eq hj]
      exact List.getElem_mem hj
    · intro h
      obtain ⟨j, hj, e⟩ := List.mem_iff_getElem.1 h
      exact ⟨j, hj, by rw [gi_eq hj, e]; rfl⟩
theorem lay_end {x : Book} {i : Nat} {parts : List Int} (hb : bookOk x = true) (hi : i < x.planks.length) (hg : growsB parts x.parts.length = true) :
    (endT x i (2 ^ x.parts.length) (setU parts parts.length) = 99 ∧ layR x i parts = ([], 4)) ∨ (endT x i (2 ^ x.parts.length) (setU parts parts.length) ≠ 99 ∧ ∃ l, laidF x i parts parts.length [] = some l ∧ layR x i parts = (l, 0)) := by
  have hP := parts_grows hb hg
  obtain ⟨h1, h2⟩ := setU_all hP
  have hone : canLay x i (setU parts parts.length) = true ↔ (laidF x i parts parts.length []).isSome = true := by
    rw [canLay_one hb hi h1, laidF_all hb hi hP, lay_one hb hi hP]
    exact OneP.congr h2
  have hlay := lay_parts hb hi hP
  rw [← laidF_all hb hi hP] at hlay
  rcases end_99 hb hi h1 with ⟨e1, e2⟩ | ⟨e1, e2⟩
  · refine .inl ⟨e1, ?_⟩
    rw [hlay]
    cases hl : laidF x i parts parts.length [] with
    | none => rfl
    | some l =>
      rw [hl] at hone
      have := hone.2 rfl
      rw [this] at e2; cases e2
  · refine .inr ⟨e1, ?_⟩
    obtain ⟨l, hl⟩ := Option.isSome_iff_exists.1 (hone.1 e2)
    exact ⟨l, hl, by rw [hlay, hl]; rfl⟩

set_option maxRecDepth 100000 in
set_option maxHeartbeats 4000000 in
theorem refLay_any {B : Nat} {pa sa la : Option Addr} {pn pc sn sc ln lc : Nat} {x : Book} {i : Int} {parts : List Int} {w : World} (hB : B ≤ w.heap.size) (hx : BookAt B w pa pn sa sn x) (hl : IntsAt B w la ln parts) :
    Calls Try.prog 25 #[.agg #[.slice pa pn pc, .slice sa sn sc], .int .i64 i, .slice la ln lc] w fun e w' =>
      ∃ v, e = .returned (.tuple #[v, .int .i64 (layR x i parts).2]) ∧ IntsV w'.heap.size w' v (layR x i parts).1 ∧ Below w.heap.size w w' := by
  have hpn := Lib.hid hx.planks.len
  have hsn := Lib.hid hx.parts.len
  have hln := Lib.hid hl.len
  have hps := hx.planks.small
  have hss := hx.parts.small
  obtain ⟨w0, hw0⟩ : ∃ w0, w0 = w.alloc (.cells #[.slice pa pn pc, .slice sa sn sc] 25) := ⟨_, rfl⟩
  have hbw0 : Below w.heap.size w w0 := by rw [hw0]; exact (Below.refl _ _).alloc (Nat.le_refl _) _
  have hk : Blk w0 w.heap.size #[.slice pa pn pc, .slice sa sn sc] := by rw [hw0]; exact Blk.new w _ _
  have l0 : w.heap.size < w0.heap.size := hk.lt
  have hx0 := Lib.hid (hx.keep (w' := w0) (Nat.le_refl _) (fun b o h => bcells hbw0 b o (by omega)))
  have hl0 := Lib.hid (hl.keep (w' := w0) (Nat.le_refl _) (fun b o h => bcells hbw0 b o (by omega)))
  have hBw : B ≤ w0.heap.size := by omega
  clear hx hl
  obtain ⟨b1, hb1⟩ : ∃ b1, numB pn i = b1 := ⟨_, rfl⟩
  obtain ⟨b2, hb2⟩ : ∃ b2, growsB parts sn = b2 := ⟨_, rfl⟩
  obtain ⟨E, hE⟩ : ∃ E, E = askedE x (okLay x i parts) := ⟨_, rfl⟩
  have hE2 : Hid (E = askedE x (b1 && b2)) := Lib.hid (by rw [hE]; unfold okLay; rw [hpn.out, hsn.out, hb1, hb2])
  have hb1' := Lib.hid hb1
  have hb2' := Lib.hid hb2
  have hE' := Lib.hid hE
  obtain ⟨R, hR⟩ : ∃ R, R = layR x i parts := ⟨_, rfl⟩
  rw [← hR]
  have hR' := Lib.hid hR
  clear hb1 hb2 hE hR
  go_enter Try.func25, Try.ntmps25
  replace hw0 := hw0.symm
  go_upto_region 1 with fail
  clear hw0
  go_cut [8] (fun s wx => s = .int .i64 E ∧ Below w0.heap.size w0 wx)
  case first =>
    have hO := open_wide
    have hF := hO.fn
    have hd := hO.depth
    have hS0 : SameBut (fun _ => False) w0 w0.drew := (SameBut.refl _ _).drew
    have hread : ∀ w', SameBut (fun _ => False) w0 w' → w'.cell? ⟨w.heap.size, 0, none⟩ = some (.slice pa pn pc) ∧ w'.cell? ⟨w.heap.size, 1, none⟩ = some (.slice sa sn sc) := fun w' h =>
      ⟨(hk.same h (fun e => e)).cell, (hk.same h (fun e => e)).cell⟩
    cases b1 with
    | false =>
      refine region_planW (fun w' => SameBut (fun _ => False) w0 w') [(0, true), (1, true), (2, true), (3, false), (4, true), (5, true), (6, true), (7, true), (8, true), (9, true), (10, true), (11, false), (12, true)] (by kernel_rfl) (by kernel_rfl) (by kernel_rfl) (by decide) (by kernel_rfl) ?_
      iterate 3
        (refine plan_take ?_ rfl hS0 (by rfl) ?_ ?_
         rotate_left
         · intro w' hw'
           obtain ⟨q1, q2⟩ := hread w' hw'
           go_simp
           with_reducible rfl
         simp only [Act.put, List.setIfInBounds_toArray, List.set_cons_zero, List.set_cons_succ])
      refine plan_one rfl (by rfl) (fun K hK => ?_)
      go_simp
      refine (hO.calls (isPlank_any hps)).mono ?_
      rintro e w5 ⟨rfl, hb5⟩
      rw [hb1'.out]
      have hS5 : SameBut (fun _ => False) w0 w5 := hS0.below hb5
      refine hK _ _ hS5 ?_
      clear hK K hb5
      iterate 1
        (refine plan_take ?_ rfl hS5 (by rfl) ?_ ?_
         rotate_left
         · intro w' hw'
           go_simp
           with_reducible rfl
         simp only [Act.put, List.setIfInBounds_toArray, List.set_cons_zero, List.set_cons_succ])
      iterate 5
        (refine plan_skip rfl hS5 (by rfl) ?_
         simp only [Act.put, List.setIfInBounds_toArray, List.set_cons_zero, List.set_cons_succ])
      iterate 1
        (refine plan_take ?_ rfl hS5 (by rfl) ?_ ?_
         rotate_left
         · intro w' hw'
           go_simp
           with_reducible rfl
         simp only [Act.put, List.setIfInBounds_toArray, List.set_cons_zero, List.set_cons_succ])
      refine plan_one rfl (by rfl) (fun K hK => ?_)
      go_simp
      refine (hO.calls (asked_any (B := B) (ok := false) (by have := hS5.size; omega) (hx0.out.keep (Nat.le_refl _) (fun b o h => hS5.cell (by omega) (fun e => e))))).mono ?_
      rintro e w6 ⟨rfl, hb6⟩
      have hS6 : SameBut (fun _ => False) w0 w6 := hS5.below hb6
      refine hK _ _ hS6 ?_
      clear hK K hb6
      iterate 1
        (refine plan_take ?_ rfl hS6 (by rfl) ?_ ?_
         rotate_left
         · intro w' hw'
           go_simp
           with_reducible rfl
         simp only [Act.put, List.setIfInBounds_toArray, List.set_cons_zero, List.set_cons_succ])
      unfold planW okN
      go_wp2_with fail
      go_meet
      exact ⟨by rw [hE2.out]; rfl, hS6.toBelow (Nat.le_refl _) (fun _ h => h.elim)⟩
    | true =>
      refine region_planW (fun w' => SameBut (fun _ => False) w0 w') [(0, true), (1, true), (2, true), (3, false), (4, true), (5, true), (6, true), (7, true), (8, true), (9, false), (10, true), (11, false), (12, true)] (by kernel_rfl) (by kernel_rfl) (by kernel_rfl) (by decide) (by kernel_rfl) ?_
      iterate 3
        (refine plan_take ?_ rfl hS0 (by rfl) ?_ ?_
         rotate_left
         · intro w' hw'
           obtain ⟨q1, q2⟩ := hread w' hw'
           go_simp
           with_reducible rfl
         simp only [Act.put, List.setIfInBounds_toArray, List.set_cons_zero, List.set_cons_succ])
      refine plan_one rfl (by rfl) (fun K hK => ?_)
      go_simp
      refine (hO.calls (isPlank_any hps)).mono ?_
      rintro e w5 ⟨rfl, hb5⟩
      rw [hb1'.out]
      have hS5 : SameBut (fun _ => False) w0 w5 := hS0.below hb5
      refine hK _ _ hS5 ?_
      clear hK K hb5
      iterate 5
        (refine plan_take ?_ rfl hS5 (by rfl) ?_ ?_
         rotate_left
         · intro w' hw'
           obtain ⟨q1, q2⟩ := hread w' hw'
           go_simp
           with_reducible rfl
         simp only [Act.put, List.setIfInBounds_toArray, List.set_cons_zero, List.set_cons_succ])
      refine plan_one rfl (by rfl) (fun K hK => ?_)
      go_simp
      refine (hO.calls (Grows_any (m := (sn : Int)) (hl0.out.keep (w' := w5) (Nat.le_refl _) (fun b o h => hS5.cell (by omega) (fun e => e))))).mono ?_
      rintro e w6 ⟨rfl, hq6⟩
      rw [hb2'.out]
      have hS6 : SameBut (fun _ => False) w0 w6 := hS5.below (hq6.below _)
      refine hK _ _ hS6 ?_
      clear hK K hq6
      iterate 1
        (refine plan_take ?_ rfl hS6 (by rfl) ?_ ?_
         rotate_left
         · intro w' hw'
           go_simp
           with_reducible rfl
         simp only [Act.put, List.setIfInBounds_toArray, List.set_cons_zero, List.set_cons_succ])
      refine plan_one rfl (by rfl) (fun K hK => ?_)
      go_simp
      refine (hO.calls (asked_any (B := B) (ok := b2) (by have := hS6.size; omega) (hx0.out.keep (Nat.le_refl _) (fun b o h => hS6.cell (by omega) (fun e => e))))).mono ?_
      rintro e w7 ⟨rfl, hb7⟩
      have hS7 : SameBut (fun _ => False) w0 w7 := hS6.below hb7
      refine hK _ _ hS7 ?_
      clear hK K hb7
      iterate 1
        (refine plan_take ?_ rfl hS7 (by rfl) ?_ ?_
         rotate_left
         · intro w' hw'
           go_simp
           with_reducible rfl
         simp only [Act.put, List.setIfInBounds_toArray, List.set_cons_zero, List.set_cons_succ])
      unfold planW okN
      go_wp2_with fail
      go_meet
      exact ⟨by rw [hE2.out]; rfl, hS7.toBelow (Nat.le_refl _) (fun _ h => h.elim)⟩
  case rest =>
  obtain ⟨rfl, hb1⟩ := hcut
  obtain ⟨w1, hw1⟩ : ∃ w1, w1 = wc := ⟨_, rfl⟩
  rw [← hw1] at hb1 ⊢
  clear hw1
  clear hb1' hb2' hE2
  have hbw1 : Below w.heap.size w w1 := hbw0.trans (hb1.mono hbw0.size)
  replace hk := hk.below hb1 hk.lt
  replace hx0 := Lib.hid (hx0.out.keep (w' := w1) (Nat.le_refl _) (fun b o h => bcells hb1 b o (by omega)))
  replace hl0 := Lib.hid (hl0.out.keep (w' := w1) (Nat.le_refl _) (fun b o h => bcells hb1 b o (by omega)))
  replace hBw : B ≤ w1.heap.size := Nat.le_trans hBw hb1.size
  clear hb1 hbw0 l0
  have q0 : w1.cell? ⟨w.heap.size, 0, none⟩ = some (.slice pa pn pc) := hk.cell
  have q1 : w1.cell? ⟨w.heap.size, 1, none⟩ = some (.slice sa sn sc) := hk.cell
  by_cases h0 : E = 0
  case neg =>
    have hee : (E != 0) = true := by simp [h0]
    have hL := Lib.hid (lay_ask (x := x) (i := i) (parts := parts) (by rw [← hE'.out]; exact h0))
    clear h0
    go_wp2_with fail
    go_ret2
    exact ⟨_, by rw [hR'.out, hL.out, ← hE'.out]; rfl, ⟨none, 0, 0, rfl, by rw [hR'.out, hL.out]; exact ⟨rfl, by omega, fun i hi => by omega⟩⟩, hbw1⟩
  have hee : (E != 0) = false := by simp [h0]
  obtain ⟨hb, i', rfl, hi, hg⟩ := lay_ok (hE'.out.symm.trans h0)
  have hend := lay_end hb hi hg
  have hP := parts_grows hb hg
  obtain ⟨hset1, _⟩ := setU_all hP
  have hip : i' < pn := by rw [← hpn.out]; exact hi
  have hin : ∀ k, k < ln → 0 ≤ gi parts k ∧ gi parts k < 5 := fun k hk => by
    have h1 := hP.num k (by rw [hln.out]; exact hk)
    have h2 := (good_of hb).parts
    omega
  have hin' := Lib.hid hin
  have hb' := Lib.hid hb
  have hP' := Lib.hid hP
  have hNs : 2 ^ x.parts.length ≤ 32 := pow_le32 (good_of hb).parts.2
  obtain ⟨N, hN⟩ : ∃ N, N = 2 ^ x.parts.length := ⟨_, rfl⟩
  have hN' := Lib.hid hN
  rw [← hN] at hend hset1 hNs
  obtain ⟨U, hU⟩ : ∃ U, U = setU parts ln := ⟨_, rfl⟩
  rw [hln.out, ← hU] at hend hset1
  have hU' := Lib.hid hU
  have hUN : (U : Int) < N := by omega
  obtain ⟨V, hV⟩ : ∃ V, V = endT x i' N U := ⟨_, rfl⟩
  rw [← hV] at hend
  have hV' := Lib.hid hV
  have hend' := Lib.hid hend
  clear hN hU hV hend h0 hb hP hin hg hi hE'
  go_wp2_with fail
  refine (ends_any (B := B) hBw hx0.out hb'.out hip).mono ?_
  rintro e w2 ⟨g, rfl, hg1, hg2, hb2⟩
  rw [← hN'.out] at hg2 ⊢
  clear q0 q1
  have hbw2 : Below w.heap.size w w2 := hbw1.trans (hb2.mono hbw1.size)
  replace hk := hk.below hb2 hk.lt
  replace hx0 := Lib.hid (hx0.out.keep (w' := w2) (Nat.le_refl _) (fun b o h => bcells hb2 b o (by omega)))
  replace hl0 := Lib.hid (hl0.out.keep (w' := w2) (Nat.le_refl _) (fun b o h => bcells hb2 b o (by omega)))
  replace hBw : B ≤ w2.heap.size := Nat.le_trans hBw hb2.size
  clear hb2 hbw1
  go_wp2_with fail
  refine (Set_any hl0.out hin'.out).mono ?_
  rintro e w3 ⟨rfl, hq3⟩
  rw [← hU'.out]
  have hb3 := hq3.below w2.heap.size
  have hg3 := hg2.below hb3 hg2.lt
  have hbw3 : Below w.heap.size w w3 := hbw2.trans (hb3.mono hbw2.size)
  replace hk := hk.below hb3 hk.lt
  replace hx0 := Lib.hid (hx0.out.keep (w' := w3) (Nat.le_refl _) (fun b o h => bcells hb3 b o (by omega)))
  replace hl0 := Lib.hid (hl0.out.keep (w' := w3) (Nat.le_refl _) (fun b o h => bcells hb3 b o (by omega)))
  replace hBw : B ≤ w3.heap.size := Nat.le_trans hBw hb3.size
  clear hb3 hbw2 hq3 hg2
  have x0 := hg3.cell (i := U)
  rw [rowI_get N _ hset1, ← hV'.out] at x0
  have x1 : w3.cell? ⟨g, 0 + U, none⟩ = some (.int .i64 V) := by rw [Nat.zero_add]; exact x0
  have q0 : w3.cell? ⟨w.heap.size, 0, none⟩ = some (.slice pa pn pc) := hk.cell
  have q1 : w3.cell? ⟨w.heap.size, 1, none⟩ = some (.slice sa sn sc) := hk.cell
  by_cases hV99 : V = 99
  · have hv : (V == 99) = true := by simp [hV99]
    have hRe : Hid (R = ([], 4)) := Lib.hid (by
      rcases hend'.out with ⟨_, h⟩ | ⟨h, _⟩
      · rw [hR'.out]; exact h
      · exact absurd hV99 h)
    clear hV99
    go_wp2_with fail
    go_ret2
    exact ⟨_, by rw [hRe.out]; rfl, ⟨none, 0, 0, rfl, by rw [hRe.out]; exact ⟨rfl, by omega, fun i hi => by omega⟩⟩, hbw3⟩
  · have hv : (V == 99) = false := by simp [hV99]
    have hRe : Hid (∃ l, laidF x i' parts parts.length [] = some l ∧ R = (l, 0)) := Lib.hid (by
      rcases hend'.out with ⟨h, _⟩ | ⟨_, l, h1, h2⟩
      · exact absurd h hV99
      · exact ⟨l, by rw [hln.out]; exact h1, by rw [hR'.out]; exact h2⟩)
    clear hV99
    obtain ⟨w4, hw4⟩ : ∃ w4, w4 = w3.alloc (.cells #[] 3) := ⟨_, rfl⟩
    have hb4 : Below w3.heap.size w3 w4 := by rw [hw4]; exact (Below.refl _ _).alloc (Nat.le_refl _) _
    have hbw4 : Below w.heap.size w w4 := hbw3.trans (hb4.mono hbw3.size)
    have hx4 := Lib.hid (hx0.out.keep (w' := w4) (Nat.le_refl _) (fun b o h => bcells hb4 b o (by omega)))
    have hl4 := Lib.hid (hl0.out.keep (w' := w4) (Nat.le_refl _) (fun b o h => bcells hb4 b o (by omega)))
    have hBw4 : B ≤ w4.heap.size := Nat.le_trans hBw hb4.size
    replace hw4 := hw4.symm
    go_wp2_with fail
    clear hw4
    refine (reflaid_any (B := B) (sc := sc) (pc := pc) (lc := lc) hb'.out hip hP'.out parts.length [] w3.heap.size 0 0 B w4 hBw4 hBw4 hx4.out hl4.out ⟨rfl, by simp, fun i hi => absurd hi (by simp)⟩ (by simp) (fun k hk => absurd hk (by simp))).mono ?_
    rintro e w5 ⟨v, rfl, hv5, hb5⟩
    obtain ⟨l, hl5, hR5⟩ := hRe.out
    rw [hl5] at hv5 ⊢
    have hR5' := Lib.hid hR5
    have hbw5 := hbw4.trans (hb5.mono hbw4.size)
    clear hl5 hR5 x0 x1 q0 q1 hb5
    go_wp2_with fail
    go_ret2
    exact ⟨v, by rw [hR5'.out]; rfl, by rw [hR5'.out]; exact hv5, hbw5⟩
end Go.Proofs.Ytbbolibkheelmaa
namespace Go.Proofs.Ytbbolibkheelmaa
open Go.RowKit Go.Shelf

theorem ones_all : (List.range 32).all (fun (s : Nat) => decide ((memL s).length = onesN s)) = true := by kernel_rfl
theorem ones_len {s : Nat} (hs : s < 32) : (memL s).length = onesN s := by
  have := List.all_eq_true.1 ones_all s (List.mem_range.2 hs)
  simpa using this
theorem maxU_le {a M : Int} {xs : List Int} (ha : a ≤ M) : ∀ n, (∀ j, j < n → gi xs j ≤ M) → maxU a xs n ≤ M
  | 0, _ => ha
  | n + 1, h => by
    have h1 := maxU_le ha n (fun j hj => h j (by omega))
    have h2 := h n (by omega)
    show max (maxU a xs n) (gi xs n) ≤ M
    omega
theorem maxU_ge {a : Int} {xs : List Int} : ∀ n j, j < n → gi xs j ≤ maxU a xs n
  | 0, _, h => by omega
  | n + 1, j, h => by
    show gi xs j ≤ max (maxU a xs n) (gi xs n)
    by_cases e : j = n
    · subst e; omega
    · have := maxU_ge (a := a) (xs := xs) n j (by omega); omega
theorem mostN_is {m : Nat → Bool} {s : Nat} (hs : s < 32) (h : BestOf moreB m 32 s) : mostN m = (memL s).length := by
  have hle : ∀ j, j < 32 → m j = true → (onesN j : Int) ≤ onesN s := by
    intro j hj hm
    have := h.2.2 j hj hm
    rw [more_is, Bool.or_eq_false_iff, decide_eq_false_iff_not, ones_len hj, ones_len hs] at this
    omega
  rw [ones_len hs]
  unfold mostN
  have h1 : maxU 0 (sizesU m 32) (sizesU m 32).length ≤ onesN s := maxU_le (by omega) _ (fun j hj => by
    have hm : gi (sizesU m 32) j ∈ sizesU m 32 := by rw [gi_eq hj]; exact List.getElem_mem hj
    have hm2 := hm
    unfold sizesU at hm2
    rw [List.mem_map] at hm2
    obtain ⟨q, hq, e⟩ := hm2
    rw [List.mem_filter, List.mem_range] at hq
    have := hle q hq.1 hq.2
    rw [show gi (sizesU m 32) j = ((onesN q : Nat) : Int) from e.symm]
    exact this)
  have h2 : ((onesN s : Nat) : Int) ∈ sizesU m 32 := by
    unfold sizesU
    rw [List.mem_map]
    exact ⟨s, by rw [List.mem_filter, List.mem_range]; exact ⟨hs, h.2.1⟩, rfl⟩
  obtain ⟨j, hj, e⟩ := List.mem_iff_getElem.1 h2
  have h3 := maxU_ge (a := 0) (xs := sizesU m 32) (sizesU m 32).length j hj
  rw [gi_eq hj, e] at h3
  omega
section
variable {x : Book}
theorem stock_congr {f f' : Nat → Nat → Bool} {S : Nat} : ∀ n, (∀ k, k < n → f k = f' k) → stockCut f S n = stockCut f' S n
  | 0, _ => rfl
  | n + 1, h => by
    unfold stockCut
    rw [stock_congr n (fun k hk => h k (by omega)), h n (by omega)]
theorem cutsM_congr {y : Book} {p : Nat} (h1 : gw y.planks p = gw x.planks p) (h2 : y.parts = x.parts) : cutsM y p = cutsM x p := by
  have : canLay y p = canLay x p := by
    funext s
    unfold canLay
    rw [h1, h2]
  unfold cutsM
  rw [this, h2]
theorem found_is {p k : Nat} {t : Int} (hp : p < x.planks.length) : foundN x (stockF x) p k t = mostN (allF (lookedB x p k t)) := by
  unfold foundN allF
  have hl : (lookedB x p k t).planks.length = x.planks.length := by unfold lookedB; simp
  rw [hl]
  congr 1
  refine stock_congr _ (fun j hj => ?_)
  unfold updF stockF stockU
  rw [hl, if_pos hj]
  by_cases e : j = p
  · rw [if_pos e, e, if_pos hp]
  · rw [if_neg e, if_pos hj]
    exact (cutsM_congr (looked_other e) rfl).symm
theorem found_len {p k : Nat} {t : Int} (hb : bookOk (lookedB x p k t) = true) (hp : p < x.planks.length) : foundN x (stockF x) p k t = ((mostR (lookedB x p k t)).1.length : Int) := by
  obtain ⟨s, h1, h2, h3⟩ := most_is hb
  rw [found_is hp, h3, mostN_is (lt32 hb h2) h1]

/-! ### The knot -/
/-- The best one of those that were offered. -/
def BestSt (bet : Bet) (P : List Int → Int → Prop) : Option (List Int × Int) → Prop
  | none => ∀ xs c, ¬ P xs c
  | some (xs, c) => P xs c ∧ ∀ ys d, P ys d → bet ys d xs c = false
theorem best_offer {bet : Bet} (hl : BetLaw bet) {P : List Int → Int → Prop} {st : Option (List Int × Int)} (h : BestSt bet P st) (zs : List Int) (cz : Int) : BestSt bet (fun xs c => P xs c ∨ (xs = zs ∧ c = cz)) (offerL bet st zs cz) := by
  cases st with
  | none =>
    refine ⟨.inr ⟨rfl, rfl⟩, fun ys d hy => ?_⟩
    rcases hy with hy | ⟨rfl, rfl⟩
    · exact absurd hy (h _ _)
    · exact hl.self _ _
  | some p =>
    obtain ⟨xs, cx⟩ := p
    obtain ⟨h1, h2⟩ := h
    show BestSt bet _ (if bet zs cz xs cx = true then some (zs, cz) else some (xs, cx))
    by_cases hb : bet zs cz xs cx = true
    · rw [if_pos hb]
      refine ⟨.inr ⟨rfl, rfl⟩, fun ys d hy => ?_⟩
      rcases hy with hy | ⟨rfl, rfl⟩
      · rw [← Bool.not_eq_true]
        intro h3
        have := hl.trans _ _ _ _ _ _ h3 hb
        rw [h2 _ _ hy] at this
        cases this
      · exact hl.self _ _
    · rw [if_neg hb]
      refine ⟨.inl h1, fun ys d hy => ?_⟩
      rcases hy with hy | ⟨rfl, rfl⟩
      · exact h2 _ _ hy
      · simpa using hb
theorem best_congr {bet : Bet} {P P' : List Int → Int → Prop} {st : Option (List Int × Int)} (h : BestSt bet P st) (he : ∀ xs c, P xs c ↔ P' xs c) : BestSt bet P' st := by
  cases st with
  | none => exact fun xs c hp => h xs c ((he xs c).2 hp)
  | some p => exact ⟨(he _ _).1 h.1, fun ys d hy => h.2 ys d ((he _ _).2 hy)⟩
theorem look_in {f : Nat → Nat → Bool} {i : Nat} {P : List Int → Int → Prop} {st : Option (List Int × Int)} (h : BestSt moreB P st) : ∀ j : Nat, BestSt moreB (fun xs c => P xs c ∨ ∃ k : Nat, k < j ∧ xs = [(i : Int), (k : Int)] ∧ c = worstN x f i k) (lookIn x f i st j)
  | 0 => best_congr h (fun xs c => by simp)
  | j + 1 => by
    refine best_congr (best_offer more_law (look_in h j) [(i : Int), (j : Int)] (worstN x f i j)) (fun xs c => ?_)
    constructor
    · rintro ((h | ⟨k, hk, e⟩) | e)
      · exact .inl h
      · exact .inr ⟨k, by omega, e⟩
      · exact .inr ⟨j, by omega, e⟩
    · rintro (h | ⟨k, hk, e⟩)
      · exact .inl (.inl h)
      · by_cases ek : k = j
        · subst ek; exact .inr e
        · exact .inl (.inr ⟨k, by omega, e⟩)
theorem look_out {f : Nat → Nat → Bool} : ∀ n : Nat, BestSt moreB (fun xs c => ∃ i k : Nat, i < n ∧ k < (gw x.planks i).knots.length ∧ xs = [(i : Int), (k : Int)] ∧ c = worstN x f i k) (lookOut x f n)
  | 0 => fun xs c => by rintro ⟨i, k, hi, _⟩; omega
  | n + 1 => by
    refine best_congr (look_in (look_out n) (gw x.planks n).knots.length) (fun xs c => ?_)
    constructor
    · rintro (⟨i, k, hi, hk, e⟩ | ⟨k, hk, e⟩)
      · exact ⟨i, k, by omega, hk, e⟩
      · exact ⟨n, k, by omega, hk, e⟩
    · rintro ⟨i, k, hi, hk, e⟩
      by_cases ei : i = n
      · subst ei; exact .inr ⟨k, hk, e⟩
      · exact .inl ⟨i, k, by omega, hk, e⟩
theorem look_is (hb : bookOk x = true) : (lookR x = (0, 0, 4) ∧ ∀ i, i < x.planks.length → (gw x.planks i).knots.length = 0) ∨
    ∃ i k : Nat, lookR x = ((i : Int), (k : Int), 0) ∧ i < x.planks.length ∧ k < (gw x.planks i).knots.length ∧ ∀ p q : Nat, p < x.planks.length → q < (gw x.planks p).knots.length →
      worstN x (stockF x) p q < worstN x (stockF x) i k ∨ (worstN x (stockF x) p q = worstN x (stockF x) i k ∧ (i < p ∨ (i = p ∧ k ≤ q))) := by
  have h := look_out (x := x) (f := stockF x) x.planks.length
  unfold lookR
  rw [if_pos hb]
  cases ho : lookOut x (stockF x) x.planks.length with
  | none =>
    rw [ho] at h
    refine .inl ⟨rfl, fun i hi => ?_⟩
    by_cases e : (gw x.planks i).knots.length = 0
    · exact e
    · exact absurd ⟨i, 0, hi, by omega, rfl, rfl⟩ (h [(i : Int), ((0 : Nat) : Int)] (worstN x (stockF x) i 0))
  | some r =>
    obtain ⟨xs, c⟩ := r
    rw [ho] at h
    obtain ⟨⟨i, k, hi, hk, rfl, rfl⟩, h2⟩ := h
    refine .inr ⟨i, k, rfl, hi, hk, fun p q hp hq => ?_⟩
    have := h2 [(p : Int), (q : Int)] _ ⟨p, q, hp, hq, rfl, rfl⟩
    rw [more_is, Bool.or_eq_false_iff, decide_eq_false_iff_not] at this
    obtain ⟨h3, h4⟩ := this
    by_cases e : worstN x (stockF x) p q = worstN x (stockF x) i k
    · refine .inr ⟨e, ?_⟩
      rw [decide_eq_true e, Bool.true_and] at h4
      unfold lessI at h4
      by_cases e2 : (p : Int) = i
      · rw [if_pos e2] at h4
        unfold lessI at h4
        by_cases e3 : (q : Int) = k
        · exact .inr ⟨by omega, by omega⟩
        · rw [if_neg e3, decide_eq_false_iff_not] at h4
          exact .inr ⟨by omega, by omega⟩
      · rw [if_neg e2, decide_eq_false_iff_not] at h4
        exact .inl (by omega)
    · exact .inl (by omega)
end
end Go.Proofs.Ytbbolibkheelmaa
namespace Go.Proofs.Ytbbolibkheelmaa
open Go.RowKit Go.Shelf

set_option maxRecDepth 100000 in
set_option maxHeartbeats 4000000 in
theorem lawworst_any {B : Nat} {pa sa : Option Addr} {pn pc sn sc p k : Nat} {x : Book} {w : World} (hB : B ≤ w.heap.size) (hx : BookAt B w pa pn sa sn x) (hb : bookOk x = true) (hp : p < pn) (hk : k < (gw x.planks p).knots.length) :
    Calls Try.prog 50 #[.agg #[.slice pa pn pc, .slice sa sn sc], .int .i64 p, .int .i64 k] w fun e w' => e = .returned (.int .i64 (worstN x (stockF x) p k)) ∧ Below w.heap.size w w' := by
  have hpn := Lib.hid hx.planks.len
  have hsn := Lib.hid hx.parts.len
  have hG := good_of hb
  have hxp : p < x.planks.length := by rw [hpn.out]; exact hp
  have hwd := hG.wood p hxp
  have hkn := hG.knot p hxp k hk
  have hpn3 : pn ≤ 100 := by have := hG.planks; have := hpn.out; omega
  have hsn5 : sn ≤ 5 := by have := hG.parts; have := hsn.out; omega
  obtain ⟨w0, hw0⟩ : ∃ w0, w0 = w.alloc (.cells #[.slice pa pn pc, .slice sa sn sc] 25) := ⟨_, rfl⟩
  have hbw0 : Below w.heap.size w w0 := by rw [hw0]; exact (Below.refl _ _).alloc (Nat.le_refl _) _
  have hk0 : Blk w0 w.heap.size #[.slice pa pn pc, .slice sa sn sc] := by rw [hw0]; exact Blk.new w _ _
  have l0 : w.heap.size < w0.heap.size := hk0.lt
  have hx0 := hx.keep (w' := w0) (Nat.le_refl _) (fun b o h => bcells hbw0 b o (by omega))
  clear hx
  obtain ⟨pb, po, rfl, hpB, hpc⟩ := hx0.planks.get p hp
  obtain ⟨kv, hkv, kc0, kc1, kI⟩ := hpc p hp
  clear hpc
  obtain ⟨ka, kn, kc, rfl, hks⟩ := hkv
  have hkn2 := hks.len
  obtain ⟨kb, ko, rfl, hkB, hkc⟩ := hks.get k (by omega)
  obtain ⟨c0, c1, i0, i1⟩ := hkc k (by omega)
  clear hkc hks
  obtain ⟨lo, hlo⟩ : ∃ lo, lo = (gp (gw x.planks p).knots k).1 := ⟨_, rfl⟩
  obtain ⟨hi, hhi⟩ : ∃ hi, hi = (gp (gw x.planks p).knots k).2 := ⟨_, rfl⟩
  have hlohi : lo ≤ hi ∧ 0 ≤ lo ∧ hi ≤ 16 := by rw [hlo, hhi]; unfold Knot at hkn; exact ⟨hkn.2.1, hkn.1, by omega⟩
  obtain ⟨hlh, hlo0, hhi16⟩ := hlohi
  rw [← hlo] at c0
  rw [← hhi] at c1
  have hk100 : (gw x.planks p).knots.length ≤ 100 := by have := hwd.2.2; omega
  obtain ⟨N, hN⟩ : ∃ N : Nat, (N : Int) = hi - lo + 1 := ⟨(hi - lo + 1).toNat, by omega⟩
  obtain ⟨R, hR⟩ : ∃ R, R = worstN x (stockF x) p k := ⟨_, rfl⟩
  rw [← hR]
  have hR' : Hid (R = worstU x (stockF x) p k N) := Lib.hid (by rw [hR]; unfold worstN; rw [← hlo, ← hhi, ← hN, Int.toNat_natCast])
  have hok : Hid (∀ t, lo ≤ t → t ≤ hi → bookOk (lookedB x p k t) = true) := Lib.hid (fun t h1 h2 => looked_ok hb hxp hk (by rw [← hlo]; exact h1) (by rw [← hhi]; exact h2))
  have hstep : Hid (∀ j : Nat, lo + (j : Int) ≤ hi → worstU x (stockF x) p k (j + 1) = min (worstU x (stockF x) p k j) ((mostR (lookedB x p k (lo + j))).1.length : Int)) := Lib.hid (fun j hj => by
    have : worstU x (stockF x) p k (j + 1) = min (worstU x (stockF x) p k j) (foundN x (stockF x) p k (lo + j)) := by rw [hlo]; rfl
    rw [this, found_len (hok.out _ (by omega) hj) hxp])
  have hme : Hid (∀ t, lo ≤ t → t ≤ hi → (mostR (lookedB x p k t)).2 = 0) := Lib.hid (fun t h1 h2 => by
    obtain ⟨s, _, _, h3⟩ := most_is (hok.out t h1 h2)
    rw [h3])
  have hx1 := Lib.hid hx0
  have hpi : (p : Int) < pn := by omega
  have hki : (k : Int) < kn := by omega
  have q0 : w0.cell? ⟨w.heap.size, 0, none⟩ = some (.slice (some ⟨pb, po, none⟩) pn pc) := hk0.cell
  have q1 : w0.cell? ⟨w.heap.size, 1, none⟩ = some (.slice sa sn sc) := hk0.cell
  have lpb : pb < w0.heap.size := by omega
  have lkb : kb < w0.heap.size := by omega
  have hwu0 : Hid ((sn : Int) = worstU x (stockF x) p k 0) := Lib.hid (by unfold worstU; rw [hsn.out])
  clear hx0 hR hlo hhi hG hwd hkn kc0 kI hkn2 i0 i1 hb
  go_enter Try.func50, Try.ntmps50
  replace hw0 := hw0.symm
  go_wp2_with fail
  clear hw0 q0 q1
  go_loopw [7, 8] (fun v i wr => ∃ j : Nat, j ≤ N ∧ i = .int .i64 (lo + j) ∧ v = .int .i64 (worstU x (stockF x) p k j) ∧ Below w0.heap.size w0 wr) (fun _ i _ => (hi + 1 - intOf i).toNat)
  case atStart => exact ⟨0, by omega, by simp, by rw [hwu0.out], Below.refl _ _⟩
  case round =>
    obtain ⟨j, hj, rfl, rfl, hbr⟩ := hrel
    have hkr := hk0.below hbr l0
    have hzr := hbr.size
    have hbwr := hbw0.trans (hbr.mono hbw0.size)
    have q0 : wr.cell? ⟨w.heap.size, 0, none⟩ = some (.slice (some ⟨pb, po, none⟩) pn pc) := hkr.cell
    have q1 : wr.cell? ⟨w.heap.size, 1, none⟩ = some (.slice sa sn sc) := hkr.cell
    have q2 := (bcells hbr pb (po + p * 2 + 1) lpb).trans kc1
    have q3 := (bcells hbr kb (ko + k * 2) lkb).trans c0
    have q4 := (bcells hbr kb (ko + k * 2 + 1) lkb).trans c1
    by_cases hlt : j < N
    · have hle : lo + (j : Int) ≤ hi := by omega
      have hxr := Lib.hid (hx1.out.keep (w' := wr) (Nat.le_refl _) (fun b o h => bcells hbr b o (by omega)))
      have hst := hstep.out j hle
      obtain ⟨W, hW⟩ : ∃ W, W = worstU x (stockF x) p k j := ⟨_, rfl⟩
      rw [← hW] at hst ⊢
      have hst' := Lib.hid hst
      clear hW hst
      go_wp2_with fail
      refine (known_any (B := B) (t := lo + j) (by omega) hxr.out hpn3 hp hk hk100 (by unfold I64; omega)).mono ?_
      rintro e w5 ⟨qa, qn, qc, rfl, hy, hb5⟩
      clear q0 q1 q2 q3 q4
      go_wp2_with fail
      refine (Most_any (Nat.le_refl _) hy).mono ?_
      rintro e w6 ⟨ra, rn, rc, rfl, hl, hb6⟩
      rw [hme.out (lo + j) (by omega) hle]
      have hln := hl.len
      have hst2 : Hid (worstU x (stockF x) p k (j + 1) = min W (rn : Int)) := Lib.hid (by rw [hst'.out, hln])
      have hbr6 := (hbr.trans (hb5.mono hbr.size)).trans (hb6.mono (Nat.le_trans hbr.size hb5.size))
      clear hl hln hb6 hb5 hy
      go_wp2_with fail
      go_roundw
      case rel =>
        refine ⟨j + 1, by omega, ?_, ?_, hbr6⟩
        · rw [show lo + (j : Int) + 1 = lo + ((j + 1 : Nat) : Int) by omega]
        · rw [hst2.out]
          congr 1
          rw [Int.min_def]
          split <;> split <;> omega
      case measure => simp [intOf]; omega
    · obtain rfl : j = N := by omega
      have hgt : hi < lo + (j : Int) := by omega
      go_wp2_with fail
      go_ret
      exact ⟨ret_int (by rw [hR'.out]), hbwr⟩
end Go.Proofs.Ytbbolibkheelmaa
namespace Go.Proofs.Ytbbolibkheelmaa
open Go.RowKit Go.Shelf

theorem best_fewer {m : Nat → Bool} {n a b : Nat} (ha : BestOf fewerB m n a) (hb : BestOf fewerB m n b) : memL a = memL b := by
  have h1 := ha.2.2 b hb.1 hb.2.1
  have h2 := hb.2.2 a ha.1 ha.2.1
  rw [fewer_is, Bool.or_eq_false_iff, decide_eq_false_iff_not] at h1 h2
  have hl : (memL a).length = (memL b).length := by omega
  have h3 := h1.2
  have h4 := h2.2
  rw [decide_eq_true (by omega), Bool.true_and] at h3 h4
  exact less_total h4 h3
theorem best_more {m : Nat → Bool} {n a b : Nat} (ha : BestOf moreB m n a) (hb : BestOf moreB m n b) : memL a = memL b := by
  have h1 := ha.2.2 b hb.1 hb.2.1
  have h2 := hb.2.2 a ha.1 ha.2.1
  rw [more_is, Bool.or_eq_false_iff, decide_eq_false_iff_not] at h1 h2
  have hl : (memL a).length = (memL b).length := by omega
  have h3 := h1.2
  have h4 := h2.2
  rw [decide_eq_true (by omega), Bool.true_and] at h3 h4
  exact less_total h4 h3
/-- Which one is the best so far, of those below k, or of one that was there before. -/
def SoFar (bet : Bet) (m : Nat → Bool) (k b : Nat) : Prop := m b = true ∧ ∀ j, j < k → m j = true → bet (memL j) (memL j).length (memL b) (memL b).length = false
theorem sofar_keep {bet : Bet} {m : Nat → Bool} {k b : Nat} (h : SoFar bet m k b) (hk : ¬ (bet (memL k) (memL k).length (memL b) (memL b).length = true ∧ m k = true)) : SoFar bet m (k + 1) b :=
  ⟨h.1, fun j hj hm => by
    by_cases e : j = k
    · subst e
      rw [← Bool.not_eq_true]
      exact fun h' => hk ⟨h', hm⟩
    · exact h.2 j (by omega) hm⟩
theorem sofar_take {bet : Bet} (hl : BetLaw bet) {m : Nat → Bool} {k b : Nat} (h : SoFar bet m k b) (h1 : bet (memL k) (memL k).length (memL b) (memL b).length = true) (h2 : m k = true) : SoFar bet m (k + 1) k :=
  ⟨h2, fun j hj hm => by
    by_cases e : j = k
    · subst e; exact hl.self _ _
    · rw [← Bool.not_eq_true]
      intro h'
      have := hl.trans _ _ _ _ _ _ h' h1
      rw [h.2 j (by omega) hm] at this
      cases this⟩
theorem mem_full_len {n : Nat} (hn : n ≤ 5) : (memL (2 ^ n - 1)).length = n := by
  rw [← memU_L (ones_lt n) (by have := pow_le32 hn; have := ones_lt n; omega)]
  unfold memU
  rw [List.length_map, List.filter_eq_self.2, List.length_range]
  intro p hp
  rw [has_ones]; exact decide_eq_true (List.mem_range.1 hp)
theorem memL_zero : memL 0 = [] := by rfl
section
variable {x : Book}
theorem sofar_fewest (hb : bookOk x = true) {b : Nat} (hlt : b < 2 ^ x.planks.length) (h : SoFar fewerB (wholeF x) (2 ^ x.planks.length) b) : fewestR x = (memL b, 0) := by
  have hB : BestOf fewerB (wholeF x) (2 ^ x.planks.length) b := ⟨hlt, h.1, h.2⟩
  rcases fewest_is hb with ⟨_, h2⟩ | ⟨S, h1, h2, _⟩
  · exact absurd (((wholeF_pack hb).1 h.1).mono (fun _ _ _ => trivial) (fun _ h => h)) h2
  · rw [h2, best_fewer h1 hB]
theorem none_fewest (hb : bookOk x = true) (h : wholeF x (2 ^ x.planks.length - 1) = false) : fewestR x = ([], 4) := by
  rcases fewest_is hb with ⟨h1, _⟩ | ⟨S, h1, _, h2⟩
  · exact h1
  · have h3 : wholeF x (2 ^ x.planks.length - 1) = true := (wholeF_pack hb).2 (h2.mono (fun i hi _ => by rw [has_ones]; exact decide_eq_true hi) (fun _ h => h))
    rw [h3] at h; cases h
theorem sofar_most (hb : bookOk x = true) {b : Nat} (h : SoFar moreB (allF x) (2 ^ x.parts.length) b) : mostR x = (memL b, 0) := by
  obtain ⟨s, h1, h2, h3⟩ := most_is hb
  have hlt := stock_false hb _ (Nat.le_refl _) b h.1
  have hB : BestOf moreB (allF x) 32 b := ⟨lt32 hb hlt, h.1, fun j _ hm => h.2 j (stock_false hb _ (Nat.le_refl _) j hm) hm⟩
  rw [h3, best_more h1 hB]
theorem all_zero (hb : bookOk x = true) : allF x 0 = true := (all_pack hb (Nat.pow_pos (by decide))).2 (Pack.none fun p h => by rw [has_zero] at h; cases h)
/-- When is one list more than another one, as the specification asks it. -/
theorem more_asked (xs ys : List Int) : moreB xs xs.length ys ys.length = (decide (ys.length < xs.length) || (decide (xs.length = ys.length) && lessI xs ys)) := by
  rw [more_is]
  have h1 : decide ((ys.length : Int) < xs.length) = decide (ys.length < xs.length) := by rw [decide_eq_decide]; omega
  have h2 : decide ((xs.length : Int) = ys.length) = decide (xs.length = ys.length) := by rw [decide_eq_decide]; omega
  rw [h1, h2]

/-! ### Which knot -/
/-- The best knot so far, of those before (i, k). -/
def LookSt (x : Book) (i k : Nat) (p q : Nat) (b : Int) : Prop :=
  (b = -1 ∧ p = 0 ∧ q = 0 ∧ ∀ r s : Nat, (r < i ∨ (r = i ∧ s < k)) → r < x.planks.length → ¬ s < (gw x.planks r).knots.length) ∨
  (0 ≤ b ∧ (p < i ∨ (p = i ∧ q < k)) ∧ p < x.planks.length ∧ q < (gw x.planks p).knots.length ∧ b = worstN x (stockF x) p q ∧ ∀ r s : Nat, (r < i ∨ (r = i ∧ s < k)) → r < x.planks.length → s < (gw x.planks r).knots.length →
    worstN x (stockF x) r s < b ∨ (worstN x (stockF x) r s = b ∧ (p < r ∨ (p = r ∧ q ≤ s))))
theorem look_start (x : Book) : LookSt x 0 0 0 0 (-1) := .inl ⟨rfl, rfl, rfl, fun r s h => by omega⟩
theorem look_row {i p q : Nat} {b : Int} (h : LookSt x i (gw x.planks i).knots.length p q b) : LookSt x (i + 1) 0 p q b := by
  rcases h with ⟨h1, h2, h3, h4⟩ | ⟨h0, h5, h1, h2, h3, h4⟩
  · refine .inl ⟨h1, h2, h3, fun r s hrs hr hs => ?_⟩
    by_cases e : r = i
    · subst e; exact h4 r s (.inr ⟨rfl, hs⟩) hr hs
    · exact h4 r s (.inl (by omega)) hr hs
  · refine .inr ⟨h0, by omega, h1, h2, h3, fun r s hrs hr hs => ?_⟩
    by_cases e : r = i
    · subst e; exact h4 r s (.inr ⟨rfl, hs⟩) hr hs
    · exact h4 r s (.inl (by omega)) hr hs
theorem look_take {i k p q : Nat} {b : Int} (h : LookSt x i k p q b) (hi : i < x.planks.length) (hk : k < (gw x.planks i).knots.length) (h0 : 0 ≤ worstN x (stockF x) i k) (hb : b < worstN x (stockF x) i k) : LookSt x i (k + 1) i k (worstN x (stockF x) i k) := by
  refine .inr ⟨h0, .inr ⟨rfl, by omega⟩, hi, hk, rfl, fun r s hrs hr hs => ?_⟩
  by_cases e : r = i ∧ s = k
  · obtain ⟨rfl, rfl⟩ := e
    exact .inr ⟨rfl, .inr ⟨rfl, Nat.le_refl _⟩⟩
  · rcases h with ⟨h1, h2, h3, h4⟩ | ⟨h0, h5, h1, h2, h3, h4⟩
    · exact absurd hs (h4 r s (by omega) hr)
    · have := h4 r s (by omega) hr hs
      exact .inl (by omega)
theorem look_keep {i k p q : Nat} {b : Int} (h : LookSt x i k p q b) (h0 : 0 ≤ worstN x (stockF x) i k) (hb : worstN x (stockF x) i k ≤ b) : LookSt x i (k + 1) p q b := by
  rcases h with ⟨h1, h2, h3, h4⟩ | ⟨h0, h5, h1, h2, h3, h4⟩
  · omega
  · refine .inr ⟨h0, by omega, h1, h2, h3, fun r s hrs hr hs => ?_⟩
    by_cases e : r = i ∧ s = k
    · obtain ⟨rfl, rfl⟩ := e
      by_cases e : worstN x (stockF x) r s = b
      · exact .inr ⟨e, by omega⟩
      · exact .inl (by omega)
    · exact h4 r s (by omega) hr hs
theorem look_end (hb : bookOk x = true) {p q : Nat} {b : Int} (h : LookSt x x.planks.length 0 p q b) : lookR x = if b < 0 then (0, 0, 4) else ((p : Int), (q : Int), 0) := by
  rcases look_is hb with ⟨h1, h2⟩ | ⟨i, k, h1, hi, hk, h2⟩
  · rcases h with ⟨e, _⟩ | ⟨_, _, hp, hq, _⟩
    · rw [h1, e]; rfl
    · have := h2 p hp; omega
  · rcases h with ⟨_, _, _, h4⟩ | ⟨h0, _, hp, hq, hbw, h4⟩
    · exact absurd hk (h4 i k (.inl hi) hi)
    · have h5 := h2 p q hp hq
      have h6 := h4 i k (.inl hi) hi hk
      rw [if_neg (by omega), h1]
      have e1 : i = p := by omega
      have e2 : k = q := by omega
      rw [e1, e2]
end
end Go.Proofs.Ytbbolibkheelmaa
