/- Walks: the specification's Can. Walks: the specification's Spots. Walks: the specification's Spots, of any question. Walks: PlankSpots. -/
import Derived.Test.YtilbkmogmlcpaaaPsp06
import Derived.Test.YtilbkmogmlcpaaaGa15
namespace Go.Proofs.Ytilbkmogmlcpaaa
open Go.RowKit Go.Shelf

/-- Are these numbers of a plank, a part, an inch at which it lies? -/
def okAsk (x : Book) (i p t : Int) : Bool := numB x.planks.length i && numB x.parts.length p && liesB x i.toNat p.toNat t
theorem ask_one {x : Book} {i p : Int} (hb : bookOk x = true) : askE x i [p] = if (numB x.planks.length i && numB x.parts.length p) = true then 0 else 11 := by
  rw [askE_good hb]
  have : (allB [p].length fun k => numB x.parts.length (gi [p] k)) = numB x.parts.length p := by simp [allB, gi]
  rw [this]
theorem can_ask {x : Book} {i p t : Int} (h : askedE x (okAsk x i p t) ≠ 0) : canR x i p t = (0, askedE x (okAsk x i p t)) := by
  rcases Bool.eq_false_or_eq_true (bookOk x) with hb | hb
  · have hk : okAsk x i p t = false := by
      rw [← Bool.not_eq_true]
      intro e
      unfold askedE at h
      rw [if_pos hb, if_pos e] at h
      exact h rfl
    have hE : askedE x (okAsk x i p t) = 11 := by unfold askedE; rw [if_pos hb, if_neg (by rw [hk]; simp)]
    rw [hE]
    unfold canR
    unfold okAsk at hk
    rw [ask_one hb]
    cases hn : (numB x.planks.length i && numB x.parts.length p) with
    | true =>
      rw [hn, Bool.true_and] at hk
      rw [Bool.and_eq_true] at hn
      obtain ⟨h1, h2⟩ := hn
      unfold numB at h1 h2
      rw [decide_eq_true_eq] at h1 h2
      rw [lies_good hb (by omega) (by omega), decide_eq_false_iff_not] at hk
      rw [if_pos rfl, if_pos rfl]
      unfold boardM
      rw [if_neg]
      simp only
      unfold many
      omega
    | false => rfl
  · have hE : askedE x (okAsk x i p t) = errOf false := by unfold askedE; rw [if_neg (by rw [hb]; simp)]
    rw [hE]
    unfold canR
    rw [askE_bad hb]
    rfl
theorem ask_ok {x : Book} {i p t : Int} (h : askedE x (okAsk x i p t) = 0) : bookOk x = true ∧ ∃ (i' p' t' : Nat), i = i' ∧ p = p' ∧ t = t' ∧ i' < x.planks.length ∧ p' < x.parts.length ∧ (t' : Int) ≤ (gw x.planks i').long - (gs x.parts p').long := by
  unfold askedE at h
  rcases Bool.eq_false_or_eq_true (bookOk x) with hb | hb
  · rw [if_pos hb] at h
    have hk : okAsk x i p t = true := by
      by_cases e : okAsk x i p t = true
      · exact e
      · rw [if_neg e] at h; cases h
    unfold okAsk numB at hk
    rw [Bool.and_eq_true, Bool.and_eq_true, decide_eq_true_eq, decide_eq_true_eq] at hk
    obtain ⟨⟨h1, h2⟩, h3⟩ := hk
    rw [lies_good hb (by omega) (by omega), decide_eq_true_eq] at h3
    refine ⟨hb, i.toNat, p.toNat, t.toNat, by omega, by omega, by omega, by omega, by omega, ?_⟩
    omega
  · rw [if_neg (by rw [hb]; simp)] at h; cases h

set_option maxRecDepth 100000 in
set_option maxHeartbeats 4000000 in
theorem refCan_any {B : Nat} {pa sa : Option Addr} {pn pc sn sc : Nat} {i p t : Int} {x : Book} {w : World} (hB : B ≤ w.heap.size) (hx : BookAt B w pa pn sa sn x) :
    Calls Try.prog 17 #[.agg #[.slice pa pn pc, .slice sa sn sc], .int .i64 i, .int .i64 p, .int .i64 t] w fun e w' => e = .returned (.tuple #[.int .i64 (canR x i p t).1, .int .i64 (canR x i p t).2]) ∧ Below w.heap.size w w' := by
  have hpn := Lib.hid hx.planks.len
  have hsn := Lib.hid hx.parts.len
  have hps := hx.planks.small
  have hss := hx.parts.small
  obtain ⟨W0, hW0⟩ : ∃ W0, W0 = w.alloc (.cells #[.slice pa pn pc, .slice sa sn sc] 25) := ⟨_, rfl⟩
  have hb0 : Below w.heap.size w W0 := by rw [hW0]; exact (Below.refl _ _).alloc (Nat.le_refl _) _
  have hk0 : Blk W0 w.heap.size #[.slice pa pn pc, .slice sa sn sc] := by rw [hW0]; exact Blk.new w _ _
  have l0 : w.heap.size < W0.heap.size := hk0.lt
  have hx0 := Lib.hid (hx.keep (w' := W0) (Nat.le_refl _) (fun b o h => bcells hb0 b o (by omega)))
  clear hx
  obtain ⟨b1, hb1⟩ : ∃ b1, numB pn i = b1 := ⟨_, rfl⟩
  obtain ⟨b2, hb2⟩ : ∃ b2, numB sn p = b2 := ⟨_, rfl⟩
  obtain ⟨b3, hb3⟩ : ∃ b3, liesB x i.toNat p.toNat t = b3 := ⟨_, rfl⟩
  obtain ⟨E, hE⟩ : ∃ E, E = askedE x (okAsk x i p t) := ⟨_, rfl⟩
  obtain ⟨r1, hr1⟩ : ∃ r1, r1 = (canR x i p t).1 := ⟨_, rfl⟩
  obtain ⟨r2, hr2⟩ : ∃ r2, r2 = (canR x i p t).2 := ⟨_, rfl⟩
  rw [← hr1, ← hr2]
  have hE2 : Hid (E = askedE x (b1 && b2 && b3)) := Lib.hid (by rw [hE]; unfold okAsk; rw [hpn.out, hsn.out, hb1, hb2, hb3])
  have hb1' := Lib.hid hb1
  have hb2' := Lib.hid hb2
  have hb3' := Lib.hid hb3
  have hE' := Lib.hid hE
  have hr := Lib.hid (And.intro hr1 hr2)
  clear hb1 hb2 hb3 hE hr1 hr2
  go_enter Try.func17, Try.ntmps17
  replace hW0 := hW0.symm
  go_upto_region 1 with fail
  clear hW0
  go_cut [10] (fun s wx => s = .int .i64 E ∧ Below W0.heap.size W0 wx)
  case first =>
    have hO := open_wide
    have hF := hO.fn
    have hd := hO.depth
    have hS0 : SameBut (fun _ => False) W0 W0.drew := (SameBut.refl _ _).drew
    have hread : ∀ w', SameBut (fun _ => False) W0 w' → w'.cell? ⟨w.heap.size, 0, none⟩ = some (.slice pa pn pc) ∧ w'.cell? ⟨w.heap.size, 1, none⟩ = some (.slice sa sn sc) := fun w' h =>
      ⟨(hk0.same h (fun e => e)).cell, (hk0.same h (fun e => e)).cell⟩
    cases b1 with
    | false =>
      refine region_planW (fun w' => SameBut (fun _ => False) W0 w') [(0, true), (1, true), (2, true), (3, false), (4, true), (5, true), (6, true), (7, true), (8, true), (9, true), (10, true), (11, true), (12, true), (13, true), (14, true), (15, true), (16, false), (17, true)] (by kernel_rfl) (by kernel_rfl) (by kernel_rfl) (by decide) (by kernel_rfl) ?_
      iterate 3
        (refine plan_take ?_ rfl hS0 (by rfl) ?_ ?_
         rotate_left
         · intro w' hw'
           obtain ⟨q1, q2⟩ := hread w' hw'
           go_simp
           with_reducible rfl
         simp only [Act.put, List.setIfInBounds_toArray, List.set_cons_zero, List.set_cons_succ])
      refine plan_one rfl (by rfl) (fun K hK => ?_)
      go_simp
      refine (hO.calls (isPlank_any hps)).mono ?_
      rintro e w5 ⟨rfl, hb5⟩
      rw [hb1'.out]
      have hS5 : SameBut (fun _ => False) W0 w5 := hS0.below hb5
      refine hK _ _ hS5 ?_
      clear hK K hb5
      iterate 1
        (refine plan_take ?_ rfl hS5 (by rfl) ?_ ?_
         rotate_left
         · intro w' hw'
           go_simp
           with_reducible rfl
         simp only [Act.put, List.setIfInBounds_toArray, List.set_cons_zero, List.set_cons_succ])
      iterate 3
        (refine plan_skip rfl hS5 (by rfl) ?_
         simp only [Act.put, List.setIfInBounds_toArray, List.set_cons_zero, List.set_cons_succ])
      iterate 2
        (refine plan_take ?_ rfl hS5 (by rfl) ?_ ?_
         rotate_left
         · intro w' hw'
           go_simp
           with_reducible rfl
         simp only [Act.put, List.setIfInBounds_toArray, List.set_cons_zero, List.set_cons_succ])
      iterate 5
        (refine plan_skip rfl hS5 (by rfl) ?_
         simp only [Act.put, List.setIfInBounds_toArray, List.set_cons_zero, List.set_cons_succ])
      iterate 1
        (refine plan_take ?_ rfl hS5 (by rfl) ?_ ?_
         rotate_left
         · intro w' hw'
           go_simp
           with_reducible rfl
         simp only [Act.put, List.setIfInBounds_toArray, List.set_cons_zero, List.set_cons_succ])
      refine plan_one rfl (by rfl) (fun K hK => ?_)
      go_simp
      refine (hO.calls (asked_any (B := B) (ok := false) (by have := hS5.size; omega) (hx0.out.keep (Nat.le_refl _) (fun b o h => hS5.cell (by omega) (fun e => e))))).mono ?_
      rintro e w6 ⟨rfl, hb6⟩
      have hS6 : SameBut (fun _ => False) W0 w6 := hS5.below hb6
      refine hK _ _ hS6 ?_
      clear hK K hb6
      iterate 1
        (refine plan_take ?_ rfl hS6 (by rfl) ?_ ?_
         rotate_left
         · intro w' hw'
           go_simp
           with_reducible rfl
         simp only [Act.put, List.setIfInBounds_toArray, List.set_cons_zero, List.set_cons_succ])
      unfold planW okN
      go_wp2_with fail
      go_meet
      exact ⟨by rw [hE2.out]; rfl, hS6.toBelow (Nat.le_refl _) (fun _ h => h.elim)⟩
    | true =>
    have hi1 := hb1'.out
    unfold numB at hi1
    rw [decide_eq_true_eq] at hi1
    obtain ⟨i', rfl⟩ := Int.eq_ofNat_of_zero_le hi1.1
    have hi2 : i' < pn := by omega
    clear hi1
    cases b2 with
    | false =>
      refine region_planW (fun w' => SameBut (fun _ => False) W0 w') [(0, true), (1, true), (2, true), (3, false), (4, true), (5, true), (6, true), (7, false), (8, true), (9, true), (10, true), (11, true), (12, true), (13, true), (14, true), (15, true), (16, false), (17, true)] (by kernel_rfl) (by kernel_rfl) (by kernel_rfl) (by decide) (by kernel_rfl) ?_
      iterate 3
        (refine plan_take ?_ rfl hS0 (by rfl) ?_ ?_
         rotate_left
         · intro w' hw'
           obtain ⟨q1, q2⟩ := hread w' hw'
           go_simp
           with_reducible rfl
         simp only [Act.put, List.setIfInBounds_toArray, List.set_cons_zero, List.set_cons_succ])
      refine plan_one rfl (by rfl) (fun K hK => ?_)
      go_simp
      refine (hO.calls (isPlank_any hps)).mono ?_
      rintro e w5 ⟨rfl, hb5⟩
      rw [hb1'.out]
      have hS5 : SameBut (fun _ => False) W0 w5 := hS0.below hb5
      refine hK _ _ hS5 ?_
      clear hK K hb5
      iterate 3
        (refine plan_take ?_ rfl hS5 (by rfl) ?_ ?_
         rotate_left
         · intro w' hw'
           obtain ⟨q1, q2⟩ := hread w' hw'
           go_simp
           with_reducible rfl
         simp only [Act.put, List.setIfInBounds_toArray, List.set_cons_zero, List.set_cons_succ])
      refine plan_one rfl (by rfl) (fun K hK => ?_)
      go_simp
      refine (hO.calls (isPart_any hss)).mono ?_
      rintro e w6 ⟨rfl, hb6⟩
      rw [hb2'.out]
      have hS6 : SameBut (fun _ => False) W0 w6 := hS5.below hb6
      refine hK _ _ hS6 ?_
      clear hK K hb6
      iterate 2
        (refine plan_take ?_ rfl hS6 (by rfl) ?_ ?_
         rotate_left
         · intro w' hw'
           go_simp
           with_reducible rfl
         simp only [Act.put, List.setIfInBounds_toArray, List.set_cons_zero, List.set_cons_succ])
      iterate 5
        (refine plan_skip rfl hS6 (by rfl) ?_
         simp only [Act.put, List.setIfInBounds_toArray, List.set_cons_zero, List.set_cons_succ])
      iterate 1
        (refine plan_take ?_ rfl hS6 (by rfl) ?_ ?_
         rotate_left
         · intro w' hw'
           go_simp
           with_reducible rfl
         simp only [Act.put, List.setIfInBounds_toArray, List.set_cons_zero, List.set_cons_succ])
      refine plan_one rfl (by rfl) (fun K hK => ?_)
      go_simp
      refine (hO.calls (asked_any (B := B) (ok := false) (by have := hS6.size; omega) (hx0.out.keep (Nat.le_refl _) (fun b o h => hS6.cell (by omega) (fun e => e))))).mono ?_
      rintro e w7 ⟨rfl, hb7⟩
      have hS7 : SameBut (fun _ => False) W0 w7 := hS6.below hb7
      refine hK _ _ hS7 ?_
      clear hK K hb7
      iterate 1
        (refine plan_take ?_ rfl hS7 (by rfl) ?_ ?_
         rotate_left
         · intro w' hw'
           go_simp
           with_reducible rfl
         simp only [Act.put, List.setIfInBounds_toArray, List.set_cons_zero, List.set_cons_succ])
      unfold planW okN
      go_wp2_with fail
      go_meet
      exact ⟨by rw [hE2.out]; rfl, hS7.toBelow (Nat.le_refl _) (fun _ h => h.elim)⟩
    | true =>
    have hi1 := hb2'.out
    unfold numB at hi1
    rw [decide_eq_true_eq] at hi1
    obtain ⟨p', rfl⟩ := Int.eq_ofNat_of_zero_le hi1.1
    have hp2 : p' < sn := by omega
    clear hi1
    refine region_planW (fun w' => SameBut (fun _ => False) W0 w') [(0, true), (1, true), (2, true), (3, false), (4, true), (5, true), (6, true), (7, false), (8, true), (9, true), (10, true), (11, true), (12, true), (13, true), (14, false), (15, true), (16, false), (17, true)] (by kernel_rfl) (by kernel_rfl) (by kernel_rfl) (by decide) (by kernel_rfl) ?_
    iterate 3
      (refine plan_take ?_ rfl hS0 (by rfl) ?_ ?_
       rotate_left
       · intro w' hw'
         obtain ⟨q1, q2⟩ := hread w' hw'
         go_simp
         with_reducible rfl
       simp only [Act.put, List.setIfInBounds_toArray, List.set_cons_zero, List.set_cons_succ])
    refine plan_one rfl (by rfl) (fun K hK => ?_)
    go_simp
    refine (hO.calls (isPlank_any hps)).mono ?_
    rintro e w5 ⟨rfl, hb5⟩
    rw [hb1'.out]
    have hS5 : SameBut (fun _ => False) W0 w5 := hS0.below hb5
    refine hK _ _ hS5 ?_
    clear hK K hb5
    iterate 3
      (refine plan_take ?_ rfl hS5 (by rfl) ?_ ?_
       rotate_left
       · intro w' hw'
         obtain ⟨q1, q2⟩ := hread w' hw'
         go_simp
         with_reducible rfl
       simp only [Act.put, List.setIfInBounds_toArray, List.set_cons_zero, List.set_cons_succ])
    refine plan_one rfl (by rfl) (fun K hK => ?_)
    go_simp
    refine (hO.calls (isPart_any hss)).mono ?_
    rintro e w6 ⟨rfl, hb6⟩
    rw [hb2'.out]
    have hS6 : SameBut (fun _ => False) W0 w6 := hS5.below hb6
    refine hK _ _ hS6 ?_
    clear hK K hb6
    iterate 6
      (refine plan_take ?_ rfl hS6 (by rfl) ?_ ?_
       rotate_left
       · intro w' hw'
         obtain ⟨q1, q2⟩ := hread w' hw'
         go_simp
         with_reducible rfl
       simp only [Act.put, List.setIfInBounds_toArray, List.set_cons_zero, List.set_cons_succ])
    refine plan_one rfl (by rfl) (fun K hK => ?_)
    go_simp
    refine (hO.calls (lies_any (B := B) (x := x) (t := t) (by have := hS6.size; omega) (hx0.out.keep (Nat.le_refl _) (fun b o h => hS6.cell (by omega) (fun e => e))) hi2 hp2)).mono ?_
    rintro e w7 ⟨rfl, hb7⟩
    rw [show liesB x i' p' t = b3 from hb3'.out]
    have hS7 : SameBut (fun _ => False) W0 w7 := hS6.below hb7
    refine hK _ _ hS7 ?_
    clear hK K hb7
    iterate 1
      (refine plan_take ?_ rfl hS7 (by rfl) ?_ ?_
       rotate_left
       · intro w' hw'
         go_simp
         with_reducible rfl
       simp only [Act.put, List.setIfInBounds_toArray, List.set_cons_zero, List.set_cons_succ])
    refine plan_one rfl (by rfl) (fun K hK => ?_)
    go_simp
    refine (hO.calls (asked_any (B := B) (ok := b3) (by have := hS7.size; omega) (hx0.out.keep (Nat.le_refl _) (fun b o h => hS7.cell (by omega) (fun e => e))))).mono ?_
    rintro e w8 ⟨rfl, hb8⟩
    have hS8 : SameBut (fun _ => False) W0 w8 := hS7.below hb8
    refine hK _ _ hS8 ?_
    clear hK K hb8
    iterate 1
      (refine plan_take ?_ rfl hS8 (by rfl) ?_ ?_
       rotate_left
       · intro w' hw'
         go_simp
         with_reducible rfl
       simp only [Act.put, List.setIfInBounds_toArray, List.set_cons_zero, List.set_cons_succ])
    unfold planW okN
    go_wp2_with fail
    go_meet
    exact ⟨by rw [hE2.out]; rfl, hS8.toBelow (Nat.le_refl _) (fun _ h => h.elim)⟩
  case rest =>
  obtain ⟨rfl, hb4⟩ := hcut
  obtain ⟨w1, hw1⟩ : ∃ w1, w1 = wc := ⟨_, rfl⟩
  rw [← hw1] at hb4 ⊢
  clear hw1 hb1' hb2' hb3' hE2
  have hbw : Below w.heap.size w w1 := hb0.trans (hb4.mono (by omega))
  replace hk0 := hk0.below hb4 hk0.lt
  replace hx0 := Lib.hid (hx0.out.keep (w' := w1) (Nat.le_refl _) (fun b o h => bcells hb4 b o (by omega)))
  have hBw : B ≤ w1.heap.size := by have := hbw.size; omega
  clear hb4 hb0 l0
  have q0 : w1.cell? ⟨w.heap.size, 0, none⟩ = some (.slice pa pn pc) := hk0.cell
  have q1 : w1.cell? ⟨w.heap.size, 1, none⟩ = some (.slice sa sn sc) := hk0.cell
  by_cases h0 : E = 0
  · have hee : (E != 0) = false := by simp [h0]
    obtain ⟨hb, i', p', t', rfl, rfl, rfl, hi, hp, ht⟩ := ask_ok (hE'.out.symm.trans h0)
    have hcg := Lib.hid (can_good hb hi hp ht)
    have hra := Lib.hid (refAns_eq (W := gw x.planks i') (S := gs x.parts p') (t := t') (fun k hk => (good_of hb).knot i' hi k hk))
    clear h0
    go_wp2_with (fail)
    refine (refcan_any (B := B) hBw hx0.out hb (by rw [← hpn.out]; exact hi) (by rw [← hsn.out]; exact hp) ht).mono ?_
    rintro e w2 ⟨rfl, hb2⟩
    go_wp2_with (fail)
    go_ret2
    refine ⟨?_, hbw.trans (hb2.mono hbw.size)⟩
    rw [hr.out.1, hr.out.2, hcg.out, hra.out]
    rfl
  · have hee : (E != 0) = true := by simp [h0]
    have hcg := Lib.hid (can_ask (x := x) (i := i) (p := p) (t := t) (by rw [← hE'.out]; exact h0))
    clear h0
    go_wp2_with (fail)
    go_ret2
    refine ⟨?_, hbw⟩
    rw [hr.out.1, hr.out.2, hcg.out, ← hE'.out]
    rfl
end Go.Proofs.Ytilbkmogmlcpaaa
namespace Go.Proofs.Ytilbkmogmlcpaaa
open Go.RowKit Go.Shelf

/-- One number more behind a slice of one's own. -/
theorem grow_int {w : World} {base : Nat} {va : Option Addr} {vn vc : Nat} {xs : List Int} (y : Int) (hown : w.ownsRow base 3 1 (.slice va vn vc) xs.length (xs.map intV)) (hx : xs.length ≤ 1000) (hb : base ≤ w.heap.size) :
    ∃ v' w', (appendS #[31, 31] 31 #[.slice va vn vc, .slice (some ⟨w.heap.size, 0, none⟩) 1 1]).run Try.prog (w.alloc (.cells #[.int .i64 y] 3)) = .ok v' w' ∧
      w'.ownsRow base 3 1 v' (xs ++ [y]).length ((xs ++ [y]).map intV) ∧ SameBut (fun i => base ≤ i) w w' := by
  obtain ⟨i0, hi, hz0, hz1, hz2⟩ := info_parts intInfo3
  obtain ⟨v', w7, hap, hown7, hgr7, _, _⟩ := run_append_own_at (P := Try.prog) (w := w.alloc (.cells #[.int .i64 y] 3)) base 31 31 3 i0 (.int .i64 0) 1 8 intsUnder hi hz0 hz1 hz2 rfl (by decide) (.slice va vn vc) _ _ (hown.alloc _) ⟨w.heap.size, 0, none⟩ 1 1 [.int .i64 y] rfl
    (fun j u hj => by
      match j, hj with
      | 0, hj =>
        simp at hj; subst hj
        exact (Blk.new w #[.int .i64 y] 3).cell)
    (fun u hu => by simp at hu; subst hu; rfl) (by unfold maxLen; omega) (by omega) (by simp; omega)
  have hlt6 := hown.lt
  refine ⟨v', w7, hap, ?_, ((SameBut.refl _ w).alloc _).trans (same_grown hgr7 (fun k h => (hlt6 k h).1))⟩
  rw [List.length_append, List.map_append]; exact hown7
theorem own_below {w w' : World} {base e size n : Nat} {v : Value} {xs : List Value} (h : w.ownsRow base e size v n xs) (hb : Below w.heap.size w w') : w'.ownsRow base e size v n xs :=
  own_same h (SameBut.of_below (M := fun _ => False) hb (Nat.le_refl _)) (fun _ _ h => h)

/-- The spots among the first k inches. -/
def spU (x : Book) (i p k : Nat) : List Int := ((List.range k).filter fun t => decide (ansOf (gw x.planks i) (gs x.parts p) t = 2)).map fun (t : Nat) => (t : Int)
theorem spU_succ (x : Book) (i p k : Nat) : spU x i p (k + 1) = spU x i p k ++ (if ansOf (gw x.planks i) (gs x.parts p) k = 2 then [(k : Int)] else []) := by
  unfold spU
  rw [List.range_succ, List.filter_append, List.map_append]
  by_cases h : ansOf (gw x.planks i) (gs x.parts p) k = 2 <;> simp [h]
theorem spU_len (x : Book) (i p k : Nat) : (spU x i p k).length ≤ k := by
  unfold spU; rw [List.length_map]
  have := List.length_filter_le (fun t => decide (ansOf (gw x.planks i) (gs x.parts p) t = 2)) (List.range k)
  rwa [List.length_range] at this
theorem spU_i64 {x : Book} {i p k j : Nat} (hk : k ≤ 1000) (h : j < (spU x i p k).length) : I64 (gi (spU x i p k) j) := by
  rw [gi_eq h]
  have := List.getElem_mem h
  unfold spU at this
  rw [List.mem_map] at this
  obtain ⟨t, ht, e⟩ := this
  rw [List.mem_filter, List.mem_range] at ht
  unfold I64
  unfold spU
  rw [← e]
  omega

attribute [local go_sem ↓] append_alias

set_option maxRecDepth 100000 in
set_option maxHeartbeats 4000000 in
theorem refspots_any {B : Nat} {pa sa : Option Addr} {pn pc sn sc i p : Nat} {x : Book} {w : World} (hB : B ≤ w.heap.size) (hx : BookAt B w pa pn sa sn x) (hb : bookOk x = true) (hi : i < pn) (hp : p < sn) :
    Calls Try.prog 70 #[.agg #[.slice pa pn pc, .slice sa sn sc], .int .i64 i, .int .i64 p] w fun e w' => ∃ a m c, e = .returned (.slice a m c) ∧ IntsAt w'.heap.size w' a m (spotsL x i p) ∧ Below w.heap.size w w' := by
  have hxi : i < x.planks.length := by rw [hx.planks.len]; exact hi
  have hxp : p < x.parts.length := by rw [hx.parts.len]; exact hp
  obtain ⟨N, hN⟩ : ∃ N, N = many (gw x.planks i).long (gs x.parts p).long := ⟨_, rfl⟩
  have hsp : Hid (spotsL x i p = spU x i p N) := Lib.hid (by rw [spots_good hb hxi hxp, hN]; rfl)
  have hNl : Hid (∀ k : Nat, k ≤ N → liesB x i p k = decide (k < N)) := Lib.hid (fun k hk => by
    rw [lies_good hb hxi hxp, hN, decide_eq_decide]
    unfold many; omega)
  have hNt : Hid (∀ k : Nat, k < N → (k : Int) ≤ (gw x.planks i).long - (gs x.parts p).long) := Lib.hid (fun k hk => by rw [hN] at hk; unfold many at hk; omega)
  have hN16 : N ≤ 16 := by
    have h1 := (good_of hb).wood i hxi
    have h2 := (good_of hb).shape p hxp
    rw [hN]; unfold many; omega
  have hra : Hid (∀ k, refAns (gw x.planks i) (gs x.parts p) k = ansOf (gw x.planks i) (gs x.parts p) k) := Lib.hid (fun k => refAns_eq (fun j hj => (good_of hb).knot i hxi j hj))
  clear hN
  obtain ⟨W0, hW0⟩ : ∃ W0, W0 = (w.alloc (.cells #[.slice pa pn pc, .slice sa sn sc] 25)).alloc (.cells #[] 3) := ⟨_, rfl⟩
  have hb0 : Below w.heap.size w W0 := by rw [hW0]; exact ((Below.refl _ _).alloc (Nat.le_refl _) _).alloc (by simp) _
  have hk0 : Blk W0 w.heap.size #[.slice pa pn pc, .slice sa sn sc] := by rw [hW0]; exact (Blk.new w _ _).alloc _
  have hz0 : W0.heap.size = w.heap.size + 2 := by rw [hW0]; simp
  have ho0 : W0.ownsRow (w.heap.size + 1) 3 1 (.slice (some ⟨w.heap.size + 1, 0, none⟩) 0 0) 0 [] := by
    rw [hW0]
    have := World.ownsRow_lit (base := w.heap.size + 1) (e := 3) (size := 1) (w.alloc (.cells #[.slice pa pn pc, .slice sa sn sc] 25)) #[] 0 (by simp) (by decide) rfl
    rw [World.size_alloc] at this
    exact this
  have hx0 := Lib.hid (hx.keep (w' := W0) (Nat.le_refl _) (fun b o h => bcells hb0 b o (by omega)))
  have hb' := Lib.hid hb
  have l0 : w.heap.size + 1 < W0.heap.size := by omega
  clear hx hb hz0
  go_enter Try.func70, Try.ntmps70
  replace hW0 := hW0.symm
  go_wp2_with (fail)
  clear hW0
  go_loopw [7, 8] (fun l v wr => ∃ k : Nat, k ≤ N ∧ v = .int .i64 k ∧ wr.ownsRow (w.heap.size + 1) 3 1 l (spU x i p k).length ((spU x i p k).map intV) ∧ SameBut (fun b => w.heap.size + 1 ≤ b) W0 wr) (fun _ v _ => N - (intOf v).toNat)
  case atStart => exact ⟨0, by omega, rfl, ho0, SameBut.refl _ _⟩
  case round =>
    obtain ⟨k, hk, rfl, hown, hs⟩ := hrel
    obtain ⟨va, vn, vc, hv⟩ := own_slice hown
    subst hv
    have hkr := hk0.same hs (by omega)
    have hzr := hs.size
    have q0 : wr.cell? ⟨w.heap.size, 0, none⟩ = some (.slice pa pn pc) := hkr.cell
    have q1 : wr.cell? ⟨w.heap.size, 1, none⟩ = some (.slice sa sn sc) := hkr.cell
    have hxr := Lib.hid (hx0.out.keep (w' := wr) (Nat.le_refl _) (fun b o h => hs.cell (by omega) (by omega)))
    have hbwr : Below w.heap.size w wr := hb0.trans (hs.toBelow (by omega) (fun b h => by omega))
    have hl := hNl.out k hk
    by_cases hlt : k < N
    · rw [decide_eq_true hlt] at hl
      have hl' := Lib.hid hl
      clear hl
      go_wp2_with (fail)
      refine (lies_any (B := B) (x := x) (t := k) (by omega) hxr.out hi hp).mono ?_
      rintro e w5 ⟨rfl, hb5⟩
      rw [hl'.out]
      have hs5 := hs.below hb5
      have hown5 := own_below hown hb5
      have hk5 := hkr.below hb5 hkr.lt
      have hz5 := hb5.size
      have hx5 := Lib.hid (hxr.out.keep (w' := w5) (Nat.le_refl _) (fun b o h => bcells hb5 b o (by omega)))
      clear hb5 hown hs hkr hxr q0 q1 hbwr
      have q0 : w5.cell? ⟨w.heap.size, 0, none⟩ = some (.slice pa pn pc) := hk5.cell
      have q1 : w5.cell? ⟨w.heap.size, 1, none⟩ = some (.slice sa sn sc) := hk5.cell
      go_wp2_with (fail)
      refine (refcan_any (B := B) (t := k) (by omega) hx5.out hb'.out hi hp (hNt.out k hlt)).mono ?_
      rintro e w6 ⟨rfl, hb6⟩
      rw [hra.out]
      have hs6 := hs5.below hb6
      have hown6 := own_below hown5 hb6
      have hz6 := hb6.size
      have hsu := spU_succ x i p k
      obtain ⟨A, hA⟩ : ∃ A, A = ansOf (gw x.planks i) (gs x.parts p) k := ⟨_, rfl⟩
      rw [← hA] at hsu ⊢
      clear hA hb6 hown5 hs5 hk5 hx5 q0 q1
      by_cases h2 : A = 2
      · rw [if_pos h2] at hsu
        have h2' : (A == 2) = true := by simp [h2]
        have hsl := spU_len x i p k
        obtain ⟨v', w7, hap, hown7, hs7⟩ := grow_int (k : Int) hown6 (by omega) (by omega)
        rw [← hsu] at hown7
        have hown7' := Lib.hid hown7
        clear hown7 hsu h2 hown6
        go_wp2_with (fail)
        go_roundw
        case rel => exact ⟨k + 1, by omega, by go_num, hown7'.out, hs6.trans hs7⟩
        case measure => simp [intOf]; omega
      · rw [if_neg h2, List.append_nil] at hsu
        have h2' : (A == 2) = false := by simp [h2]
        have hown7' : Hid (w6.ownsRow (w.heap.size + 1) 3 1 (.slice va vn vc) (spU x i p (k + 1)).length ((spU x i p (k + 1)).map intV)) := Lib.hid (by rw [hsu]; exact hown6)
        clear hsu h2 hown6
        go_wp2_with (fail)
        go_roundw
        case rel => exact ⟨k + 1, by omega, by go_num, hown7'.out, hs6⟩
        case measure => simp [intOf]; omega
    · obtain rfl : k = N := by omega
      rw [decide_eq_false hlt] at hl
      have hl' := Lib.hid hl
      clear hl
      go_wp2_with (fail)
      refine (lies_any (B := B) (x := x) (t := k) (by omega) hxr.out hi hp).mono ?_
      rintro e w5 ⟨rfl, hb5⟩
      rw [hl'.out]
      have hown5 := own_below hown hb5
      have hbw5 := hbwr.trans (hb5.mono hbwr.size)
      clear hb5 hown
      go_wp2_with (fail)
      go_ret
      obtain ⟨a, m, c, e, hxx⟩ := ints_of_own hown5 (fun j hj => spU_i64 (by omega) hj) (by have := spU_len x i p k; omega)
      cases e
      exact ⟨_, _, _, rfl, by rw [hsp.out]; exact hxx, hbw5⟩
end Go.Proofs.Ytilbkmogmlcpaaa
namespace Go.Proofs.Ytilbkmogmlcpaaa
open Go.RowKit Go.Shelf

theorem asked_ask {x : Book} {i p : Int} : askedE x (numB x.planks.length i && numB x.parts.length p) = askE x i [p] := by
  unfold askedE
  rcases Bool.eq_false_or_eq_true (bookOk x) with hb | hb
  · rw [if_pos hb, ask_one hb]
  · rw [if_neg (by rw [hb]; simp), askE_bad hb]

set_option maxRecDepth 100000 in
set_option maxHeartbeats 4000000 in
theorem refSpots_any {B : Nat} {pa sa : Option Addr} {pn pc sn sc : Nat} {i p : Int} {x : Book} {w : World} (hB : B ≤ w.heap.size) (hx : BookAt B w pa pn sa sn x) :
    Calls Try.prog 21 #[.agg #[.slice pa pn pc, .slice sa sn sc], .int .i64 i, .int .i64 p] w fun e w' => ∃ v, e = .returned (.tuple #[v, .int .i64 (askE x i [p])]) ∧ IntsV w'.heap.size w' v (spotsL x i p) ∧ Below w.heap.size w w' := by
  have hpn := Lib.hid hx.planks.len
  have hsn := Lib.hid hx.parts.len
  have hps := hx.planks.small
  have hss := hx.parts.small
  obtain ⟨W0, hW0⟩ : ∃ W0, W0 = w.alloc (.cells #[.slice pa pn pc, .slice sa sn sc] 25) := ⟨_, rfl⟩
  have hb0 : Below w.heap.size w W0 := by rw [hW0]; exact (Below.refl _ _).alloc (Nat.le_refl _) _
  have hk0 : Blk W0 w.heap.size #[.slice pa pn pc, .slice sa sn sc] := by rw [hW0]; exact Blk.new w _ _
  have l0 : w.heap.size < W0.heap.size := hk0.lt
  have hx0 := Lib.hid (hx.keep (w' := W0) (Nat.le_refl _) (fun b o h => bcells hb0 b o (by omega)))
  clear hx
  obtain ⟨b1, hb1⟩ : ∃ b1, numB pn i = b1 := ⟨_, rfl⟩
  obtain ⟨b2, hb2⟩ : ∃ b2, numB sn p = b2 := ⟨_, rfl⟩
  obtain ⟨E, hE⟩ : ∃ E, E = askE x i [p] := ⟨_, rfl⟩
  rw [← hE]
  have hE2 : Hid (E = askedE x (b1 && b2)) := Lib.hid (by rw [hE, ← asked_ask, hpn.out, hsn.out, hb1, hb2])
  have hb1' := Lib.hid hb1
  have hb2' := Lib.hid hb2
  have hE' := Lib.hid hE
  clear hb1 hb2 hE
  go_enter Try.func21, Try.ntmps21
  replace hW0 := hW0.symm
  go_upto_region 1 with fail
  clear hW0
  go_cut [8] (fun s wx => s = .int .i64 E ∧ Below W0.heap.size W0 wx)
  case first =>
    have hO := open_wide
    have hF := hO.fn
    have hd := hO.depth
    have hS0 : SameBut (fun _ => False) W0 W0.drew := (SameBut.refl _ _).drew
    have hread : ∀ w', SameBut (fun _ => False) W0 w' → w'.cell? ⟨w.heap.size, 0, none⟩ = some (.slice pa pn pc) ∧ w'.cell? ⟨w.heap.size, 1, none⟩ = some (.slice sa sn sc) := fun w' h =>
      ⟨(hk0.same h (fun e => e)).cell, (hk0.same h (fun e => e)).cell⟩
    cases b1 with
    | false =>
      refine region_planW (fun w' => SameBut (fun _ => False) W0 w') [(0, true), (1, true), (2, true), (3, false), (4, true), (5, true), (6, true), (7, true), (8, true), (9, false), (10, true)] (by kernel_rfl) (by kernel_rfl) (by kernel_rfl) (by decide) (by kernel_rfl) ?_
      iterate 3
        (refine plan_take ?_ rfl hS0 (by rfl) ?_ ?_
         rotate_left
         · intro w' hw'
           obtain ⟨q1, q2⟩ := hread w' hw'
           go_simp
           with_reducible rfl
         simp only [Act.put, List.setIfInBounds_toArray, List.set_cons_zero, List.set_cons_succ])
      refine plan_one rfl (by rfl) (fun K hK => ?_)
      go_simp
      refine (hO.calls (isPlank_any hps)).mono ?_
      rintro e w5 ⟨rfl, hb5⟩
      rw [hb1'.out]
      have hS5 : SameBut (fun _ => False) W0 w5 := hS0.below hb5
      refine hK _ _ hS5 ?_
      clear hK K hb5
      iterate 1
        (refine plan_take ?_ rfl hS5 (by rfl) ?_ ?_
         rotate_left
         · intro w' hw'
           go_simp
           with_reducible rfl
         simp only [Act.put, List.setIfInBounds_toArray, List.set_cons_zero, List.set_cons_succ])
      iterate 3
        (refine plan_skip rfl hS5 (by rfl) ?_
         simp only [Act.put, List.setIfInBounds_toArray, List.set_cons_zero, List.set_cons_succ])
      iterate 1
        (refine plan_take ?_ rfl hS5 (by rfl) ?_ ?_
         rotate_left
         · intro w' hw'
           go_simp
           with_reducible rfl
         simp only [Act.put, List.setIfInBounds_toArray, List.set_cons_zero, List.set_cons_succ])
      refine plan_one rfl (by rfl) (fun K hK => ?_)
      go_simp
      refine (hO.calls (asked_any (B := B) (ok := false) (by have := hS5.size; omega) (hx0.out.keep (Nat.le_refl _) (fun b o h => hS5.cell (by omega) (fun e => e))))).mono ?_
      rintro e w6 ⟨rfl, hb6⟩
      have hS6 : SameBut (fun _ => False) W0 w6 := hS5.below hb6
      refine hK _ _ hS6 ?_
      clear hK K hb6
      iterate 1
        (refine plan_take ?_ rfl hS6 (by rfl) ?_ ?_
         rotate_left
         · intro w' hw'
           go_simp
           with_reducible rfl
         simp only [Act.put, List.setIfInBounds_toArray, List.set_cons_zero, List.set_cons_succ])
      unfold planW okN
      go_wp2_with fail
      go_meet
      exact ⟨by rw [hE2.out]; rfl, hS6.toBelow (Nat.le_refl _) (fun _ h => h.elim)⟩
    | true =>
      refine region_planW (fun w' => SameBut (fun _ => False) W0 w') [(0, true), (1, true), (2, true), (3, false), (4, true), (5, true), (6, true), (7, false), (8, true), (9, false), (10, true)] (by kernel_rfl) (by kernel_rfl) (by kernel_rfl) (by decide) (by kernel_rfl) ?_
      iterate 3
        (refine plan_take ?_ rfl hS0 (by rfl) ?_ ?_
         rotate_left
         · intro w' hw'
           obtain ⟨q1, q2⟩ := hread w' hw'
           go_simp
           with_reducible rfl
         simp only [Act.put, List.setIfInBounds_toArray, List.set_cons_zero, List.set_cons_succ])
      refine plan_one rfl (by rfl) (fun K hK => ?_)
      go_simp
      refine (hO.calls (isPlank_any hps)).mono ?_
      rintro e w5 ⟨rfl, hb5⟩
      rw [hb1'.out]
      have hS5 : SameBut (fun _ => False) W0 w5 := hS0.below hb5
      refine hK _ _ hS5 ?_
      clear hK K hb5
      iterate 3
        (refine plan_take ?_ rfl hS5 (by rfl) ?_ ?_
         rotate_left
         · intro w' hw'
           obtain ⟨q1, q2⟩ := hread w' hw'
           go_simp
           with_reducible rfl
         simp only [Act.put, List.setIfInBounds_toArray, List.set_cons_zero, List.set_cons_succ])
      refine plan_one rfl (by rfl) (fun K hK => ?_)
      go_simp
      refine (hO.calls (isPart_any hss)).mono ?_
      rintro e w6 ⟨rfl, hb6⟩
      rw [hb2'.out]
      have hS6 : SameBut (fun _ => False) W0 w6 := hS5.below hb6
      refine hK _ _ hS6 ?_
      clear hK K hb6
      iterate 1
        (refine plan_take ?_ rfl hS6 (by rfl) ?_ ?_
         rotate_left
         · intro w' hw'
           go_simp
           with_reducible rfl
         simp only [Act.put, List.setIfInBounds_toArray, List.set_cons_zero, List.set_cons_succ])
      refine plan_one rfl (by rfl) (fun K hK => ?_)
      go_simp
      refine (hO.calls (asked_any (B := B) (ok := b2) (by have := hS6.size; omega) (hx0.out.keep (Nat.le_refl _) (fun b o h => hS6.cell (by omega) (fun e => e))))).mono ?_
      rintro e w7 ⟨rfl, hb7⟩
      have hS7 : SameBut (fun _ => False) W0 w7 := hS6.below hb7
      refine hK _ _ hS7 ?_
      clear hK K hb7
      iterate 1
        (refine plan_take ?_ rfl hS7 (by rfl) ?_ ?_
         rotate_left
         · intro w' hw'
           go_simp
           with_reducible rfl
         simp only [Act.put, List.setIfInBounds_toArray, List.set_cons_zero, List.set_cons_succ])
      unfold planW okN
      go_wp2_with fail
      go_meet
      exact ⟨by rw [hE2.out]; rfl, hS7.toBelow (Nat.le_refl _) (fun _ h => h.elim)⟩
  case rest =>
  obtain ⟨rfl, hb4⟩ := hcut
  obtain ⟨w1, hw1⟩ : ∃ w1, w1 = wc := ⟨_, rfl⟩
  rw [← hw1] at hb4 ⊢
  clear hw1 hb1' hb2' hE2
  have hbw : Below w.heap.size w w1 := hb0.trans (hb4.mono (by omega))
  replace hk0 := hk0.below hb4 hk0.lt
  replace hx0 := Lib.hid (hx0.out.keep (w' := w1) (Nat.le_refl _) (fun b o h => bcells hb4 b o (by omega)))
  have hBw : B ≤ w1.heap.size := by have := hbw.size; omega
  clear hb4 hb0 l0
  have q0 : w1.cell? ⟨w.heap.size, 0, none⟩ = some (.slice pa pn pc) := hk0.cell
  have q1 : w1.cell? ⟨w.heap.size, 1, none⟩ = some (.slice sa sn sc) := hk0.cell
  by_cases h0 : E = 0
  · have hee : (E != 0) = false := by simp [h0]
    obtain ⟨hb, hi0, hi1, hpp⟩ := askE_zero (hE'.out.symm.trans h0)
    have hp1 := hpp 0 (by simp)
    have hpe : gi [p] 0 = p := rfl
    rw [hpe] at hp1
    obtain ⟨i', rfl⟩ := Int.eq_ofNat_of_zero_le hi0
    obtain ⟨p', rfl⟩ := Int.eq_ofNat_of_zero_le hp1.1
    have h0' := Lib.hid h0
    have hi2 : i' < pn := by rw [← hpn.out]; omega
    have hp2 : p' < sn := by rw [← hsn.out]; omega
    clear h0 hpe hi1 hp1
    go_wp2_with (fail)
    refine (refspots_any (B := B) hBw hx0.out hb hi2 hp2).mono ?_
    rintro e w2 ⟨ra, rn, rc, rfl, hl, hb2⟩
    go_wp2_with (fail)
    go_ret2
    exact ⟨_, by rw [h0'.out]; rfl, ⟨ra, rn, rc, rfl, hl⟩, hbw.trans (hb2.mono hbw.size)⟩
  · have hee : (E != 0) = true := by simp [h0]
    have hL : Hid (spotsL x i p = []) := Lib.hid (by unfold spotsL; rw [if_neg (by rw [← hE'.out]; exact h0)])
    clear h0
    go_wp2_with (fail)
    go_ret2
    exact ⟨_, rfl, by rw [hL.out]; exact ⟨none, 0, 0, rfl, rfl, by omega, fun i hi => by omega⟩, hbw⟩
end Go.Proofs.Ytilbkmogmlcpaaa
namespace Go.Proofs.Ytilbkmogmlcpaaa
open Go.RowKit Go.Shelf

set_option maxRecDepth 100000 in
set_option maxHeartbeats 4000000 in
theorem spots_law {B : Nat} {pa sa : Option Addr} {pn pc sn sc : Nat} {x : Book} {n0 n1 n2 : Int} {w : World} (hB : B ≤ w.heap.size) (hx : BookAt B w pa pn sa sn x) (hi : I64 n1) :
    Calls Try.prog 3 #[.agg #[.slice pa pn pc, .slice sa sn sc], .agg #[.int .i64 n0, .int .i64 n1, .int .i64 n2]] w fun e w' => e = .returned (.bool true) ∧ Below w.heap.size w w' := by
  obtain ⟨W0, hW0⟩ : ∃ W0, W0 = (w.alloc (.cells #[.slice pa pn pc, .slice sa sn sc] 25)).alloc (.cells #[.int .i64 n0, .int .i64 n1, .int .i64 n2] 26) := ⟨_, rfl⟩
  have hb0 : Below w.heap.size w W0 := by rw [hW0]; exact ((Below.refl _ _).alloc (Nat.le_refl _) _).alloc (by simp) _
  have hk : Blk W0 w.heap.size #[.slice pa pn pc, .slice sa sn sc] := by rw [hW0]; exact (Blk.new w _ _).alloc _
  have hn : Blk W0 (w.heap.size + 1) #[.int .i64 n0, .int .i64 n1, .int .i64 n2] := by
    rw [hW0]
    have := Blk.new (w.alloc (.cells #[.slice pa pn pc, .slice sa sn sc] 25)) #[.int .i64 n0, .int .i64 n1, .int .i64 n2] 26
    rw [World.size_alloc] at this
    exact this
  have l0 : w.heap.size + 1 < W0.heap.size := hn.lt
  have hx0 := Lib.hid (hx.keep (w' := W0) (Nat.le_refl _) (fun b o h => bcells hb0 b o (by omega)))
  clear hx
  have hBw : B ≤ W0.heap.size := by omega
  have q0 : W0.cell? ⟨w.heap.size, 0, none⟩ = some (.slice pa pn pc) := hk.cell
  have q1 : W0.cell? ⟨w.heap.size, 1, none⟩ = some (.slice sa sn sc) := hk.cell
  have p0 : W0.cell? ⟨w.heap.size + 1, 0, none⟩ = some (.int .i64 n0) := hn.cell
  have p1 : W0.cell? ⟨w.heap.size + 1, 1, none⟩ = some (.int .i64 n1) := hn.cell
  have p2 : W0.cell? ⟨w.heap.size + 1, 2, none⟩ = some (.int .i64 n2) := hn.cell
  go_enter Try.func3, Try.ntmps3
  replace hW0 := hW0.symm
  go_wp2_with (fail)
  clear hW0
  refine (Can_any (B := B) hBw hx0.out hi).mono ?_
  rintro e w1 ⟨rfl, hb1⟩
  obtain ⟨K, hK⟩ : ∃ K, K = (canR x n0 n1 n2).1 := ⟨_, rfl⟩
  obtain ⟨E, hE⟩ : ∃ E, E = (canR x n0 n1 n2).2 := ⟨_, rfl⟩
  rw [← hK, ← hE]
  have hK' := Lib.hid hK
  have hE' := Lib.hid hE
  clear hK hE q0 q1 p0 p1 p2
  replace hk := hk.below hb1 hk.lt
  replace hn := hn.below hb1 hn.lt
  replace hx0 := Lib.hid (hx0.out.keep (w' := w1) (Nat.le_refl _) (fun b o h => bcells hb1 b o (by omega)))
  replace hBw : B ≤ w1.heap.size := Nat.le_trans hBw hb1.size
  have hbw1 : Below w.heap.size w w1 := hb0.trans (hb1.mono hb0.size)
  clear hb0 hb1
  have q0 : w1.cell? ⟨w.heap.size, 0, none⟩ = some (.slice pa pn pc) := hk.cell
  have q1 : w1.cell? ⟨w.heap.size, 1, none⟩ = some (.slice sa sn sc) := hk.cell
  have p0 : w1.cell? ⟨w.heap.size + 1, 0, none⟩ = some (.int .i64 n0) := hn.cell
  have p1 : w1.cell? ⟨w.heap.size + 1, 1, none⟩ = some (.int .i64 n1) := hn.cell
  have p2 : w1.cell? ⟨w.heap.size + 1, 2, none⟩ = some (.int .i64 n2) := hn.cell
  go_wp2_with (fail)
  refine (refCan_any (B := B) hBw hx0.out).mono ?_
  rintro e w2 ⟨rfl, hb2⟩
  rw [← hK'.out, ← hE'.out]
  clear q0 q1 p0 p1 p2
  replace hk := hk.below hb2 hk.lt
  replace hn := hn.below hb2 hn.lt
  replace hx0 := Lib.hid (hx0.out.keep (w' := w2) (Nat.le_refl _) (fun b o h => bcells hb2 b o (by omega)))
  replace hBw : B ≤ w2.heap.size := Nat.le_trans hBw hb2.size
  have hbw2 : Below w.heap.size w w2 := hbw1.trans (hb2.mono hbw1.size)
  clear hbw1 hb2
  go_upto_region 3 with fail
  go_cut [47] (fun s wx => s = .bool false ∧ Below w2.heap.size w2 wx)
  case first =>
    have hO := open_wide
    have hF := hO.fn
    have hd := hO.depth
    have hS0 : SameBut (fun _ => False) w2 w2.drew := (SameBut.refl _ _).drew
    have hread : ∀ w', SameBut (fun _ => False) w2 w' → w'.cell? ⟨w.heap.size, 0, none⟩ = some (.slice pa pn pc) ∧ w'.cell? ⟨w.heap.size, 1, none⟩ = some (.slice sa sn sc) := fun w' h =>
      ⟨(hk.same h (fun e => e)).cell, (hk.same h (fun e => e)).cell⟩
    refine region_planW (fun w' => SameBut (fun _ => False) w2 w') [(0, true), (1, true), (2, true), (3, true), (4, true), (5, true), (6, true), (7, true), (8, true), (9, true), (11, true), (10, false), (12, false), (13, true), (14, true)] (by kernel_rfl) (by kernel_rfl) (by kernel_rfl) (by decide) (by kernel_rfl) ?_
    iterate 11
      (refine plan_take ?_ rfl hS0 (by rfl) ?_ ?_
       rotate_left
       · intro w' hw'
         obtain ⟨q1, q2⟩ := hread w' hw'
         go_simp
         with_reducible rfl
       simp only [Act.put, List.setIfInBounds_toArray, List.set_cons_zero, List.set_cons_succ])
    refine plan_one rfl (by rfl) (fun K hK => ?_)
    go_simp
    refine (hO.calls (Check_any (B := B) (w := w2.drew) hBw (hx0.out.keep (Nat.le_refl _) (fun b o h => hS0.cell (by omega) (fun e => e))))).mono ?_
    rintro e w5 ⟨rfl, hb5⟩
    have hS5 : SameBut (fun _ => False) w2 w5 := hS0.below hb5
    refine hK _ _ hS5 ?_
    clear hK K hb5
    refine plan_one rfl (by rfl) (fun K hK => ?_)
    go_simp
    refine (hO.calls (refCheck_any (B := B) (by have := hS5.size; omega) (hx0.out.keep (Nat.le_refl _) (fun b o h => hS5.cell (by omega) (fun e => e))))).mono ?_
    rintro e w6 ⟨rfl, hb6⟩
    have hS6 : SameBut (fun _ => False) w2 w6 := hS5.below hb6
    refine hK _ _ hS6 ?_
    clear hK K hb6
    iterate 2
      (refine plan_take ?_ rfl hS6 (by rfl) ?_ ?_
       rotate_left
       · intro w' hw'
         go_simp
         with_reducible rfl
       simp only [Act.put, List.setIfInBounds_toArray, List.set_cons_zero, List.set_cons_succ])
    unfold planW okN
    go_wp2_with fail
    go_meet
    exact ⟨rfl, hS6.toBelow (Nat.le_refl _) (fun _ h => h.elim)⟩
  case rest =>
  obtain ⟨rfl, hb3⟩ := hcut
  obtain ⟨w3, hw3⟩ : ∃ w3, w3 = wc := ⟨_, rfl⟩
  rw [← hw3] at hb3 ⊢
  clear hw3 hK' hE'
  replace hk := hk.below hb3 hk.lt
  replace hn := hn.below hb3 hn.lt
  replace hx0 := Lib.hid (hx0.out.keep (w' := w3) (Nat.le_refl _) (fun b o h => bcells hb3 b o (by omega)))
  replace hBw : B ≤ w3.heap.size := Nat.le_trans hBw hb3.size
  have hbw3 : Below w.heap.size w w3 := hbw2.trans (hb3.mono hbw2.size)
  clear hbw2 hb3
  have q0 : w3.cell? ⟨w.heap.size, 0, none⟩ = some (.slice pa pn pc) := hk.cell
  have q1 : w3.cell? ⟨w.heap.size, 1, none⟩ = some (.slice sa sn sc) := hk.cell
  have p0 : w3.cell? ⟨w.heap.size + 1, 0, none⟩ = some (.int .i64 n0) := hn.cell
  have p1 : w3.cell? ⟨w.heap.size + 1, 1, none⟩ = some (.int .i64 n1) := hn.cell
  go_wp2_with (fail)
  refine (Spots_any (B := B) hBw hx0.out hi).mono ?_
  rintro e w4 ⟨_, rfl, ⟨va, vn, vc, rfl, hv⟩, hb4⟩
  obtain ⟨A, hA⟩ : ∃ A, A = askE x n0 [n1] := ⟨_, rfl⟩
  rw [← hA]
  have hA' := Lib.hid hA
  clear hA q0 q1 p0 p1
  replace hk := hk.below hb4 hk.lt
  replace hn := hn.below hb4 hn.lt
  replace hx0 := Lib.hid (hx0.out.keep (w' := w4) (Nat.le_refl _) (fun b o h => bcells hb4 b o (by omega)))
  replace hBw : B ≤ w4.heap.size := Nat.le_trans hBw hb4.size
  have hbw4 : Below w.heap.size w w4 := hbw3.trans (hb4.mono hbw3.size)
  have hv' := Lib.hid hv
  clear hbw3 hb4 hv
  have q0 : w4.cell? ⟨w.heap.size, 0, none⟩ = some (.slice pa pn pc) := hk.cell
  have q1 : w4.cell? ⟨w.heap.size, 1, none⟩ = some (.slice sa sn sc) := hk.cell
  have p0 : w4.cell? ⟨w.heap.size + 1, 0, none⟩ = some (.int .i64 n0) := hn.cell
  have p1 : w4.cell? ⟨w.heap.size + 1, 1, none⟩ = some (.int .i64 n1) := hn.cell
  go_wp2_with (fail)
  refine (refSpots_any (B := B) hBw hx0.out).mono ?_
  rintro e w5 ⟨_, rfl, ⟨ra, rn, rc, rfl, hr⟩, hb5⟩
  rw [← hA'.out]
  have hv5 := Lib.hid (hv'.out.keep (w' := w5) (Nat.le_refl _) (fun b o h => bcells hb5 b o h))
  have hbw5 : Below w.heap.size w w5 := hbw4.trans (hb5.mono hbw4.size)
  have hr5 := Lib.hid hr
  clear hbw4 hb5 hr hv' q0 q1 p0 p1
  go_wp2_with (fail)
  refine (Equal_any hv5.out hr5.out).mono ?_
  rintro e w6 ⟨rfl, hq6⟩
  rw [show decide (spotsL x n0 n1 = spotsL x n0 n1) = true from decide_eq_true rfl]
  have hbw6 : Below w.heap.size w w6 := hbw5.trans ((hq6.below _).mono hbw5.size)
  clear hq6
  go_wp2_with (fail)
  refine (sawn_any _).mono ?_
  rintro e w7 ⟨rfl, hb7⟩
  go_wp2_with (fail)
  go_ret
  exact ⟨rfl, hbw6.trans (hb7.mono hbw6.size)⟩
end Go.Proofs.Ytilbkmogmlcpaaa
