/- Walks: the specification's check of a book. Plain mathematics: the specification's answers, said by joints and knots. Walks: the specification's small questions: is it a number, does a part lie at an inch, which error. -/
import Derived.Test.YtbbolibkheelmaaPfs08
import Derived.Test.YtbbolibkheelmaaGa08
import Derived.Deep.DeepCutAuto
import Derived.Test.YtbbolibkheelmaaPfs04
namespace Go.Proofs.Ytbbolibkheelmaa
open Go.RowKit Go.Shelf

theorem Ordered_any (lo hi a b : Int) (w : World) :
    Calls Try.prog 68 #[.agg #[.int .i64 lo, .int .i64 hi], .int .i64 a, .int .i64 b] w fun e w' => e = .returned (.bool (decide (a ≤ lo) && decide (lo ≤ hi) && decide (hi ≤ b))) ∧ Below w.heap.size w w' := by
  go_enter Try.func68, Try.ntmps68
  go_wp2
  all_goals
    go_ret
    refine ⟨ret_bool ?_, (Below.refl _ _).alloc (Nat.le_refl _) _⟩
    first | (simp_all; done) | (simp_all; intros; omega)
theorem spanOk_eq {L : Int} {k : Int × Int} : spanOk L k = ((decide (0 ≤ k.1) && decide (k.1 ≤ k.2) && decide (k.2 ≤ L - 1)) && decide (k.2 - k.1 ≤ 6)) := by
  unfold spanOk withinB
  rw [Bool.eq_iff_iff]
  simp only [Bool.and_eq_true, decide_eq_true_eq, Bool.not_eq_true', decide_eq_false_iff_not]
  omega
theorem growsB_eq {xs : List Int} {m : Int} : growsB xs m = ((allB xs.length fun i => withinB (gi xs i) 0 (m - 1)) && incB xs) := by
  rw [Bool.eq_iff_iff, Bool.and_eq_true]
  constructor
  · intro h
    unfold growsB at h
    rw [allB_iff] at h
    have key : ∀ k, k < xs.length → 0 ≤ gi xs k := by
      intro k
      induction k with
      | zero =>
        intro hk
        have := h 0 hk
        simp only [lastI, if_true, Bool.and_eq_true, decide_eq_true_eq] at this
        omega
      | succ k ih =>
        intro hk
        have := h (k + 1) hk
        unfold lastI at this
        rw [if_neg (by omega), show k + 1 - 1 = k by omega] at this
        simp only [Bool.and_eq_true, decide_eq_true_eq] at this
        have := ih (by omega)
        omega
    constructor
    · rw [allB_iff]
      intro k hk
      have h1 := h k hk
      simp only [Bool.and_eq_true, decide_eq_true_eq] at h1
      have := key k hk
      unfold withinB
      simp only [Bool.and_eq_true, decide_eq_true_eq]
      omega
    · unfold incB
      rw [allB_iff]
      intro k hk
      have := h (k + 1) (by omega)
      unfold lastI at this
      rw [if_neg (by omega), show k + 1 - 1 = k by omega] at this
      simp only [Bool.and_eq_true, decide_eq_true_eq] at this
      simpa using this.1
  · rintro ⟨h1, h2⟩
    refine growsB_of h2 (fun k hk => ?_)
    rw [allB_iff] at h1
    have := h1 k hk
    unfold withinB at this
    simp only [Bool.and_eq_true, decide_eq_true_eq] at this
    omega
theorem shapeOk_eq {x : Shape} : shapeOk x = ((withinB x.long 1 12 && decide (x.joints.length ≤ 3)) && growsB x.joints x.long) := by
  unfold shapeOk
  rw [growsB_eq, Bool.and_assoc]

theorem allB_up {k n : Nat} {f : Nat → Bool} (hk : k ≤ n) (h : allB k f = false) : allB n f = false := by
  rw [← Bool.not_eq_true, allB_iff] at h ⊢
  exact fun h' => h (fun j hj => h' j (by omega))
set_option maxRecDepth 100000 in
set_option maxHeartbeats 4000000 in
theorem refCheck_any {B : Nat} {pa sa : Option Addr} {pn pc sn sc : Nat} {x : Book} {w : World} (hB : B ≤ w.heap.size) (hx : BookAt B w pa pn sa sn x) :
    Calls Try.prog 19 #[.agg #[.slice pa pn pc, .slice sa sn sc]] w fun e w' => e = .returned (.int .i64 (errOf (bookOk x))) ∧ Below w.heap.size w w' := by
  have hpn := Lib.hid hx.planks.len
  have hsn := Lib.hid hx.parts.len
  have hps := hx.planks.small
  have hss := hx.parts.small
  obtain ⟨W0, hW0⟩ : ∃ W0, W0 = w.alloc (.cells #[.slice pa pn pc, .slice sa sn sc] 25) := ⟨_, rfl⟩
  have hb0 : Below w.heap.size w W0 := by rw [hW0]; exact (Below.refl _ _).alloc (Nat.le_refl _) _
  have hk0 : Blk W0 w.heap.size #[.slice pa pn pc, .slice sa sn sc] := by rw [hW0]; exact Blk.new w _ _
  have l0 : w.heap.size < W0.heap.size := hk0.lt
  have hx' := Lib.hid hx
  clear hx
  obtain ⟨R, hR⟩ : ∃ R, R = bookOk x := ⟨_, rfl⟩
  rw [← hR]
  have hR' := Lib.hid hR
  clear hR
  obtain ⟨b1, hb1⟩ : ∃ b1, withinB (pn : Int) 1 3 = b1 := ⟨_, rfl⟩
  obtain ⟨b2, hb2⟩ : ∃ b2, withinB (sn : Int) 1 5 = b2 := ⟨_, rfl⟩
  have hbk : Hid (R = (b1 && b2 && ((allB pn fun i => woodOk (gw x.planks i)) && allB sn fun i => shapeOk (gs x.parts i)))) := Lib.hid (by
    rw [hR'.out, ← hb1, ← hb2]
    unfold bookOk withinB
    rw [hpn.out, hsn.out, Bool.eq_iff_iff]
    simp only [Bool.and_eq_true, decide_eq_true_eq]
    constructor
    · rintro ⟨⟨⟨⟨h1, h2⟩, h3, h4⟩, h5⟩, h6⟩
      exact ⟨⟨⟨by omega, by omega⟩, by omega, by omega⟩, h5, h6⟩
    · rintro ⟨⟨⟨h1, h2⟩, h3, h4⟩, h5, h6⟩
      exact ⟨⟨⟨⟨by omega, by omega⟩, by omega, by omega⟩, h5⟩, h6⟩)
  have hb1' := Lib.hid hb1
  have hb2' := Lib.hid hb2
  clear hb1 hb2
  go_enter Try.func19, Try.ntmps19
  replace hW0 := hW0.symm
  have q0 : W0.cell? ⟨w.heap.size, 0, none⟩ = some (.slice pa pn pc) := hk0.cell
  have q1 : W0.cell? ⟨w.heap.size, 1, none⟩ = some (.slice sa sn sc) := hk0.cell
  go_upto_region 1 with fail
  clear hW0
  go_cut [3] (fun s wx => s = .bool (b1 && b2) ∧ W0 = wx)
  case first =>
    cases b1 <;> cases b2
    all_goals
      go_wp2_with (go_at_call 38; refine (In_any _ _ _ _).mono ?_; rintro e w' ⟨rfl, rfl⟩; first | rw [hb1'.out] | rw [hb2'.out])
      go_meet
      exact ⟨rfl, rfl⟩
  case rest =>
  obtain ⟨rfl, rfl⟩ := hcut
  clear q0 q1
  go_wp2_with (fail)
  obtain ⟨b3, hb3⟩ : ∃ b3, b3 = (b1 && b2) := ⟨_, rfl⟩
  rw [← hb3] at hbk ⊢
  clear hb3 hb1' hb2'
  go_loopw [3, 4] (fun v i wr => ∃ (k : Nat) (r : Bool), k ≤ pn ∧ v = .bool r ∧ i = .int .i64 k ∧ Hid (r = (b3 && allB k fun i => woodOk (gw x.planks i))) ∧ Below W0.heap.size W0 wr) (fun _ i _ => pn - (intOf i).toNat)
  case atStart => exact ⟨0, b3, by omega, rfl, rfl, Lib.hid (by rw [allB, Bool.and_true]), Below.refl _ _⟩
  case round =>
    obtain ⟨k, r, hk, rfl, rfl, hr, hb2⟩ := hrel
    have bk2 := hk0.below hb2 l0
    have q0 : wr.cell? ⟨w.heap.size, 0, none⟩ = some (.slice pa pn pc) := bk2.cell
    have q1 : wr.cell? ⟨w.heap.size, 1, none⟩ = some (.slice sa sn sc) := bk2.cell
    have l2 : w.heap.size < wr.heap.size := Nat.lt_of_lt_of_le l0 hb2.size
    have hbr : Below w.heap.size w wr := hb0.trans (hb2.mono (by omega))
    by_cases hgo : r = true ∧ k < pn
    · obtain ⟨rfl, hlt⟩ := hgo
      obtain ⟨b, o, rfl, hbB, hc⟩ := hx'.out.planks.get _ hlt
      obtain ⟨v, hv, hc1, hc2, hi1⟩ := hc k hlt
      clear hc
      have d1 := (bcells hbr _ (o + k * 2) (by omega)).trans hc1
      have d2 := (bcells hbr _ (o + k * 2 + 1) (by omega)).trans hc2
      obtain ⟨ka, kn, kc, rfl, hks⟩ := hv
      clear hc1 hc2
      obtain ⟨L, hL⟩ : ∃ L, L = (gw x.planks k).long := ⟨_, rfl⟩
      rw [← hL] at d1
      obtain ⟨c0, hc0⟩ : ∃ c0, c0 = (withinB L 1 16 && decide (kn ≤ 3)) := ⟨_, rfl⟩
      have hwk : Hid (woodOk (gw x.planks k) = (c0 && allB kn fun i => spanOk L (gp (gw x.planks k).knots i))) := Lib.hid (by
        unfold woodOk; rw [hks.len, ← hL, ← hc0])
      have hL' := Lib.hid hL
      have hks' := Lib.hid hks
      have hkz := hks.small
      have lb : b < wr.heap.size := by omega
      have dk : decide ((k : Int) < pn) = true := decide_eq_true (by omega)
      obtain ⟨e1, he1⟩ : ∃ e1, withinB L 1 16 = e1 := ⟨_, rfl⟩
      obtain ⟨e2, he2⟩ : ∃ e2, decide ((kn : Int) ≤ 3) = e2 := ⟨_, rfl⟩
      have hc0' : Hid (c0 = (e1 && e2)) := Lib.hid (by rw [hc0, he1, ← he2]; congr 1; rw [decide_eq_decide]; omega)
      have he1' := Lib.hid he1
      clear hL hks hc0 he1 hi1
      go_upto_region 6 with fail
      obtain ⟨wo, hwo⟩ : ∃ wo, wo = wr := ⟨_, rfl⟩
      rw [← hwo] at bk2 q0 q1 l2 hbr d1 d2 lb hb2 ⊢
      clear hwo
      obtain ⟨W2, hW2⟩ : ∃ W2, W2 = wo.alloc (.cells #[.int .i64 L, .slice ka kn kc] 48) := ⟨_, rfl⟩
      have hb3 : Below wo.heap.size wo W2 := by rw [hW2]; exact (Below.refl _ _).alloc (Nat.le_refl _) _
      have hk2 : Blk W2 wo.heap.size #[.int .i64 L, .slice ka kn kc] := by rw [hW2]; exact Blk.new wo _ _
      have l3 : wo.heap.size < W2.heap.size := hk2.lt
      have hb4 : Below w.heap.size w W2 := hbr.trans (hb3.mono (by omega))
      have hb5 : Below W0.heap.size W0 W2 := hb2.trans (hb3.mono hb2.size)
      have hkn := Lib.hid hks'.out.len
      rw [← hW2]
      clear hW2 hb3 d1 d2 lb bk2 q0 q1 hb2 hbr
      have a0 : W2.cell? ⟨wo.heap.size, 0, none⟩ = some (.int .i64 L) := hk2.cell
      have a1 : W2.cell? ⟨wo.heap.size, 1, none⟩ = some (.slice ka kn kc) := hk2.cell
      go_cut [3] (fun s wx => s = .bool c0 ∧ W2 = wx)
      case first =>
        cases e1
        all_goals
          go_wp2_with (go_at_call 38; refine (In_any _ _ _ _).mono ?_; rintro e w' ⟨rfl, rfl⟩; rw [he1'.out])
          go_meet
          exact ⟨by rw [hc0'.out]; rfl, rfl⟩
      case rest =>
      obtain ⟨rfl, rfl⟩ := hcut
      clear a0 a1
      go_wp2_with (fail)
      go_loopw [3, 6] (fun v i wr => ∃ (j : Nat) (r : Bool), j ≤ kn ∧ v = .bool r ∧ i = .int .i64 j ∧ Hid (r = (c0 && allB j fun i => spanOk L (gp (gw x.planks k).knots i))) ∧ Below W2.heap.size W2 wr) (fun _ i _ => kn - (intOf i).toNat)
      case atStart => exact ⟨0, c0, by omega, rfl, rfl, Lib.hid (by rw [allB, Bool.and_true]), Below.refl _ _⟩
      case round =>
        obtain ⟨j, r, hj, rfl, rfl, hrj, hb6⟩ := hrel
        have bk3 := hk2.below hb6 l3
        have a0 : wr.cell? ⟨wo.heap.size, 0, none⟩ = some (.int .i64 L) := bk3.cell
        have a1 : wr.cell? ⟨wo.heap.size, 1, none⟩ = some (.slice ka kn kc) := bk3.cell
        have l4 : wo.heap.size < wr.heap.size := Nat.lt_of_lt_of_le l3 hb6.size
        by_cases hgj : r = true ∧ j < kn
        · obtain ⟨rfl, hjl⟩ := hgj
          have hct : c0 = true ∧ (allB j fun i => spanOk L (gp (gw x.planks k).knots i)) = true := by
            have := hrj.out
            rw [eq_comm, Bool.and_eq_true] at this; exact this
          have hLr : 1 ≤ L ∧ L ≤ 16 ∧ kn ≤ 3 := by
            have h1 := hc0'.out
            rw [hct.1] at h1
            have h2 := he1'.out
            cases e1 with
            | false => simp at h1
            | true =>
              unfold withinB at h2
              simp only [Bool.and_eq_true, decide_eq_true_eq] at h2
              have h3 : e2 = true := by simpa using h1.symm
              rw [h3, decide_eq_true_eq] at he2
              omega
          obtain ⟨lL1, lL2, lL3⟩ := hLr
          have hct' := Lib.hid hct
          clear hct he2
          obtain ⟨kb, ko, rfl, hkB, hkc⟩ := hks'.out.get _ hjl
          obtain ⟨g1, g2, i1, i2⟩ := hkc j hjl
          clear hkc
          have hbw6 : Below w.heap.size w wr := hb4.trans (hb6.mono (by omega))
          have g1' := (bcells hbw6 _ (ko + j * 2) (by omega)).trans g1
          have g2' := (bcells hbw6 _ (ko + j * 2 + 1) (by omega)).trans g2
          clear g1 g2
          obtain ⟨X, hX⟩ : ∃ X, X = (gp (gw x.planks k).knots j).1 := ⟨_, rfl⟩
          obtain ⟨Y, hY⟩ : ∃ Y, Y = (gp (gw x.planks k).knots j).2 := ⟨_, rfl⟩
          rw [← hX] at g1' i1
          rw [← hY] at g2' i2
          obtain ⟨od, hod0⟩ : ∃ od, (decide (0 ≤ X) && decide (X ≤ Y) && decide (Y ≤ L - 1)) = od := ⟨_, rfl⟩
          obtain ⟨s6, hs6⟩ : ∃ s6, decide (Y - X ≤ 6) = s6 := ⟨_, rfl⟩
          have hsp : Hid (spanOk L (gp (gw x.planks k).knots j) = (od && s6)) := Lib.hid (by rw [spanOk_eq, ← hX, ← hY, hod0, hs6])
          have hod := Lib.hid hod0
          have hXY : Hid (od = true → 0 ≤ X ∧ X ≤ Y ∧ Y ≤ L - 1) := Lib.hid (fun h => by
            rw [h] at hod0
            simp only [Bool.and_eq_true, decide_eq_true_eq] at hod0
            omega)
          have e3 : IntKind.i64.wrap (L - 1) = L - 1 := IntWalk.i64_in _ (by omega)
          have lk : kb < wr.heap.size := by omega
          have dj : decide ((j : Int) < kn) = true := decide_eq_true (by omega)
          have hji : (j : Int) < kn := by omega
          have hread0 : ∀ w', SameBut (fun _ => False) wr w' → w'.cell? ⟨wo.heap.size, 0, none⟩ = some (.int .i64 L) ∧ w'.cell? ⟨wo.heap.size, 1, none⟩ = some (.slice (some ⟨kb, ko, none⟩) kn kc) ∧ w'.cell? ⟨kb, ko + j * 2, none⟩ = some (.int .i64 X) ∧ w'.cell? ⟨kb, ko + j * 2 + 1, none⟩ = some (.int .i64 Y) := fun w' h =>
            ⟨(bk3.same h (fun e => e)).cell, (bk3.same h (fun e => e)).cell, (h.cell lk (fun e => e)).trans g1', (h.cell lk (fun e => e)).trans g2'⟩
          have hread' := Lib.hid hread0
          clear hX hY hod0 hread0 i1 i2
          go_upto_region 10 with fail
          have hO := open_wide
          have hF := hO.fn
          have hd := hO.depth
          have hread := hread'.out
          have hS0 : SameBut (fun _ => False) wr wr.drew := (SameBut.refl _ _).drew
          cases od with
          | false =>
              refine region_planW (fun w' => SameBut (fun _ => False) wr w') [(0, true), (1, true), (2, true), (3, true), (4, true), (5, true), (6, true), (7, true), (8, false), (9, true), (10, true), (11, true), (12, true), (13, true), (14, true), (15, true), (16, true), (17, true), (18, true), (19, true), (20, true), (21, true), (22, true), (23, true), (24, true), (25, true)] (by kernel_rfl) (by kernel_rfl) (by kernel_rfl) (by decide) (by kernel_rfl) ?_
              iterate 8
                (refine plan_take ?_ rfl hS0 (by rfl) ?_ ?_
                 rotate_left
                 · intro w' hw'
                   obtain ⟨q1, q2, q3, q4⟩ := hread w' hw'
                   go_simp
                   with_reducible rfl
                 simp only [Act.put, List.setIfInBounds_toArray, List.set_cons_zero, List.set_cons_succ])
              refine plan_one rfl (by rfl) (fun K hK => ?_)
              go_simp
              refine (hO.calls (Ordered_any X Y 0 (L - 1) _)).mono ?_
              rintro e w5 ⟨rfl, hb7⟩
              rw [hod.out]
              have hS5 : SameBut (fun _ => False) wr w5 := hS0.below hb7
              refine hK _ _ hS5 ?_
              clear hK K hb7
              iterate 1
                (refine plan_take ?_ rfl hS5 (by rfl) ?_ ?_
                 rotate_left
                 · intro w' hw'
                   obtain ⟨q1, q2, q3, q4⟩ := hread w' hw'
                   go_simp
                   with_reducible rfl
                 simp only [Act.put, List.setIfInBounds_toArray, List.set_cons_zero, List.set_cons_succ])
              iterate 14
                (refine plan_skip rfl hS5 (by rfl) ?_
                 simp only [Act.put, List.setIfInBounds_toArray, List.set_cons_zero, List.set_cons_succ])
              iterate 2
                (refine plan_take ?_ rfl hS5 (by rfl) ?_ ?_
                 rotate_left
                 · intro w' hw'
                   obtain ⟨q1, q2, q3, q4⟩ := hread w' hw'
                   go_simp
                   with_reducible rfl
                 simp only [Act.put, List.setIfInBounds_toArray, List.set_cons_zero, List.set_cons_succ])
              have hb7 : Below wr.heap.size wr w5 := hS5.toBelow (Nat.le_refl _) (fun _ h => h.elim)
              unfold planW okN
              go_wp2_with (fail)
              go_roundw
              case rel => exact ⟨j + 1, _, by omega, rfl, by go_num, Lib.hid (by rw [allB, hct'.out.1, hct'.out.2, hsp.out]; rfl), hb6.trans (hb7.mono hb6.size)⟩
              case measure => simp [intOf]; omega
          | true =>
              obtain ⟨x0, x1, x2⟩ := hXY.out rfl
              have e4 : IntKind.i64.wrap (Y - X) = Y - X := IntWalk.i64_in _ (by omega)
              refine region_planW (fun w' => SameBut (fun _ => False) wr w') [(0, true), (1, true), (2, true), (3, true), (4, true), (5, true), (6, true), (7, true), (8, false), (9, true), (10, true), (11, true), (12, true), (13, true), (14, true), (15, true), (16, true), (17, true), (18, true), (19, true), (20, true), (21, true), (22, true), (23, true), (24, true), (25, true)] (by kernel_rfl) (by kernel_rfl) (by kernel_rfl) (by decide) (by kernel_rfl) ?_
              iterate 8
                (refine plan_take ?_ rfl hS0 (by rfl) ?_ ?_
                 rotate_left
                 · intro w' hw'
                   obtain ⟨q1, q2, q3, q4⟩ := hread w' hw'
                   go_simp
                   with_reducible rfl
                 simp only [Act.put, List.setIfInBounds_toArray, List.set_cons_zero, List.set_cons_succ])
              refine plan_one rfl (by rfl) (fun K hK => ?_)
              go_simp
              refine (hO.calls (Ordered_any X Y 0 (L - 1) _)).mono ?_
              rintro e w5 ⟨rfl, hb7⟩
              rw [hod.out]
              have hS5 : SameBut (fun _ => False) wr w5 := hS0.below hb7
              refine hK _ _ hS5 ?_
              clear hK K hb7
              iterate 17
                (refine plan_take ?_ rfl hS5 (by rfl) ?_ ?_
                 rotate_left
                 · intro w' hw'
                   obtain ⟨q1, q2, q3, q4⟩ := hread w' hw'
                   go_simp
                   with_reducible rfl
                 simp only [Act.put, List.setIfInBounds_toArray, List.set_cons_zero, List.set_cons_succ])
              have hb7 : Below wr.heap.size wr w5 := hS5.toBelow (Nat.le_refl _) (fun _ h => h.elim)
              unfold planW okN
              go_wp2_with (fail)
              go_roundw
              case rel => exact ⟨j + 1, _, by omega, rfl, by go_num, Lib.hid (by rw [allB, hct'.out.1, hct'.out.2, hsp.out]; rfl), hb6.trans (hb7.mono hb6.size)⟩
              case measure => simp [intOf]; omega
        · have hwr : Hid (r = woodOk (gw x.planks k)) := Lib.hid (by
            rw [hwk.out, hrj.out]
            cases hc : c0 with
            | false => rfl
            | true =>
              by_cases e : j = kn
              · rw [e]
              · have hrf : r = false := by
                  rw [← Bool.not_eq_true]; exact fun h => hgj ⟨h, by omega⟩
                have := hrj.out
                rw [hrf, hc] at this
                have h2 : (allB j fun i => spanOk L (gp (gw x.planks k).knots i)) = false := by simpa using this.symm
                rw [h2, allB_up (by omega) h2])
          have hbt : Hid ((b3 && allB k fun i => woodOk (gw x.planks i)) = true) := Lib.hid hr.out.symm
          have hrel2 : Hid (r = (b3 && allB (k + 1) fun i => woodOk (gw x.planks i))) := Lib.hid (by
            have h := hbt.out
            rw [Bool.and_eq_true] at h
            rw [allB, h.1, h.2]; exact hwr.out)
          clear he2
          cases r with
          | false =>
            go_wp2_with (fail)
            go_roundw
            case rel => exact ⟨k + 1, false, by omega, rfl, by go_num, Lib.hid hrel2.out, hb5.trans (hb6.mono hb5.size)⟩
            case measure => simp [intOf]; omega
          | true =>
            obtain rfl : j = kn := by
              by_cases e : j = kn
              · exact e
              · exact absurd ⟨rfl, by omega⟩ hgj
            have hjz : j ≤ 140737488355328 := hkz
            go_wp2_with (fail)
            go_roundw
            case rel => exact ⟨k + 1, true, by omega, rfl, by go_num, Lib.hid hrel2.out, hb5.trans (hb6.mono hb5.size)⟩
            case measure => simp [intOf]; omega
    · have hwd : Hid (r = (b3 && allB pn fun i => woodOk (gw x.planks i))) := Lib.hid (by
        by_cases e : k = pn
        · rw [← e]; exact hr.out
        · have hrf : r = false := by
            rw [← Bool.not_eq_true]; exact fun h => hgo ⟨h, by omega⟩
          have := hr.out
          rw [hrf] at this ⊢
          cases hb : b3 with
          | false => rfl
          | true =>
            rw [hb] at this
            have h2 : (allB k fun i => woodOk (gw x.planks i)) = false := by simpa using this.symm
            rw [allB_up hk h2]; rfl)
      have hRs : Hid (R = (r && allB sn fun i => shapeOk (gs x.parts i))) := Lib.hid (by
        rw [hbk.out, hwd.out, Bool.and_assoc])
      obtain ⟨r0, hr0⟩ : ∃ r0, r0 = r := ⟨_, rfl⟩
      rw [← hr0] at hRs
      have hr0' := Lib.hid hr0
      have hkn : r = true → pn = k := fun h => by
        by_cases h' : k < pn
        · exact absurd ⟨h, h'⟩ hgo
        · omega
      clear hr0 hr hwd hgo hbk
      cases r
      all_goals
        first | (have hkk := hkn rfl; clear hkn; subst hkk) | clear hkn
        go_wp2_with (fail)
        obtain ⟨W1, hW1⟩ : ∃ W1, W1 = wr := ⟨_, rfl⟩
        rw [← hW1] at bk2 q0 q1 l2 hbr ⊢
        clear hW1 q0 q1 hb2
        go_loopw [3, 7] (fun v i wr => ∃ (j : Nat) (r : Bool), j ≤ sn ∧ v = .bool r ∧ i = .int .i64 j ∧ Hid (r = (r0 && allB j fun i => shapeOk (gs x.parts i))) ∧ Below W1.heap.size W1 wr) (fun _ i _ => sn - (intOf i).toNat)
        case atStart => exact ⟨0, _, by omega, rfl, rfl, Lib.hid (by rw [hr0'.out]; rfl), Below.refl _ _⟩
        case round =>
          obtain ⟨j, r, hj, rfl, rfl, hrj, hb3⟩ := hrel
          have bk3 := bk2.below hb3 l2
          have q0 : wr.cell? ⟨w.heap.size, 0, none⟩ = some (.slice pa pn pc) := bk3.cell
          have q1 : wr.cell? ⟨w.heap.size, 1, none⟩ = some (.slice sa sn sc) := bk3.cell
          have l3 : w.heap.size < wr.heap.size := Nat.lt_of_lt_of_le l2 hb3.size
          have hbr3 : Below w.heap.size w wr := hbr.trans (hb3.mono (by omega))
          by_cases hgj : r = true ∧ j < sn
          · obtain ⟨rfl, hlt2⟩ := hgj
            have hpre : Hid (r0 = true ∧ (allB j fun i => shapeOk (gs x.parts i)) = true) := Lib.hid (by
              have := hrj.out
              rw [eq_comm, Bool.and_eq_true] at this; exact this)
            obtain ⟨b, o, rfl, hbB, hc⟩ := hx'.out.parts.get _ hlt2
            obtain ⟨v, hv, hc1, hc2, hc3, hi1⟩ := hc j hlt2
            clear hc
            have d1 := (bcells hbr3 _ (o + j * 3) (by omega)).trans hc1
            have d2 := (bcells hbr3 _ (o + j * 3 + 1) (by omega)).trans hc2
            have d3 := (bcells hbr3 _ (o + j * 3 + 2) (by omega)).trans hc3
            obtain ⟨ka, kn, kc, rfl, hks⟩ := hv
            clear hc1 hc2 hc3 hi1
            have hkz := hks.small
            obtain ⟨L, hL⟩ : ∃ L, L = (gs x.parts j).long := ⟨_, rfl⟩
            rw [← hL] at d1
            obtain ⟨e1, he1⟩ : ∃ e1, withinB L 1 12 = e1 := ⟨_, rfl⟩
            obtain ⟨e2, he2⟩ : ∃ e2, decide ((kn : Int) ≤ 3) = e2 := ⟨_, rfl⟩
            obtain ⟨e3, he3⟩ : ∃ e3, growsB (gs x.parts j).joints L = e3 := ⟨_, rfl⟩
            have hsk : Hid (shapeOk (gs x.parts j) = (e1 && e2 && e3)) := Lib.hid (by
              rw [shapeOk_eq, ← hL, he1, he3, hks.len, ← he2]
              congr 2
              rw [decide_eq_decide]; omega)
            have he1' := Lib.hid he1
            have he3' := Lib.hid he3
            have lb : b < wr.heap.size := by omega
            have hks' := Lib.hid (hks.keep (w' := wr.alloc (.cells #[.int .i64 L, .slice ka kn kc, .bool (gs x.parts j).turns] 50)) (Nat.le_refl _) (fun b o h => (cell_alloc_lt _ (by omega)).trans (bcells hbr3 b o (by omega))))
            have dj : decide ((j : Int) < sn) = true := decide_eq_true (by omega)
            clear hks hL he1 he3
            cases e1 <;> cases e2
            all_goals
              as_aux_lemma =>
                go_wp2_with (first | (go_at_call 38; refine (In_any _ _ _ _).mono ?_; rintro e w' ⟨rfl, rfl⟩; rw [he1'.out]) | (go_at_call 39; refine (Grows_any (m := L) hks'.out).mono ?_; rintro e w' ⟨rfl, q, rfl⟩; rw [he3'.out]))
                go_roundw
                case rel => exact ⟨j + 1, _, by omega, rfl, by go_num, Lib.hid (by rw [allB, hpre.out.1, hpre.out.2, hsk.out]; rfl), by first | exact hb3.alloc hb3.size _ | exact below_drewN (hb3.alloc hb3.size _) _⟩
                case measure => simp [intOf]; omega
          · have hRe : Hid (R = r) := Lib.hid (by
              rw [hRs.out]
              by_cases e : j = sn
              · rw [← e]; exact hrj.out.symm
              · have hrf : r = false := by
                  rw [← Bool.not_eq_true]; exact fun h => hgj ⟨h, by omega⟩
                have := hrj.out
                rw [hrf] at this ⊢
                cases hb : r0 with
                | false => rfl
                | true =>
                  rw [hb] at this
                  have h2 : (allB j fun i => shapeOk (gs x.parts i)) = false := by simpa using this.symm
                  rw [allB_up hj h2]; rfl)
            have hjn : r = true → ¬ j < sn := fun h h' => hgj ⟨h, h'⟩
            clear hgj
            cases r
            · clear hjn
              go_wp2_with (fail)
              go_ret
              exact ⟨ret_int (by rw [hRe.out]; rfl), hbr3⟩
            · obtain rfl : j = sn := by have := hjn rfl; omega
              clear hjn
              go_wp2_with (fail)
              go_ret
              exact ⟨ret_int (by rw [hRe.out]; rfl), hbr3⟩
end Go.Proofs.Ytbbolibkheelmaa
namespace Go.Proofs.Ytbbolibkheelmaa
open Go.RowKit Go.Shelf

theorem find_lie {S : Shape} {t way m : Nat} {b : Bool} (hw : b = decide (way ≠ 0)) : decide (findI (posU S t b S.joints.length) (m : Int) < 0) = !lieM S t way m := by
  rw [Bool.eq_iff_iff, decide_eq_true_eq, find_neg, Bool.not_eq_true', ← Bool.not_eq_true, lieM_pos hw]
  constructor
  · rintro h ⟨k, hk, e⟩
    exact h k (by rw [posU_len]; exact hk) (by rw [posU_get S t b hk]; exact e.symm)
  · intro h j hj e
    rw [posU_len] at hj
    rw [posU_get S t b hj] at e
    exact h ⟨j, hj, e.symm⟩
theorem allB_not {n : Nat} {f : Nat → Bool} : allB n (fun j => !f j) = !anyB n f := by
  rw [Bool.eq_iff_iff, allB_iff, Bool.not_eq_true', ← Bool.not_eq_true, anyB_iff]
  constructor
  · rintro h ⟨j, hj, e⟩
    have := h j hj
    rw [e] at this; cases this
  · intro h j hj
    cases hf : f j with
    | false => rfl
    | true => exact absurd ⟨j, hj, hf⟩ h
theorem anyB_not {n : Nat} {f : Nat → Bool} : anyB n (fun j => !f j) = !allB n f := by
  rw [Bool.eq_iff_iff, anyB_iff, Bool.not_eq_true', ← Bool.not_eq_true, allB_iff]
  constructor
  · rintro ⟨j, hj, e⟩ h
    rw [h j hj] at e; cases e
  · intro h
    by_cases hx : ∃ j, j < n ∧ f j = false
    · obtain ⟨j, hj, e⟩ := hx
      exact ⟨j, hj, by rw [e]; rfl⟩
    · exact absurd (fun j hj => by
        cases hf : f j with
        | true => rfl
        | false => exact absurd ⟨j, hj, hf⟩ hx) h
section
variable {W : Wood} {S : Shape} {t way : Nat} {b : Bool}
theorem spans_at {k : Int × Int} (hk : Knot k) : ∃ u n : Nat, k.1 = u ∧ k.2 = u + n - 1 ∧ 0 < n ∧ u + n ≤ 16 ∧ spanN k = n := by
  unfold Knot at hk
  refine ⟨k.1.toNat, spanN k, by omega, ?_, ?_, ?_, rfl⟩ <;> (unfold spanN; omega)
theorem sure_may (hw : b = decide (way ≠ 0)) (hW : ∀ k, k < W.knots.length → Knot (gp W.knots k)) : sureB W (posU S t b S.joints.length) = !mayHit W S t W.knots.length way := by
  unfold sureB mayHit
  rw [← allB_not]
  refine allB_congr fun k hk => ?_
  obtain ⟨u, n, h1, h2, h3, h4, h5⟩ := spans_at (hW k hk)
  unfold sureK
  rw [h5, ← hitC_up h1 h2 h4, ← allB_not]
  refine allB_congr fun j hj => ?_
  rw [h1, show (u : Int) + (j : Int) = ((u + j : Nat) : Int) by omega, find_lie hw]
theorem may_must (hw : b = decide (way ≠ 0)) (hW : ∀ k, k < W.knots.length → Knot (gp W.knots k)) : mayB W (posU S t b S.joints.length) = !mustHitB W S t W.knots.length way := by
  unfold mayB mustHitB
  rw [← allB_not]
  refine allB_congr fun k hk => ?_
  obtain ⟨u, n, h1, h2, h3, h4, h5⟩ := spans_at (hW k hk)
  unfold mayK
  rw [h5, ← hitM_up h1 h2 h4, ← anyB_not]
  refine anyB_congr fun j hj => ?_
  rw [h1, show (u : Int) + (j : Int) = ((u + j : Nat) : Int) by omega, find_lie hw]
/-- What the specification's 'can' answers. -/
def refAns (W : Wood) (S : Shape) (t : Nat) : Int :=
  if (sureB W (posU S t false S.joints.length) || (S.turns && sureB W (posU S t true S.joints.length))) = true then 2
  else if (mayB W (posU S t false S.joints.length) || (S.turns && mayB W (posU S t true S.joints.length))) = true then 1 else 0
theorem refAns_eq (hW : ∀ k, k < W.knots.length → Knot (gp W.knots k)) : refAns W S t = ansOf W S t := by
  unfold refAns ansOf
  rw [okLie_may, okLie_must, sure_may (way := 0) (b := false) rfl hW, sure_may (way := 1) (b := true) rfl hW, may_must (way := 0) (b := false) rfl hW, may_must (way := 1) (b := true) rfl hW]
end
end Go.Proofs.Ytbbolibkheelmaa
namespace Go.Proofs.Ytbbolibkheelmaa
open Go.RowKit Go.Shelf

theorem num_within {n : Nat} {i : Int} : withinB i 0 ((n : Int) - 1) = numB n i := by
  unfold withinB numB
  rw [Bool.eq_iff_iff]
  simp only [Bool.and_eq_true, decide_eq_true_eq]
  omega

set_option maxHeartbeats 400000 in
theorem isPlank_any {pa sa : Option Addr} {pn pc sn sc : Nat} {i : Int} {w : World} (hs : pn ≤ 140737488355328) :
    Calls Try.prog 63 #[.agg #[.slice pa pn pc, .slice sa sn sc], .int .i64 i] w fun e w' => e = .returned (.bool (numB pn i)) ∧ Below w.heap.size w w' := by
  have hn := Lib.hid (num_within (n := pn) (i := i))
  go_enter Try.func63, Try.ntmps63
  go_wp2_with (go_at_call 38; refine (In_any _ _ _ _).mono ?_; rintro e w' ⟨rfl, rfl⟩; rw [hn.out])
  go_ret
  exact ⟨rfl, (Below.refl _ _).alloc (Nat.le_refl _) _⟩
set_option maxHeartbeats 400000 in
theorem isPart_any {pa sa : Option Addr} {pn pc sn sc : Nat} {i : Int} {w : World} (hs : sn ≤ 140737488355328) :
    Calls Try.prog 64 #[.agg #[.slice pa pn pc, .slice sa sn sc], .int .i64 i] w fun e w' => e = .returned (.bool (numB sn i)) ∧ Below w.heap.size w w' := by
  have hn := Lib.hid (num_within (n := sn) (i := i))
  go_enter Try.func64, Try.ntmps64
  go_wp2_with (go_at_call 38; refine (In_any _ _ _ _).mono ?_; rintro e w' ⟨rfl, rfl⟩; rw [hn.out])
  go_ret
  exact ⟨rfl, (Below.refl _ _).alloc (Nat.le_refl _) _⟩

/-- Does a part lie at an inch? -/
def liesB (x : Book) (i p : Nat) (t : Int) : Bool := withinB t 0 (IntKind.i64.wrap ((gw x.planks i).long - (gs x.parts p).long))
theorem lies_good {x : Book} {i p : Nat} {t : Int} (hb : bookOk x = true) (hi : i < x.planks.length) (hp : p < x.parts.length) : liesB x i p t = decide (0 ≤ t ∧ t ≤ (gw x.planks i).long - (gs x.parts p).long) := by
  have hw1 := (good_of hb).wood i hi
  have hw2 := (good_of hb).shape p hp
  unfold liesB withinB
  rw [IntWalk.i64_in _ (by omega), Bool.eq_iff_iff]
  simp only [Bool.and_eq_true, decide_eq_true_eq]

set_option maxRecDepth 100000 in
set_option maxHeartbeats 2000000 in
theorem lies_any {B : Nat} {pa sa : Option Addr} {pn pc sn sc i p : Nat} {x : Book} {t : Int} {w : World} (hB : B ≤ w.heap.size) (hx : BookAt B w pa pn sa sn x) (hi : i < pn) (hp : p < sn) :
    Calls Try.prog 65 #[.agg #[.slice pa pn pc, .slice sa sn sc], .int .i64 i, .int .i64 p, .int .i64 t] w fun e w' => e = .returned (.bool (liesB x i p t)) ∧ Below w.heap.size w w' := by
  obtain ⟨R, hR⟩ : ∃ R, R = liesB x i p t := ⟨_, rfl⟩
  rw [← hR]
  unfold liesB at hR
  obtain ⟨pb, po, rfl, hpB, hpc⟩ := hx.planks.get i hi
  obtain ⟨kv, _, c0, _, _⟩ := hpc i hi
  obtain ⟨sb, so, rfl, hsB, hsc⟩ := hx.parts.get p hp
  obtain ⟨jv, _, d0, _, _, _⟩ := hsc p hp
  clear hpc hsc
  obtain ⟨L, hL⟩ : ∃ L, L = (gw x.planks i).long := ⟨_, rfl⟩
  obtain ⟨M, hM⟩ : ∃ M, M = (gs x.parts p).long := ⟨_, rfl⟩
  rw [← hL] at c0 hR
  rw [← hM] at d0 hR
  obtain ⟨D, hD⟩ : ∃ D, IntKind.i64.wrap (L - M) = D := ⟨_, rfl⟩
  rw [hD] at hR
  have hR' := Lib.hid hR
  clear hL hM hR hx
  obtain ⟨W0, hW0⟩ : ∃ W0, W0 = w.alloc (.cells #[.slice (some ⟨pb, po, none⟩) pn pc, .slice (some ⟨sb, so, none⟩) sn sc] 25) := ⟨_, rfl⟩
  have hb0 : Below w.heap.size w W0 := by rw [hW0]; exact (Below.refl _ _).alloc (Nat.le_refl _) _
  have hk0 : Blk W0 w.heap.size #[.slice (some ⟨pb, po, none⟩) pn pc, .slice (some ⟨sb, so, none⟩) sn sc] := by rw [hW0]; exact Blk.new w _ _
  have l0 : w.heap.size < W0.heap.size := hk0.lt
  have g0 := (bcells hb0 _ (po + i * 2) (by omega)).trans c0
  have g1 := (bcells hb0 _ (so + p * 3) (by omega)).trans d0
  clear c0 d0
  have hii : (i : Int) < pn := by omega
  have hpi : (p : Int) < sn := by omega
  go_enter Try.func65, Try.ntmps65
  replace hW0 := hW0.symm
  go_upto_region 1 with fail
  clear hW0
  have hO := open_wide
  have hF := hO.fn
  have hd := hO.depth
  have hS0 : SameBut (fun _ => False) W0 W0.drew := (SameBut.refl _ _).drew
  have hread : ∀ w', SameBut (fun _ => False) W0 w' → w'.cell? ⟨w.heap.size, 0, none⟩ = some (.slice (some ⟨pb, po, none⟩) pn pc) ∧ w'.cell? ⟨w.heap.size, 1, none⟩ = some (.slice (some ⟨sb, so, none⟩) sn sc) ∧ w'.cell? ⟨pb, po + i * 2, none⟩ = some (.int .i64 L) ∧ w'.cell? ⟨sb, so + p * 3, none⟩ = some (.int .i64 M) := fun w' h =>
    ⟨(hk0.same h (fun e => e)).cell, (hk0.same h (fun e => e)).cell, (h.cell (by omega) (fun e => e)).trans g0, (h.cell (by omega) (fun e => e)).trans g1⟩
  refine region_planW (fun w' => SameBut (fun _ => False) W0 w') [(0, true), (1, true), (2, true), (3, true), (4, true), (5, true), (6, true), (7, true), (8, true), (9, true), (10, true), (11, true), (12, true), (13, true), (14, false), (15, true)] (by kernel_rfl) (by kernel_rfl) (by kernel_rfl) (by decide) (by kernel_rfl) ?_
  iterate 14
    (refine plan_take ?_ rfl hS0 (by rfl) ?_ ?_
     rotate_left
     · intro w' hw'
       obtain ⟨q1, q2, q3, q4⟩ := hread w' hw'
       go_simp
       with_reducible rfl
     simp only [Act.put, List.setIfInBounds_toArray, List.set_cons_zero, List.set_cons_succ])
  refine plan_one rfl (by rfl) (fun K hK => ?_)
  go_simp
  refine (hO.calls (In_any t 0 D _)).mono ?_
  rintro e w5 ⟨rfl, rfl⟩
  rw [← hR'.out]
  refine hK _ _ hS0 ?_
  clear hK K
  iterate 1
    (refine plan_take ?_ rfl hS0 (by rfl) ?_ ?_
     rotate_left
     · intro w' hw'
       go_simp
       with_reducible rfl
     simp only [Act.put, List.setIfInBounds_toArray, List.set_cons_zero, List.set_cons_succ])
  unfold planW okN
  go_wp2_with fail
  go_ret
  exact ⟨rfl, hb0.trans ((hS0.toBelow (Nat.le_refl _) (fun _ h => h.elim)).mono hb0.size)⟩

/-- The error of a book, and of a question. -/
def askedE (x : Book) (ok : Bool) : Int := if bookOk x = true then (if ok = true then 0 else 11) else errOf false

set_option maxHeartbeats 1000000 in
theorem asked_any {B : Nat} {pa sa : Option Addr} {pn pc sn sc : Nat} {x : Book} {ok : Bool} {w : World} (hB : B ≤ w.heap.size) (hx : BookAt B w pa pn sa sn x) :
    Calls Try.prog 62 #[.agg #[.slice pa pn pc, .slice sa sn sc], .bool ok] w fun e w' => e = .returned (.int .i64 (askedE x ok)) ∧ Below w.heap.size w w' := by
  obtain ⟨W0, hW0⟩ : ∃ W0, W0 = w.alloc (.cells #[.slice pa pn pc, .slice sa sn sc] 25) := ⟨_, rfl⟩
  have hb0 : Below w.heap.size w W0 := by rw [hW0]; exact (Below.refl _ _).alloc (Nat.le_refl _) _
  have hk0 : Blk W0 w.heap.size #[.slice pa pn pc, .slice sa sn sc] := by rw [hW0]; exact Blk.new w _ _
  have l0 : w.heap.size < W0.heap.size := hk0.lt
  have hx0 := Lib.hid (hx.keep (w' := W0) (Nat.le_refl _) (fun b o h => bcells hb0 b o (by omega)))
  clear hx
  have q0 : W0.cell? ⟨w.heap.size, 0, none⟩ = some (.slice pa pn pc) := hk0.cell
  have q1 : W0.cell? ⟨w.heap.size, 1, none⟩ = some (.slice sa sn sc) := hk0.cell
  obtain ⟨R, hR⟩ : ∃ R, R = askedE x ok := ⟨_, rfl⟩
  rw [← hR]
  unfold askedE at hR
  go_enter Try.func62, Try.ntmps62
  replace hW0 := hW0.symm
  rcases Bool.eq_false_or_eq_true (bookOk x) with hb | hb
  · rw [if_pos hb] at hR
    have hb' := Lib.hid hb
    have hR' := Lib.hid hR
    clear hb hR
    cases ok
    all_goals
      go_wp2_with (go_at_call 19; refine (refCheck_any (B := B) (by omega) hx0.out).mono ?_; rintro e w1 ⟨rfl, hb1⟩; rw [hb'.out]; have hbw : Below w.heap.size w w1 := hb0.trans (hb1.mono (by omega)); clear hb1)
      go_ret
      exact ⟨ret_int (by rw [hR'.out]; rfl), hbw⟩
  · rw [if_neg (by rw [hb]; simp)] at hR
    have hb' := Lib.hid hb
    have hR' := Lib.hid hR
    clear hb hR
    go_wp2_with (go_at_call 19; refine (refCheck_any (B := B) (by omega) hx0.out).mono ?_; rintro e w1 ⟨rfl, hb1⟩; rw [hb'.out]; have hbw : Below w.heap.size w w1 := hb0.trans (hb1.mono (by omega)); clear hb1)
    go_ret
    exact ⟨ret_int (by rw [hR'.out]), hbw⟩
end Go.Proofs.Ytbbolibkheelmaa
