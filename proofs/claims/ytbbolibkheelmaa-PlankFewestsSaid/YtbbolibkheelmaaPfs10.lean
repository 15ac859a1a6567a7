/- Walks: what the specification says of a part at an inch. Walks: the specification's Can. Walks: the specification's Spots. -/
import Derived.Test.YtbbolibkheelmaaPfs09
namespace Go.Proofs.Ytbbolibkheelmaa
open Go.RowKit Go.Shelf

set_option maxRecDepth 100000 in
set_option maxHeartbeats 4000000 in
theorem refcan_any {B : Nat} {pa sa : Option Addr} {pn pc sn sc i p t : Nat} {x : Book} {w : World} (hB : B ≤ w.heap.size) (hx : BookAt B w pa pn sa sn x) (hb : bookOk x = true) (hi : i < pn) (hp : p < sn) (ht : (t : Int) ≤ (gw x.planks i).long - (gs x.parts p).long) :
    Calls Try.prog 66 #[.agg #[.slice pa pn pc, .slice sa sn sc], .int .i64 i, .int .i64 p, .int .i64 t] w fun e w' => e = .returned (.int .i64 (refAns (gw x.planks i) (gs x.parts p) t)) ∧ Below w.heap.size w w' := by
  have hG := Lib.hid (good_of hb)
  have hpn := Lib.hid hx.planks.len
  have hsn := Lib.hid hx.parts.len
  have hxi : i < x.planks.length := by rw [hpn.out]; exact hi
  have hxp : p < x.parts.length := by rw [hsn.out]; exact hp
  obtain ⟨W0, hW0⟩ : ∃ W0, W0 = w.alloc (.cells #[.slice pa pn pc, .slice sa sn sc] 25) := ⟨_, rfl⟩
  have hb0 : Below w.heap.size w W0 := by rw [hW0]; exact (Below.refl _ _).alloc (Nat.le_refl _) _
  have hk0 : Blk W0 w.heap.size #[.slice pa pn pc, .slice sa sn sc] := by rw [hW0]; exact Blk.new w _ _
  have l0 : w.heap.size < W0.heap.size := hk0.lt
  have hx0 := hx.keep (w' := W0) (Nat.le_refl _) (fun b o h => bcells hb0 b o (by omega))
  clear hx
  obtain ⟨pb, po, rfl, hpB, hpc⟩ := hx0.planks.get i hi
  obtain ⟨kv, hkv, c0, c1, _⟩ := hpc i hi
  obtain ⟨sb, so, rfl, hsB, hsc⟩ := hx0.parts.get p hp
  obtain ⟨jv, hjv, d0, d1, d2, _⟩ := hsc p hp
  clear hpc hsc hx0
  obtain ⟨ka, kn, kc, rfl, hks⟩ := hkv
  obtain ⟨ja, jn, jc, rfl, hjs⟩ := hjv
  obtain ⟨KW, hKW⟩ : ∃ KW, KW = gw x.planks i := ⟨_, rfl⟩
  obtain ⟨S, hS⟩ : ∃ S, S = gs x.parts p := ⟨_, rfl⟩
  rw [← hKW] at c0 hks ht ⊢
  rw [← hS] at d0 d2 hjs ht ⊢
  have hKW' := Lib.hid hKW
  have hS' := Lib.hid hS
  have hks' := Lib.hid hks
  have hjs' := Lib.hid hjs
  have hGw := hG.out.wood i hxi
  have hGs := hG.out.shape p hxp
  rw [← hKW'.out] at hGw
  rw [← hS'.out] at hGs
  obtain ⟨gw1, gw2, gw3⟩ := hGw
  obtain ⟨gs1, gs2, gs3⟩ := hGs
  have hKnot : Hid (∀ k, k < KW.knots.length → Knot (gp KW.knots k)) := Lib.hid (fun k hk => by rw [hKW'.out] at hk ⊢; exact hG.out.knot i hxi k hk)
  have hJin : Hid (JointsIn S) := Lib.hid (by rw [hS'.out]; exact hG.out.joint p hxp)
  have lp : pb < W0.heap.size := by omega
  have ls : sb < W0.heap.size := by omega
  have lp1 : pb < W0.heap.size + 1 := by omega
  have ls1 : sb < W0.heap.size + 1 := by omega
  have m1 : w.heap.size < W0.heap.size + 1 := by omega
  clear hKW hS hks hjs hb
  have q0 : W0.cell? ⟨w.heap.size, 0, none⟩ = some (.slice (some ⟨pb, po, none⟩) pn pc) := hk0.cell
  have q1 : W0.cell? ⟨w.heap.size, 1, none⟩ = some (.slice (some ⟨sb, so, none⟩) sn sc) := hk0.cell
  obtain ⟨R, hR⟩ : ∃ R, R = refAns KW S t := ⟨_, rfl⟩
  rw [← hR]
  have hR' := Lib.hid hR
  clear hR
  go_enter Try.func66, Try.ntmps66
  replace hW0 := hW0.symm
  go_upto_region 1 with fail
  clear hW0
  go_cut [9, 10] (fun s7 s8 wx => ∃ bW bX : Nat, s7 = .pointer (some ⟨bW, 0, none⟩) ∧ s8 = .pointer (some ⟨bX, 0, none⟩) ∧
    Blk wx bW #[.int .i64 KW.long, .slice ka kn kc] ∧ Blk wx bX #[.int .i64 S.long, .slice ja jn jc, .bool S.turns] ∧ Below W0.heap.size W0 wx)
  case first =>
    go_region
    · as_aux_lemma =>
      go_wp2_with fail
      go_meet
      refine ⟨W0.heap.size, W0.heap.size + 1, rfl, rfl, ?_, ?_, ?_⟩
      · exact ((Blk.new W0 _ _).alloc _).drew
      · have := Blk.new (W0.alloc (.cells #[.int .i64 KW.long, .slice ka kn kc] 48)) #[.int .i64 S.long, .slice ja jn jc, .bool S.turns] 50
        rw [World.size_alloc] at this
        exact this.drew
      · exact (((Below.refl _ _).alloc (Nat.le_refl _) _).alloc (by simp) _).drew
    · as_aux_lemma =>
      go_wp2_with fail
      go_meet
      refine ⟨W0.heap.size + 1, W0.heap.size, rfl, rfl, ?_, ?_, ?_⟩
      · have := Blk.new (W0.alloc (.cells #[.int .i64 S.long, .slice ja jn jc, .bool S.turns] 50)) #[.int .i64 KW.long, .slice ka kn kc] 48
        rw [World.size_alloc] at this
        exact this.drew
      · exact ((Blk.new W0 _ _).alloc _).drew
      · exact (((Below.refl _ _).alloc (Nat.le_refl _) _).alloc (by simp) _).drew
  case rest =>
  obtain ⟨bW, bX, rfl, rfl, hBW, hBX, hb1⟩ := hcut
  obtain ⟨w1, hw1⟩ : ∃ w1, w1 = wc := ⟨_, rfl⟩
  rw [← hw1] at hBW hBX hb1 ⊢
  clear hw1 q0 q1 c0 c1 d0 d1 d2 m1 lp ls lp1 ls1
  have hbw : Below w.heap.size w w1 := hb0.trans (hb1.mono (by omega))
  have hBw : B ≤ w1.heap.size := by have := hbw.size; omega
  replace hks' := Lib.hid (hks'.out.keep (w' := w1) (Nat.le_refl _) (fun b o h => bcells hb1 b o (by omega)))
  replace hjs' := Lib.hid (hjs'.out.keep (w' := w1) (Nat.le_refl _) (fun b o h => bcells hb1 b o (by omega)))
  clear hb1 hb0 hk0 l0
  have e0 : w1.cell? ⟨bX, 0, none⟩ = some (.int .i64 S.long) := hBX.cell
  have e1 : w1.cell? ⟨bX, 1, none⟩ = some (.slice ja jn jc) := hBX.cell
  have e2 : w1.cell? ⟨bX, 2, none⟩ = some (.bool S.turns) := hBX.cell
  have lX := hBX.lt
  go_upto_region 2 with fail
  go_cut [11, 12] (fun s7 s8 wx => ∃ (a b : Option Addr) (n m c d : Nat), s7 = .slice a n c ∧ s8 = .slice b m d ∧ IntsAt wx.heap.size wx a n (posU S t false S.joints.length) ∧ IntsAt wx.heap.size wx b m (posU S t true S.joints.length) ∧ Below w1.heap.size w1 wx)
  case first =>
    have hO := open_wide
    have hF := hO.fn
    have hd := hO.depth
    have hS0 : SameBut (fun _ => False) w1 w1.drew := (SameBut.refl _ _).drew
    have hread : ∀ w', SameBut (fun _ => False) w1 w' → w'.cell? ⟨bX, 0, none⟩ = some (.int .i64 S.long) ∧ w'.cell? ⟨bX, 1, none⟩ = some (.slice ja jn jc) ∧ w'.cell? ⟨bX, 2, none⟩ = some (.bool S.turns) := fun w' h =>
      ⟨(hBX.same h (fun e => e)).cell, (hBX.same h (fun e => e)).cell, (hBX.same h (fun e => e)).cell⟩
    clear e0 e1 e2
    refine region_planW (fun w' => SameBut (fun _ => False) w1 w') [(0, true), (1, true), (3, true), (4, true), (2, false), (5, false), (6, true), (7, true)] (by kernel_rfl) (by kernel_rfl) (by kernel_rfl) (by decide) (by kernel_rfl) ?_
    iterate 4
      (refine plan_take ?_ rfl hS0 (by rfl) ?_ ?_
       rotate_left
       · intro w' hw'
         obtain ⟨q1, q2, q3⟩ := hread w' hw'
         go_simp
         with_reducible rfl
       simp only [Act.put, List.setIfInBounds_toArray, List.set_cons_zero, List.set_cons_succ])
    refine plan_one rfl (by rfl) (fun K hK => ?_)
    go_simp
    refine (hO.calls (refJoints_any (B := B) (x := S) (t := t) (tb := S.turns) (turned := false) (w := w1.drew) (by show B ≤ w1.heap.size; omega) ⟨ja, jn, jc, rfl, hjs'.out.keep (Nat.le_refl _) (fun _ _ _ => rfl)⟩ hJin.out gs2 gs3 (by omega) (by omega))).mono ?_
    rintro e w5 ⟨a5, n5, c5, rfl, hp5, hb5⟩
    have hS5 : SameBut (fun _ => False) w1 w5 := hS0.below hb5
    have z5 : w1.heap.size ≤ w5.heap.size := hb5.size
    refine hK _ _ hS5 ?_
    clear hK K
    refine plan_one rfl (by rfl) (fun K hK => ?_)
    go_simp
    refine (hO.calls (refJoints_any (B := B) (x := S) (t := t) (tb := S.turns) (turned := true) (by omega) ⟨ja, jn, jc, rfl, hjs'.out.keep (Nat.le_refl _) (fun b o h => hS5.cell (by omega) (fun e => e))⟩ hJin.out gs2 gs3 (by omega) (by omega))).mono ?_
    rintro e w6 ⟨a6, n6, c6, rfl, hp6, hb6⟩
    have hS6 : SameBut (fun _ => False) w1 w6 := hS5.below hb6
    have hp5' := hp5.keep (w' := w6) hb6.size (fun b o h => bcells hb6 b o h)
    refine hK _ _ hS6 ?_
    clear hK K hp5
    iterate 2
      (refine plan_take ?_ rfl hS6 (by rfl) ?_ ?_
       rotate_left
       · intro w' hw'
         go_simp
         with_reducible rfl
       simp only [Act.put, List.setIfInBounds_toArray, List.set_cons_zero, List.set_cons_succ])
    unfold planW okN
    go_wp2_with fail
    go_meet
    exact ⟨_, _, _, _, _, _, rfl, rfl, hp5', hp6, hS6.toBelow (Nat.le_refl _) (fun _ h => h.elim)⟩
  case rest =>
  obtain ⟨oa, ta, on, tn, oc, tc, rfl, rfl, hone, htwo, hb2⟩ := hcut
  obtain ⟨w2, hw2⟩ : ∃ w2, w2 = wc := ⟨_, rfl⟩
  rw [← hw2] at hone htwo hb2 ⊢
  clear hw2 e0 e1 e2
  have hbw2 : Below w.heap.size w w2 := hbw.trans (hb2.mono hbw.size)
  replace hBW := hBW.below hb2 hBW.lt
  replace hBX := hBX.below hb2 hBX.lt
  replace hks' := Lib.hid (hks'.out.keep (w' := w2) (Nat.le_refl _) (fun b o h => bcells hb2 b o (by omega)))
  replace hBw : B ≤ w2.heap.size := Nat.le_trans hBw hb2.size
  clear hb2 hbw
  have hone' := Lib.hid hone
  have htwo' := Lib.hid htwo
  clear hone htwo
  obtain ⟨s1, hs1⟩ : ∃ s1, sureB KW (posU S t false S.joints.length) = s1 := ⟨_, rfl⟩
  obtain ⟨s2, hs2⟩ : ∃ s2, sureB KW (posU S t true S.joints.length) = s2 := ⟨_, rfl⟩
  obtain ⟨m1, hm1⟩ : ∃ m1, mayB KW (posU S t false S.joints.length) = m1 := ⟨_, rfl⟩
  obtain ⟨m2, hm2⟩ : ∃ m2, mayB KW (posU S t true S.joints.length) = m2 := ⟨_, rfl⟩
  obtain ⟨T, hT⟩ : ∃ T, S.turns = T := ⟨_, rfl⟩
  have hR2 : Hid (R = if (s1 || (T && s2)) = true then 2 else if (m1 || (T && m2)) = true then 1 else 0) := Lib.hid (by rw [hR'.out]; unfold refAns; rw [hs1, hs2, hm1, hm2, hT])
  rw [hT] at hBX
  have hs1' := Lib.hid hs1
  have hs2' := Lib.hid hs2
  have hm1' := Lib.hid hm1
  have hm2' := Lib.hid hm2
  have a0 : w2.cell? ⟨bW, 0, none⟩ = some (.int .i64 KW.long) := hBW.cell
  have a1 : w2.cell? ⟨bW, 1, none⟩ = some (.slice ka kn kc) := hBW.cell
  have e2 : w2.cell? ⟨bX, 2, none⟩ = some (.bool T) := hBX.cell
  have lW := hBW.lt
  replace lX := hBX.lt
  clear hs1 hs2 hm1 hm2 hT
  go_upto_region 3 with fail
  go_cut [40] (fun s wx => s = .bool (s1 || (T && s2)) ∧ Below w2.heap.size w2 wx)
  case first =>
    go_wp2_with (fail)
    refine (sure_any (B := B) (C := w2.heap.size) (W := KW) (by omega) (Nat.le_refl _) ⟨ka, kn, kc, rfl, hks'.out⟩ hone'.out hKnot.out gw3).mono ?_
    rintro e w6 ⟨rfl, hb6⟩
    rw [hs1'.out]
    have hW6 := hBW.below hb6 lW
    have hX6 := hBX.below hb6 lX
    have hks6 := Lib.hid (hks'.out.keep (w' := w6) (Nat.le_refl _) (fun b o h => bcells hb6 b o (by omega)))
    have htwo6 := Lib.hid (htwo'.out.keep (w' := w6) hb6.size (fun b o h => bcells hb6 b o h))
    clear a0 a1 e2
    have a0 : w6.cell? ⟨bW, 0, none⟩ = some (.int .i64 KW.long) := hW6.cell
    have a1 : w6.cell? ⟨bW, 1, none⟩ = some (.slice ka kn kc) := hW6.cell
    have e2 : w6.cell? ⟨bX, 2, none⟩ = some (.bool T) := hX6.cell
    have hz6 := hb6.size
    cases s1 with
    | true =>
      as_aux_lemma =>
        go_wp2_with fail
        go_meet
        exact ⟨rfl, hb6⟩
    | false =>
      cases T with
      | false =>
        as_aux_lemma =>
          go_wp2_with fail
          go_meet
          exact ⟨rfl, hb6⟩
      | true =>
        go_wp2_with (fail)
        refine (sure_any (B := B) (C := w6.heap.size) (W := KW) (by omega) (Nat.le_refl _) ⟨ka, kn, kc, rfl, hks6.out⟩ htwo6.out hKnot.out gw3).mono ?_
        rintro e w7 ⟨rfl, hb7⟩
        rw [hs2'.out]
        go_wp2_with fail
        go_meet
        exact ⟨by cases s2 <;> rfl, hb6.trans (hb7.mono hb6.size)⟩
  case rest =>
  obtain ⟨rfl, hb3⟩ := hcut
  obtain ⟨w3, hw3⟩ : ∃ w3, w3 = wc := ⟨_, rfl⟩
  rw [← hw3] at hb3 ⊢
  clear hw3 a0 a1 e2
  have hbw3 : Below w.heap.size w w3 := hbw2.trans (hb3.mono hbw2.size)
  replace hBW := hBW.below hb3 hBW.lt
  replace hBX := hBX.below hb3 hBX.lt
  replace hks' := Lib.hid (hks'.out.keep (w' := w3) (Nat.le_refl _) (fun b o h => bcells hb3 b o (by omega)))
  replace hone' := Lib.hid (hone'.out.keep (w' := w3) hb3.size (fun b o h => bcells hb3 b o h))
  replace htwo' := Lib.hid (htwo'.out.keep (w' := w3) hb3.size (fun b o h => bcells hb3 b o h))
  replace hBw : B ≤ w3.heap.size := Nat.le_trans hBw hb3.size
  replace lW := hBW.lt
  replace lX := hBX.lt
  obtain ⟨sb, hsb⟩ : ∃ sb, (s1 || (T && s2)) = sb := ⟨_, rfl⟩
  rw [hsb]
  rw [hsb] at hR2
  clear hsb hb3 hs1' hs2'
  cases sb with
  | true =>
    go_wp2_with fail
    go_ret
    exact ⟨ret_int (by rw [hR2.out]; rfl), hbw3⟩
  | false =>
  have a0 : w3.cell? ⟨bW, 0, none⟩ = some (.int .i64 KW.long) := hBW.cell
  have a1 : w3.cell? ⟨bW, 1, none⟩ = some (.slice ka kn kc) := hBW.cell
  have e2 : w3.cell? ⟨bX, 2, none⟩ = some (.bool T) := hBX.cell
  go_upto_region 5 with fail
  go_cut [52] (fun s wx => s = .bool (m1 || (T && m2)) ∧ Below w3.heap.size w3 wx)
  case first =>
    go_wp2_with (fail)
    refine (may_any (B := B) (C := w3.heap.size) (W := KW) (by omega) (Nat.le_refl _) ⟨ka, kn, kc, rfl, hks'.out⟩ hone'.out hKnot.out gw3).mono ?_
    rintro e w6 ⟨rfl, hb6⟩
    rw [hm1'.out]
    have hW6 := hBW.below hb6 lW
    have hX6 := hBX.below hb6 lX
    have hks6 := Lib.hid (hks'.out.keep (w' := w6) (Nat.le_refl _) (fun b o h => bcells hb6 b o (by omega)))
    have htwo6 := Lib.hid (htwo'.out.keep (w' := w6) hb6.size (fun b o h => bcells hb6 b o h))
    clear a0 a1 e2
    have a0 : w6.cell? ⟨bW, 0, none⟩ = some (.int .i64 KW.long) := hW6.cell
    have a1 : w6.cell? ⟨bW, 1, none⟩ = some (.slice ka kn kc) := hW6.cell
    have e2 : w6.cell? ⟨bX, 2, none⟩ = some (.bool T) := hX6.cell
    have hz6 := hb6.size
    cases m1 with
    | true =>
      as_aux_lemma =>
        go_wp2_with fail
        go_meet
        exact ⟨rfl, hb6⟩
    | false =>
      cases T with
      | false =>
        as_aux_lemma =>
          go_wp2_with fail
          go_meet
          exact ⟨rfl, hb6⟩
      | true =>
        go_wp2_with (fail)
        refine (may_any (B := B) (C := w6.heap.size) (W := KW) (by omega) (Nat.le_refl _) ⟨ka, kn, kc, rfl, hks6.out⟩ htwo6.out hKnot.out gw3).mono ?_
        rintro e w7 ⟨rfl, hb7⟩
        rw [hm2'.out]
        go_wp2_with fail
        go_meet
        exact ⟨by cases m2 <;> rfl, hb6.trans (hb7.mono hb6.size)⟩
  case rest =>
  obtain ⟨rfl, hb4⟩ := hcut
  have hbw4 := hbw3.trans (hb4.mono hbw3.size)
  obtain ⟨mb, hmb⟩ : ∃ mb, (m1 || (T && m2)) = mb := ⟨_, rfl⟩
  rw [hmb]
  rw [hmb] at hR2
  clear hmb a0 a1 e2
  cases mb with
  | true =>
    go_wp2_with fail
    go_ret
    exact ⟨ret_int (by rw [hR2.out]; rfl), hbw4⟩
  | false =>
    go_wp2_with fail
    go_ret
    exact ⟨ret_int (by rw [hR2.out]; rfl), hbw4⟩
end Go.Proofs.Ytbbolibkheelmaa
namespace Go.Proofs.Ytbbolibkheelmaa
open Go.RowKit Go.Shelf

/-- Are these numbers of a plank, a part, an inch at which it lies? -/
def okAsk (x : Book) (i p t : Int) : Bool := numB x.planks.length i && numB x.parts.length p && liesB x i.toNat p.toNat t
theorem ask_one {x : Book} {i p : Int} (hb : bookOk x = true) : askE x i [p] = if (numB x.planks.length i && numB x.parts.length p) = true then 0 else 11 := by
  rw [askE_good hb]
  have : (allB [p].length fun k => numB x.parts.length (gi [p] k)) = numB x.parts.length p := by simp [allB, gi]
  rw [this]
theorem can_ask {x : Book} {i p t : Int} (h : askedE x (okAsk x i p t) ≠ 0) : canR x i p t = (0, askedE x (okAsk x i p t)) := by
  rcases Bool.eq_false_or_eq_true (bookOk x) with hb | hb
  · have hk : okAsk x i p t = false := by
      rw [← Bool.not_eq_true]
      intro e
      unfold askedE at h
      rw [if_pos hb, if_pos e] at h
      exact h rfl
    have hE : askedE x (okAsk x i p t) = 11 := by unfold askedE; rw [if_pos hb, if_neg (by rw [hk]; simp)]
    rw [hE]
    unfold canR
    unfold okAsk at hk
    rw [ask_one hb]
    cases hn : (numB x.planks.length i && numB x.parts.length p) with
    | true =>
      rw [hn, Bool.true_and] at hk
      rw [Bool.and_eq_true] at hn
      obtain ⟨h1, h2⟩ := hn
      unfold numB at h1 h2
      rw [decide_eq_true_eq] at h1 h2
      rw [lies_good hb (by omega) (by omega), decide_eq_false_iff_not] at hk
      rw [if_pos rfl, if_pos rfl]
      unfold boardM
      rw [if_neg]
      simp only
      unfold many
      omega
    | false => rfl
  · have hE : askedE x (okAsk x i p t) = errOf false := by unfold askedE; rw [if_neg (by rw [hb]; simp)]
    rw [hE]
    unfold canR
    rw [askE_bad hb]
    rfl
theorem ask_ok {x : Book} {i p t : Int} (h : askedE x (okAsk x i p t) = 0) : bookOk x = true ∧ ∃ (i' p' t' : Nat), i = i' ∧ p = p' ∧ t = t' ∧ i' < x.planks.length ∧ p' < x.parts.length ∧ (t' : Int) ≤ (gw x.planks i').long - (gs x.parts p').long := by
  unfold askedE at h
  rcases Bool.eq_false_or_eq_true (bookOk x) with hb | hb
  · rw [if_pos hb] at h
    have hk : okAsk x i p t = true := by
      by_cases e : okAsk x i p t = true
      · exact e
      · rw [if_neg e] at h; cases h
    unfold okAsk numB at hk
    rw [Bool.and_eq_true, Bool.and_eq_true, decide_eq_true_eq, decide_eq_true_eq] at hk
    obtain ⟨⟨h1, h2⟩, h3⟩ := hk
    rw [lies_good hb (by omega) (by omega), decide_eq_true_eq] at h3
    refine ⟨hb, i.toNat, p.toNat, t.toNat, by omega, by omega, by omega, by omega, by omega, ?_⟩
    omega
  · rw [if_neg (by rw [hb]; simp)] at h; cases h

set_option maxRecDepth 100000 in
set_option maxHeartbeats 4000000 in
theorem refCan_any {B : Nat} {pa sa : Option Addr} {pn pc sn sc : Nat} {i p t : Int} {x : Book} {w : World} (hB : B ≤ w.heap.size) (hx : BookAt B w pa pn sa sn x) :
    Calls Try.prog 17 #[.agg #[.slice pa pn pc, .slice sa sn sc], .int .i64 i, .int .i64 p, .int .i64 t] w fun e w' => e = .returned (.tuple #[.int .i64 (canR x i p t).1, .int .i64 (canR x i p t).2]) ∧ Below w.heap.size w w' := by
  have hpn := Lib.hid hx.planks.len
  have hsn := Lib.hid hx.parts.len
  have hps := hx.planks.small
  have hss := hx.parts.small
  obtain ⟨W0, hW0⟩ : ∃ W0, W0 = w.alloc (.cells #[.slice pa pn pc, .slice sa sn sc] 25) := ⟨_, rfl⟩
  have hb0 : Below w.heap.size w W0 := by rw [hW0]; exact (Below.refl _ _).alloc (Nat.le_refl _) _
  have hk0 : Blk W0 w.heap.size #[.slice pa pn pc, .slice sa sn sc] := by rw [hW0]; exact Blk.new w _ _
  have l0 : w.heap.size < W0.heap.size := hk0.lt
  have hx0 := Lib.hid (hx.keep (w' := W0) (Nat.le_refl _) (fun b o h => bcells hb0 b o (by omega)))
  clear hx
  obtain ⟨b1, hb1⟩ : ∃ b1, numB pn i = b1 := ⟨_, rfl⟩
  obtain ⟨b2, hb2⟩ : ∃ b2, numB sn p = b2 := ⟨_, rfl⟩
  obtain ⟨b3, hb3⟩ : ∃ b3, liesB x i.toNat p.toNat t = b3 := ⟨_, rfl⟩
  obtain ⟨E, hE⟩ : ∃ E, E = askedE x (okAsk x i p t) := ⟨_, rfl⟩
  obtain ⟨r1, hr1⟩ : ∃ r1, r1 = (canR x i p t).1 := ⟨_, rfl⟩
  obtain ⟨r2, hr2⟩ : ∃ r2, r2 = (canR x i p t).2 := ⟨_, rfl⟩
  rw [← hr1, ← hr2]
  have hE2 : Hid (E = askedE x (b1 && b2 && b3)) := Lib.hid (by rw [hE]; unfold okAsk; rw [hpn.out, hsn.out, hb1, hb2, hb3])
  have hb1' := Lib.hid hb1
  have hb2' := Lib.hid hb2
  have hb3' := Lib.hid hb3
  have hE' := Lib.hid hE
  have hr := Lib.hid (And.intro hr1 hr2)
  clear hb1 hb2 hb3 hE hr1 hr2
  go_enter Try.func17, Try.ntmps17
  replace hW0 := hW0.symm
  go_upto_region 1 with fail
  clear hW0
  go_cut [10] (fun s wx => s = .int .i64 E ∧ Below W0.heap.size W0 wx)
  case first =>
    have hO := open_wide
    have hF := hO.fn
    have hd := hO.depth
    have hS0 : SameBut (fun _ => False) W0 W0.drew := (SameBut.refl _ _).drew
    have hread : ∀ w', SameBut (fun _ => False) W0 w' → w'.cell? ⟨w.heap.size, 0, none⟩ = some (.slice pa pn pc) ∧ w'.cell? ⟨w.heap.size, 1, none⟩ = some (.slice sa sn sc) := fun w' h =>
      ⟨(hk0.same h (fun e => e)).cell, (hk0.same h (fun e => e)).cell⟩
    cases b1 with
    | false =>
      refine region_planW (fun w' => SameBut (fun _ => False) W0 w') [(0, true), (1, true), (2, true), (3, false), (4, true), (5, true), (6, true), (7, true), (8, true), (9, true), (10, true), (11, true), (12, true), (13, true), (14, true), (15, true), (16, false), (17, true)] (by kernel_rfl) (by kernel_rfl) (by kernel_rfl) (by decide) (by kernel_rfl) ?_
      iterate 3
        (refine plan_take ?_ rfl hS0 (by rfl) ?_ ?_
         rotate_left
         · intro w' hw'
           obtain ⟨q1, q2⟩ := hread w' hw'
           go_simp
           with_reducible rfl
         simp only [Act.put, List.setIfInBounds_toArray, List.set_cons_zero, List.set_cons_succ])
      refine plan_one rfl (by rfl) (fun K hK => ?_)
      go_simp
      refine (hO.calls (isPlank_any hps)).mono ?_
      rintro e w5 ⟨rfl, hb5⟩
      rw [hb1'.out]
      have hS5 : SameBut (fun _ => False) W0 w5 := hS0.below hb5
      refine hK _ _ hS5 ?_
      clear hK K hb5
      iterate 1
        (refine plan_take ?_ rfl hS5 (by rfl) ?_ ?_
         rotate_left
         · intro w' hw'
           go_simp
           with_reducible rfl
         simp only [Act.put, List.setIfInBounds_toArray, List.set_cons_zero, List.set_cons_succ])
      iterate 3
        (refine plan_skip rfl hS5 (by rfl) ?_
         simp only [Act.put, List.setIfInBounds_toArray, List.set_cons_zero, List.set_cons_succ])
      iterate 2
        (refine plan_take ?_ rfl hS5 (by rfl) ?_ ?_
         rotate_left
         · intro w' hw'
           go_simp
           with_reducible rfl
         simp only [Act.put, List.setIfInBounds_toArray, List.set_cons_zero, List.set_cons_succ])
      iterate 5
        (refine plan_skip rfl hS5 (by rfl) ?_
         simp only [Act.put, List.setIfInBounds_toArray, List.set_cons_zero, List.set_cons_succ])
      iterate 1
        (refine plan_take ?_ rfl hS5 (by rfl) ?_ ?_
         rotate_left
         · intro w' hw'
           go_simp
           with_reducible rfl
         simp only [Act.put, List.setIfInBounds_toArray, List.set_cons_zero, List.set_cons_succ])
      refine plan_one rfl (by rfl) (fun K hK => ?_)
      go_simp
      refine (hO.calls (asked_any (B := B) (ok := false) (by have := hS5.size; omega) (hx0.out.keep (Nat.le_refl _) (fun b o h => hS5.cell (by omega) (fun e => e))))).mono ?_
      rintro e w6 ⟨rfl, hb6⟩
      have hS6 : SameBut (fun _ => False) W0 w6 := hS5.below hb6
      refine hK _ _ hS6 ?_
      clear hK K hb6
      iterate 1
        (refine plan_take ?_ rfl hS6 (by rfl) ?_ ?_
         rotate_left
         · intro w' hw'
           go_simp
           with_reducible rfl
         simp only [Act.put, List.setIfInBounds_toArray, List.set_cons_zero, List.set_cons_succ])
      unfold planW okN
      go_wp2_with fail
      go_meet
      exact ⟨by rw [hE2.out]; rfl, hS6.toBelow (Nat.le_refl _) (fun _ h => h.elim)⟩
    | true =>
    have hi1 := hb1'.out
    unfold numB at hi1
    rw [decide_eq_true_eq] at hi1
    obtain ⟨i', rfl⟩ := Int.eq_ofNat_of_zero_le hi1.1
    have hi2 : i' < pn := by omega
    clear hi1
    cases b2 with
    | false =>
      refine region_planW (fun w' => SameBut (fun _ => False) W0 w') [(0, true), (1, true), (2, true), (3, false), (4, true), (5, true), (6, true), (7, false), (8, true), (9, true), (10, true), (11, true), (12, true), (13, true), (14, true), (15, true), (16, false), (17, true)] (by kernel_rfl) (by kernel_rfl) (by kernel_rfl) (by decide) (by kernel_rfl) ?_
      iterate 3
        (refine plan_take ?_ rfl hS0 (by rfl) ?_ ?_
         rotate_left
         · intro w' hw'
           obtain ⟨q1, q2⟩ := hread w' hw'
           go_simp
           with_reducible rfl
         simp only [Act.put, List.setIfInBounds_toArray, List.set_cons_zero, List.set_cons_succ])
      refine plan_one rfl (by rfl) (fun K hK => ?_)
      go_simp
      refine (hO.calls (isPlank_any hps)).mono ?_
      rintro e w5 ⟨rfl, hb5⟩
      rw [hb1'.out]
      have hS5 : SameBut (fun _ => False) W0 w5 := hS0.below hb5
      refine hK _ _ hS5 ?_
      clear hK K hb5
      iterate 3
        (refine plan_take ?_ rfl hS5 (by rfl) ?_ ?_
         rotate_left
         · intro w' hw'
           obtain ⟨q1, q2⟩ := hread w' hw'
           go_simp
           with_reducible rfl
         simp only [Act.put, List.setIfInBounds_toArray, List.set_cons_zero, List.set_cons_succ])
      refine plan_one rfl (by rfl) (fun K hK => ?_)
      go_simp
      refine (hO.calls (isPart_any hss)).mono ?_
      rintro e w6 ⟨rfl, hb6⟩
      rw [hb2'.out]
      have hS6 : SameBut (fun _ => False) W0 w6 := hS5.below hb6
      refine hK _ _ hS6 ?_
      clear hK K hb6
      iterate 2
        (refine plan_take ?_ rfl hS6 (by rfl) ?_ ?_
         rotate_left
         · intro w' hw'
           go_simp
           with_reducible rfl
         simp only [Act.put, List.setIfInBounds_toArray, List.set_cons_zero, List.set_cons_succ])
      iterate 5
        (refine plan_skip rfl hS6 (by rfl) ?_
         simp only [Act.put, List.setIfInBounds_toArray, List.set_cons_zero, List.set_cons_succ])
      iterate 1
        (refine plan_take ?_ rfl hS6 (by rfl) ?_ ?_
         rotate_left
         · intro w' hw'
           go_simp
           with_reducible rfl
         simp only [Act.put, List.setIfInBounds_toArray, List.set_cons_zero, List.set_cons_succ])
      refine plan_one rfl (by rfl) (fun K hK => ?_)
      go_simp
      refine (hO.calls (asked_any (B := B) (ok := false) (by have := hS6.size; omega) (hx0.out.keep (Nat.le_refl _) (fun b o h => hS6.cell (by omega) (fun e => e))))).mono ?_
      rintro e w7 ⟨rfl, hb7⟩
      have hS7 : SameBut (fun _ => False) W0 w7 := hS6.below hb7
      refine hK _ _ hS7 ?_
      clear hK K hb7
      iterate 1
        (refine plan_take ?_ rfl hS7 (by rfl) ?_ ?_
         rotate_left
         · intro w' hw'
           go_simp
           with_reducible rfl
         simp only [Act.put, List.setIfInBounds_toArray, List.set_cons_zero, List.set_cons_succ])
      unfold planW okN
      go_wp2_with fail
      go_meet
      exact ⟨by rw [hE2.out]; rfl, hS7.toBelow (Nat.le_refl _) (fun _ h => h.elim)⟩
    | true =>
    have hi1 := hb2'.out
    unfold numB at hi1
    rw [decide_eq_true_eq] at hi1
    obtain ⟨p', rfl⟩ := Int.eq_ofNat_of_zero_le hi1.1
    have hp2 : p' < sn := by omega
    clear hi1
    refine region_planW (fun w' => SameBut (fun _ => False) W0 w') [(0, true), (1, true), (2, true), (3, false), (4, true), (5, true), (6, true), (7, false), (8, true), (9, true), (10, true), (11, true), (12, true), (13, true), (14, false), (15, true), (16, false), (17, true)] (by kernel_rfl) (by kernel_rfl) (by kernel_rfl) (by decide) (by kernel_rfl) ?_
    iterate 3
      (refine plan_take ?_ rfl hS0 (by rfl) ?_ ?_
       rotate_left
       · intro w' hw'
         obtain ⟨q1, q2⟩ := hread w' hw'
         go_simp
         with_reducible rfl
       simp only [Act.put, List.setIfInBounds_toArray, List.set_cons_zero, List.set_cons_succ])
    refine plan_one rfl (by rfl) (fun K hK => ?_)
    go_simp
    refine (hO.calls (isPlank_any hps)).mono ?_
    rintro e w5 ⟨rfl, hb5⟩
    rw [hb1'.out]
    have hS5 : SameBut (fun _ => False) W0 w5 := hS0.below hb5
    refine hK _ _ hS5 ?_
    clear hK K hb5
    iterate 3
      (refine plan_take ?_ rfl hS5 (by rfl) ?_ ?_
       rotate_left
       · intro w' hw'
         obtain ⟨q1, q2⟩ := hread w' hw'
         go_simp
         with_reducible rfl
       simp only [Act.put, List.setIfInBounds_toArray, List.set_cons_zero, List.set_cons_succ])
    refine plan_one rfl (by rfl) (fun K hK => ?_)
    go_simp
    refine (hO.calls (isPart_any hss)).mono ?_
    rintro e w6 ⟨rfl, hb6⟩
    rw [hb2'.out]
    have hS6 : SameBut (fun _ => False) W0 w6 := hS5.below hb6
    refine hK _ _ hS6 ?_
    clear hK K hb6
    iterate 6
      (refine plan_take ?_ rfl hS6 (by rfl) ?_ ?_
       rotate_left
       · intro w' hw'
         obtain ⟨q1, q2⟩ := hread w' hw'
         go_simp
         with_reducible rfl
       simp only [Act.put, List.setIfInBounds_toArray, List.set_cons_zero, List.set_cons_succ])
    refine plan_one rfl (by rfl) (fun K hK => ?_)
    go_simp
    refine (hO.calls (lies_any (B := B) (x := x) (t := t) (by have := hS6.size; omega) (hx0.out.keep (Nat.le_refl _) (fun b o h => hS6.cell (by omega) (fun e => e))) hi2 hp2)).mono ?_
    rintro e w7 ⟨rfl, hb7⟩
    rw [show liesB x i' p' t = b3 from hb3'.out]
    have hS7 : SameBut (fun _ => False) W0 w7 := hS6.below hb7
    refine hK _ _ hS7 ?_
    clear hK K hb7
    iterate 1
      (refine plan_take ?_ rfl hS7 (by rfl) ?_ ?_
       rotate_left
       · intro w' hw'
         go_simp
         with_reducible rfl
       simp only [Act.put, List.setIfInBounds_toArray, List.set_cons_zero, List.set_cons_succ])
    refine plan_one rfl (by rfl) (fun K hK => ?_)
    go_simp
    refine (hO.calls (asked_any (B := B) (ok := b3) (by have := hS7.size; omega) (hx0.out.keep (Nat.le_refl _) (fun b o h => hS7.cell (by omega) (fun e => e))))).mono ?_
    rintro e w8 ⟨rfl, hb8⟩
    have hS8 : SameBut (fun _ => False) W0 w8 := hS7.below hb8
    refine hK _ _ hS8 ?_
    clear hK K hb8
    iterate 1
      (refine plan_take ?_ rfl hS8 (by rfl) ?_ ?_
       rotate_left
       · intro w' hw'
         go_simp
         with_reducible rfl
       simp only [Act.put, List.setIfInBounds_toArray, List.set_cons_zero, List.set_cons_succ])
    unfold planW okN
    go_wp2_with fail
    go_meet
    exact ⟨by rw [hE2.out]; rfl, hS8.toBelow (Nat.le_refl _) (fun _ h => h.elim)⟩
  case rest =>
  obtain ⟨rfl, hb4⟩ := hcut
  obtain ⟨w1, hw1⟩ : ∃ w1, w1 = wc := ⟨_, rfl⟩
  rw [← hw1] at hb4 ⊢
  clear hw1 hb1' hb2' hb3' hE2
  have hbw : Below w.heap.size w w1 := hb0.trans (hb4.mono (by omega))
  replace hk0 := hk0.below hb4 hk0.lt
  replace hx0 := Lib.hid (hx0.out.keep (w' := w1) (Nat.le_refl _) (fun b o h => bcells hb4 b o (by omega)))
  have hBw : B ≤ w1.heap.size := by have := hbw.size; omega
  clear hb4 hb0 l0
  have q0 : w1.cell? ⟨w.heap.size, 0, none⟩ = some (.slice pa pn pc) := hk0.cell
  have q1 : w1.cell? ⟨w.heap.size, 1, none⟩ = some (.slice sa sn sc) := hk0.cell
  by_cases h0 : E = 0
  · have hee : (E != 0) = false := by simp [h0]
    obtain ⟨hb, i', p', t', rfl, rfl, rfl, hi, hp, ht⟩ := ask_ok (hE'.out.symm.trans h0)
    have hcg := Lib.hid (can_good hb hi hp ht)
    have hra := Lib.hid (refAns_eq (W := gw x.planks i') (S := gs x.parts p') (t := t') (fun k hk => (good_of hb).knot i' hi k hk))
    clear h0
    go_wp2_with (fail)
    refine (refcan_any (B := B) hBw hx0.out hb (by rw [← hpn.out]; exact hi) (by rw [← hsn.out]; exact hp) ht).mono ?_
    rintro e w2 ⟨rfl, hb2⟩
    go_wp2_with (fail)
    go_ret2
    refine ⟨?_, hbw.trans (hb2.mono hbw.size)⟩
    rw [hr.out.1, hr.out.2, hcg.out, hra.out]
    rfl
  · have hee : (E != 0) = true := by simp [h0]
    have hcg := Lib.hid (can_ask (x := x) (i := i) (p := p) (t := t) (by rw [← hE'.out]; exact h0))
    clear h0
    go_wp2_with (fail)
    go_ret2
    refine ⟨?_, hbw⟩
    rw [hr.out.1, hr.out.2, hcg.out, ← hE'.out]
    rfl
end Go.Proofs.Ytbbolibkheelmaa
namespace Go.Proofs.Ytbbolibkheelmaa
open Go.RowKit Go.Shelf

/-- One number more behind a slice of one's own. -/
theorem grow_int {w : World} {base : Nat} {va : Option Addr} {vn vc : Nat} {xs : List Int} (y : Int) (hown : w.ownsRow base 3 1 (.slice va vn vc) xs.length (xs.map intV)) (hx : xs.length ≤ 1000) (hb : base ≤ w.heap.size) :
    ∃ v' w', (appendS #[31, 31] 31 #[.slice va vn vc, .slice (some ⟨w.heap.size, 0, none⟩) 1 1]).run Try.prog (w.alloc (.cells #[.int .i64 y] 3)) = .ok v' w' ∧
      w'.ownsRow base 3 1 v' (xs ++ [y]).length ((xs ++ [y]).map intV) ∧ SameBut (fun i => base ≤ i) w w' := by
  obtain ⟨i0, hi, hz0, hz1, hz2⟩ := info_parts intInfo3
  obtain ⟨v', w7, hap, hown7, hgr7, _, _⟩ := run_append_own_at (P := Try.prog) (w := w.alloc (.cells #[.int .i64 y] 3)) base 31 31 3 i0 (.int .i64 0) 1 8 intsUnder hi hz0 hz1 hz2 rfl (by decide) (.slice va vn vc) _ _ (hown.alloc _) ⟨w.heap.size, 0, none⟩ 1 1 [.int .i64 y] rfl
    (fun j u hj => by
      match j, hj with
      | 0, hj =>
        simp at hj; subst hj
        exact (Blk.new w #[.int .i64 y] 3).cell)
    (fun u hu => by simp at hu; subst hu; rfl) (by unfold maxLen; omega) (by omega) (by simp; omega)
  have hlt6 := hown.lt
  refine ⟨v', w7, hap, ?_, ((SameBut.refl _ w).alloc _).trans (same_grown hgr7 (fun k h => (hlt6 k h).1))⟩
  rw [List.length_append, List.map_append]; exact hown7
theorem own_below {w w' : World} {base e size n : Nat} {v : Value} {xs : List Value} (h : w.ownsRow base e size v n xs) (hb : Below w.heap.size w w') : w'.ownsRow base e size v n xs :=
  own_same h (SameBut.of_below (M := fun _ => False) hb (Nat.le_refl _)) (fun _ _ h => h)

/-- The spots among the first k inches. -/
def spU (x : Book) (i p k : Nat) : List Int := ((List.range k).filter fun t => decide (ansOf (gw x.planks i) (gs x.parts p) t = 2)).map fun (t : Nat) => (t : Int)
theorem spU_succ (x : Book) (i p k : Nat) : spU x i p (k + 1) = spU x i p k ++ (if ansOf (gw x.planks i) (gs x.parts p) k = 2 then [(k : Int)] else []) := by
  unfold spU
  rw [List.range_succ, List.filter_append, List.map_append]
  by_cases h : ansOf (gw x.planks i) (gs x.parts p) k = 2 <;> simp [h]
theorem spU_len (x : Book) (i p k : Nat) : (spU x i p k).length ≤ k := by
  unfold spU; rw [List.length_map]
  have := List.length_filter_le (fun t => decide (ansOf (gw x.planks i) (gs x.parts p) t = 2)) (List.range k)
  rwa [List.length_range] at this
theorem spU_i64 {x : Book} {i p k j : Nat} (hk : k ≤ 1000) (h : j < (spU x i p k).length) : I64 (gi (spU x i p k) j) := by
  rw [gi_eq h]
  have := List.getElem_mem h
  unfold spU at this
  rw [List.mem_map] at this
  obtain ⟨t, ht, e⟩ := this
  rw [List.mem_filter, List.mem_range] at ht
  unfold I64
  unfold spU
  rw [← e]
  omega

attribute [local go_sem ↓] append_alias

set_option maxRecDepth 100000 in
set_option maxHeartbeats 4000000 in
theorem refspots_own {B : Nat} {pa sa : Option Addr} {pn pc sn sc i p : Nat} {x : Book} {w : World} (hB : B ≤ w.heap.size) (hx : BookAt B w pa pn sa sn x) (hb : bookOk x = true) (hi : i < pn) (hp : p < sn) :
    Calls Try.prog 70 #[.agg #[.slice pa pn pc, .slice sa sn sc], .int .i64 i, .int .i64 p] w fun e w' => ∃ v, e = .returned v ∧ w'.ownsRow (w.heap.size + 1) 3 1 v (spotsL x i p).length ((spotsL x i p).map intV) ∧ Below w.heap.size w w' := by
  have hxi : i < x.planks.length := by rw [hx.planks.len]; exact hi
  have hxp : p < x.parts.length := by rw [hx.parts.len]; exact hp
  obtain ⟨N, hN⟩ : ∃ N, N = many (gw x.planks i).long (gs x.parts p).long := ⟨_, rfl⟩
  have hsp : Hid (spotsL x i p = spU x i p N) := Lib.hid (by rw [spots_good hb hxi hxp, hN]; rfl)
  have hNl : Hid (∀ k : Nat, k ≤ N → liesB x i p k = decide (k < N)) := Lib.hid (fun k hk => by
    rw [lies_good hb hxi hxp, hN, decide_eq_decide]
    unfold many; omega)
  have hNt : Hid (∀ k : Nat, k < N → (k : Int) ≤ (gw x.planks i).long - (gs x.parts p).long) := Lib.hid (fun k hk => by rw [hN] at hk; unfold many at hk; omega)
  have hN16 : N ≤ 16 := by
    have h1 := (good_of hb).wood i hxi
    have h2 := (good_of hb).shape p hxp
    rw [hN]; unfold many; omega
  have hra : Hid (∀ k, refAns (gw x.planks i) (gs x.parts p) k = ansOf (gw x.planks i) (gs x.parts p) k) := Lib.hid (fun k => refAns_eq (fun j hj => (good_of hb).knot i hxi j hj))
  clear hN
  obtain ⟨W0, hW0⟩ : ∃ W0, W0 = (w.alloc (.cells #[.slice pa pn pc, .slice sa sn sc] 25)).alloc (.cells #[] 3) := ⟨_, rfl⟩
  have hb0 : Below w.heap.size w W0 := by rw [hW0]; exact ((Below.refl _ _).alloc (Nat.le_refl _) _).alloc (by simp) _
  have hk0 : Blk W0 w.heap.size #[.slice pa pn pc, .slice sa sn sc] := by rw [hW0]; exact (Blk.new w _ _).alloc _
  have hz0 : W0.heap.size = w.heap.size + 2 := by rw [hW0]; simp
  have ho0 : W0.ownsRow (w.heap.size + 1) 3 1 (.slice (some ⟨w.heap.size + 1, 0, none⟩) 0 0) 0 [] := by
    rw [hW0]
    have := World.ownsRow_lit (base := w.heap.size + 1) (e := 3) (size := 1) (w.alloc (.cells #[.slice pa pn pc, .slice sa sn sc] 25)) #[] 0 (by simp) (by decide) rfl
    rw [World.size_alloc] at this
    exact this
  have hx0 := Lib.hid (hx.keep (w' := W0) (Nat.le_refl _) (fun b o h => bcells hb0 b o (by omega)))
  have hb' := Lib.hid hb
  have l0 : w.heap.size + 1 < W0.heap.size := by omega
  clear hx hb hz0
  go_enter Try.func70, Try.ntmps70
  replace hW0 := hW0.symm
  go_wp2_with (fail)
  clear hW0
  go_loopw [7, 8] (fun l v wr => ∃ k : Nat, k ≤ N ∧ v = .int .i64 k ∧ wr.ownsRow (w.heap.size + 1) 3 1 l (spU x i p k).length ((spU x i p k).map intV) ∧ SameBut (fun b => w.heap.size + 1 ≤ b) W0 wr) (fun _ v _ => N - (intOf v).toNat)
  case atStart => exact ⟨0, by omega, rfl, ho0, SameBut.refl _ _⟩
  case round =>
    obtain ⟨k, hk, rfl, hown, hs⟩ := hrel
    obtain ⟨va, vn, vc, hv⟩ := own_slice hown
    subst hv
    have hkr := hk0.same hs (by omega)
    have hzr := hs.size
    have q0 : wr.cell? ⟨w.heap.size, 0, none⟩ = some (.slice pa pn pc) := hkr.cell
    have q1 : wr.cell? ⟨w.heap.size, 1, none⟩ = some (.slice sa sn sc) := hkr.cell
    have hxr := Lib.hid (hx0.out.keep (w' := wr) (Nat.le_refl _) (fun b o h => hs.cell (by omega) (by omega)))
    have hbwr : Below w.heap.size w wr := hb0.trans (hs.toBelow (by omega) (fun b h => by omega))
    have hl := hNl.out k hk
    by_cases hlt : k < N
    · rw [decide_eq_true hlt] at hl
      have hl' := Lib.hid hl
      clear hl
      go_wp2_with (fail)
      refine (lies_any (B := B) (x := x) (t := k) (by omega) hxr.out hi hp).mono ?_
      rintro e w5 ⟨rfl, hb5⟩
      rw [hl'.out]
      have hs5 := hs.below hb5
      have hown5 := own_below hown hb5
      have hk5 := hkr.below hb5 hkr.lt
      have hz5 := hb5.size
      have hx5 := Lib.hid (hxr.out.keep (w' := w5) (Nat.le_refl _) (fun b o h => bcells hb5 b o (by omega)))
      clear hb5 hown hs hkr hxr q0 q1 hbwr
      have q0 : w5.cell? ⟨w.heap.size, 0, none⟩ = some (.slice pa pn pc) := hk5.cell
      have q1 : w5.cell? ⟨w.heap.size, 1, none⟩ = some (.slice sa sn sc) := hk5.cell
      go_wp2_with (fail)
      refine (refcan_any (B := B) (t := k) (by omega) hx5.out hb'.out hi hp (hNt.out k hlt)).mono ?_
      rintro e w6 ⟨rfl, hb6⟩
      rw [hra.out]
      have hs6 := hs5.below hb6
      have hown6 := own_below hown5 hb6
      have hz6 := hb6.size
      have hsu := spU_succ x i p k
      obtain ⟨A, hA⟩ : ∃ A, A = ansOf (gw x.planks i) (gs x.parts p) k := ⟨_, rfl⟩
      rw [← hA] at hsu ⊢
      clear hA hb6 hown5 hs5 hk5 hx5 q0 q1
      by_cases h2 : A = 2
      · rw [if_pos h2] at hsu
        have h2' : (A == 2) = true := by simp [h2]
        have hsl := spU_len x i p k
        obtain ⟨v', w7, hap, hown7, hs7⟩ := grow_int (k : Int) hown6 (by omega) (by omega)
        rw [← hsu] at hown7
        have hown7' := Lib.hid hown7
        clear hown7 hsu h2 hown6
        go_wp2_with (fail)
        go_roundw
        case rel => exact ⟨k + 1, by omega, by go_num, hown7'.out, hs6.trans hs7⟩
        case measure => simp [intOf]; omega
      · rw [if_neg h2, List.append_nil] at hsu
        have h2' : (A == 2) = false := by simp [h2]
        have hown7' : Hid (w6.ownsRow (w.heap.size + 1) 3 1 (.slice va vn vc) (spU x i p (k + 1)).length ((spU x i p (k + 1)).map intV)) := Lib.hid (by rw [hsu]; exact hown6)
        clear hsu h2 hown6
        go_wp2_with (fail)
        go_roundw
        case rel => exact ⟨k + 1, by omega, by go_num, hown7'.out, hs6⟩
        case measure => simp [intOf]; omega
    · obtain rfl : k = N := by omega
      rw [decide_eq_false hlt] at hl
      have hl' := Lib.hid hl
      clear hl
      go_wp2_with (fail)
      refine (lies_any (B := B) (x := x) (t := k) (by omega) hxr.out hi hp).mono ?_
      rintro e w5 ⟨rfl, hb5⟩
      rw [hl'.out]
      have hown5 := own_below hown hb5
      have hbw5 := hbwr.trans (hb5.mono hbwr.size)
      clear hb5 hown
      go_wp2_with (fail)
      go_ret
      exact ⟨_, rfl, by rw [hsp.out]; exact hown5, hbw5⟩
theorem spots_spU {x : Book} {i p : Nat} (hb : bookOk x = true) (hi : i < x.planks.length) (hp : p < x.parts.length) : ∃ N, N ≤ 16 ∧ spotsL x i p = spU x i p N := by
  refine ⟨many (gw x.planks i).long (gs x.parts p).long, ?_, by rw [spots_good hb hi hp]; rfl⟩
  have h1 := (good_of hb).wood i hi
  have h2 := (good_of hb).shape p hp
  unfold many; omega
theorem refspots_any {B : Nat} {pa sa : Option Addr} {pn pc sn sc i p : Nat} {x : Book} {w : World} (hB : B ≤ w.heap.size) (hx : BookAt B w pa pn sa sn x) (hb : bookOk x = true) (hi : i < pn) (hp : p < sn) :
    Calls Try.prog 70 #[.agg #[.slice pa pn pc, .slice sa sn sc], .int .i64 i, .int .i64 p] w fun e w' => ∃ a m c, e = .returned (.slice a m c) ∧ IntsAt w'.heap.size w' a m (spotsL x i p) ∧ Below w.heap.size w w' := by
  obtain ⟨N, hN, hsp⟩ := spots_spU hb (by rw [hx.planks.len]; exact hi) (by rw [hx.parts.len]; exact hp)
  refine (refspots_own hB hx hb hi hp).mono ?_
  rintro e w' ⟨v, rfl, hown, hbw⟩
  rw [hsp] at hown ⊢
  obtain ⟨a, m, c, rfl, hxx⟩ := ints_of_own hown (fun j hj => spU_i64 (by omega) hj) (by have := spU_len x i p N; omega)
  exact ⟨_, _, _, rfl, hxx, hbw⟩
end Go.Proofs.Ytbbolibkheelmaa
