/- PlankLay returns true for every book, all three numbers and every list of numbers; no condition. Walks: PlankLay. -/
import Derived.Test.YtilbkmogmlcpaaaPl04
import Derived.Test.YtilbkmogmlcpaaaGa13
import Derived.Deep.DeepCutAuto
import Derived.Test.YtilbkmogmlcpaaaPl01
namespace Go.Proofs.Ytilbkmogmlcpaaa
open Go.RowKit Go.Shelf

/-- The inches to which numbers lead, one of each part's spots. -/
def atU (x : Book) (i : Nat) (parts bits : List Int) (k : Nat) : List Int := (List.range k).map fun j => takeI (spotsL x i (gi parts j)) (takeI bits j)
theorem atU_succ (x : Book) (i : Nat) (parts bits : List Int) (k : Nat) : atU x i parts bits (k + 1) = atU x i parts bits k ++ [takeI (spotsL x i (gi parts k)) (takeI bits k)] := by
  unfold atU; rw [List.range_succ, List.map_append]; rfl
theorem atU_len (x : Book) (i : Nat) (parts bits : List Int) (k : Nat) : (atU x i parts bits k).length = k := by unfold atU; rw [List.length_map, List.length_range]
theorem atU_get (x : Book) (i : Nat) (parts bits : List Int) {j k : Nat} (h : j < k) : gi (atU x i parts bits k) j = takeI (spotsL x i (gi parts j)) (takeI bits j) := by
  unfold gi atU
  rw [List.getD_eq_getElem?_getD, List.getElem?_map, List.getElem?_range h]; rfl
theorem takeI_mem {xs : List Int} {n : Int} (h : xs ≠ []) : takeI xs n ∈ xs := by
  have hl : xs.length ≠ 0 := fun e => h (List.eq_nil_of_length_eq_zero e)
  unfold takeI
  rw [if_neg hl]
  have := rnd_range (n := n) (m := xs.length) (by omega)
  rw [gi_eq (by omega)]
  exact List.getElem_mem _

theorem Take_eq {B : Nat} {a : Option Addr} {xs : List Int} {n c : Nat} {m : Int} {w : World} (hx : IntsAt B w a n xs) :
    Calls Try.prog 43 #[.slice a n c, .int .i64 m] w fun e w' => e = .returned (.int .i64 (takeI xs m)) ∧ w = w' := (Take_any hx).mono fun _ _ h => ⟨h.1, h.2.symm⟩

attribute [local go_sem ↓] append_alias

set_option maxRecDepth 100000 in
set_option maxHeartbeats 4000000 in
theorem lay_law {B : Nat} {pa sa ba : Option Addr} {pn pc sn sc bn bc : Nat} {x : Book} {bits : List Int} {n0 n1 n2 : Int} {w : World} (hB : B ≤ w.heap.size) (hx : BookAt B w pa pn sa sn x) (hbits : IntsAt B w ba bn bits) :
    Calls Try.prog 8 #[.agg #[.slice pa pn pc, .slice sa sn sc], .agg #[.int .i64 n0, .int .i64 n1, .int .i64 n2], .slice ba bn bc] w fun e w' => e = .returned (.bool true) ∧ Below w.heap.size w w' := by
  have hpn := Lib.hid hx.planks.len
  have hsn := Lib.hid hx.parts.len
  have hps := hx.planks.small
  have hss := hx.parts.small
  have hbs := hbits.small
  obtain ⟨W0, hW0⟩ : ∃ W0, W0 = (w.alloc (.cells #[.slice pa pn pc, .slice sa sn sc] 25)).alloc (.cells #[.int .i64 n0, .int .i64 n1, .int .i64 n2] 26) := ⟨_, rfl⟩
  have hb0 : Below w.heap.size w W0 := by rw [hW0]; exact ((Below.refl _ _).alloc (Nat.le_refl _) _).alloc (by simp) _
  have hk0 : Blk W0 w.heap.size #[.slice pa pn pc, .slice sa sn sc] := by rw [hW0]; exact (Blk.new w _ _).alloc _
  have hn0 : Blk W0 (w.heap.size + 1) #[.int .i64 n0, .int .i64 n1, .int .i64 n2] := by
    rw [hW0]
    have := Blk.new (w.alloc (.cells #[.slice pa pn pc, .slice sa sn sc] 25)) #[.int .i64 n0, .int .i64 n1, .int .i64 n2] 26
    rw [World.size_alloc] at this
    exact this
  have l0 : w.heap.size + 1 < W0.heap.size := hn0.lt
  have hx0 := Lib.hid (hx.keep (w' := W0) (Nat.le_refl _) (fun b o h => bcells hb0 b o (by omega)))
  have hbt := Lib.hid hbits
  clear hx hbits
  go_enter Try.func8, Try.ntmps8
  replace hW0 := hW0.symm
  have q0 : W0.cell? ⟨w.heap.size, 0, none⟩ = some (.slice pa pn pc) := hk0.cell
  have q1 : W0.cell? ⟨w.heap.size, 1, none⟩ = some (.slice sa sn sc) := hk0.cell
  go_wp2_with (fail)
  clear q0 q1 hW0
  refine (sound_any (B := B) (by omega) hx0.out).mono ?_
  rintro e w1 ⟨rfl, hb1⟩
  have hbw : Below w.heap.size w w1 := hb0.trans (hb1.mono (by omega))
  have hk1 := hk0.below hb1 (by omega)
  have hn1 := hn0.below hb1 l0
  have hx1 := Lib.hid (hx0.out.keep (w' := w1) (Nat.le_refl _) (fun b o h => bcells hb1 b o (by omega)))
  have l1 : w.heap.size + 1 < w1.heap.size := Nat.lt_of_lt_of_le l0 hb1.size
  clear hb1 hb0 hk0 hn0 hx0 l0
  rcases Bool.eq_false_or_eq_true (bookOk x) with hb | hb
  case inr =>
    rw [hb]
    clear hb
    go_wp2_with (fail)
    refine (sawn_any w1).mono ?_
    rintro e w2 ⟨rfl, hb2⟩
    go_wp2
    go_ret
    exact ⟨rfl, hbw.trans (hb2.mono (by omega))⟩
  rw [hb]
  have hG := Lib.hid (good_of hb)
  have hb' := Lib.hid hb
  clear hb
  have hp1 := hG.out.planks
  have hp2 := hG.out.parts
  rw [hpn.out] at hp1
  rw [hsn.out] at hp2
  obtain ⟨p1, p2⟩ := hp1
  obtain ⟨s1, s2⟩ := hp2
  have r0 := rnd_range (n := n0) (m := pn) (by omega)
  obtain ⟨i, hi⟩ : ∃ i : Nat, (i : Int) = rnd n0 pn := ⟨(rnd n0 pn).toNat, by omega⟩
  have hip : i < pn := by omega
  clear r0
  have hi' := Lib.hid hi
  have hIp : Hid (I64 (pn : Int)) := Lib.hid (by unfold I64; omega)
  clear hi
  have q0 : w1.cell? ⟨w.heap.size, 0, none⟩ = some (.slice pa pn pc) := hk1.cell
  have q2 : w1.cell? ⟨w.heap.size + 1, 0, none⟩ = some (.int .i64 n0) := hn1.cell
  go_wp2_with (fail)
  refine (Round_any _ hIp.out).mono ?_
  rintro e w2 ⟨rfl, rfl⟩
  rw [← hi'.out]
  clear q0 q2
  have hxi : i < x.planks.length := by rw [hpn.out]; exact hip
  obtain ⟨N, hN⟩ : ∃ N, N = 2 ^ sn := ⟨_, rfl⟩
  have hN1 : 1 ≤ N := by rw [hN]; exact Nat.pow_pos (by decide)
  have hN32 : N ≤ 32 := by rw [hN]; exact pow_le32 s2
  have hwr0 : Hid (wrap64 (2 ^ sn) = (N : Int)) := Lib.hid (by rw [hN]; exact wrap_pow s2)
  have hNI : Hid (I64 (N : Int)) := Lib.hid (by unfold I64; omega)
  obtain ⟨sv, hsv⟩ : ∃ sv : Nat, rnd n1 N = sv := ⟨(rnd n1 N).toNat, by have := rnd_range (n := n1) (m := N) (by omega); omega⟩
  have hsv32 : sv < 32 := by have := rnd_range (n := n1) (m := N) (by omega); omega
  have hsv' := Lib.hid hsv
  clear hN hsv
  go_upto_region 4 with fail
  go_cut [8] (fun s wx => ∃ (la : Option Addr) (lm lc : Nat), s = .slice la lm lc ∧ IntsAt wx.heap.size wx la lm (memU sv sn) ∧ Below w1.heap.size w1 wx)
  case first =>
    have hO := open_wide
    have hF := hO.fn
    have hd := hO.depth
    have hS0 : SameBut (fun _ => False) w1 w1.drew := (SameBut.refl _ _).drew
    have hread : ∀ w', SameBut (fun _ => False) w1 w' → w'.cell? ⟨w.heap.size + 1, 1, none⟩ = some (.int .i64 n1) ∧ w'.cell? ⟨w.heap.size, 1, none⟩ = some (.slice sa sn sc) := fun w' h =>
      ⟨(hn1.same h (fun e => e)).cell, (hk1.same h (fun e => e)).cell⟩
    have hwr : IntKind.i64.wrap (2 ^ sn) = (N : Int) := (IntWalk.i64_left _).trans hwr0.out
    refine region_planW (fun w' => SameBut (fun _ => False) w1 w') [(0, true), (1, true), (2, true), (3, true), (4, true), (5, true), (7, true), (8, true), (9, true), (6, false), (10, false), (11, true)] (by kernel_rfl) (by kernel_rfl) (by kernel_rfl) (by decide) (by kernel_rfl) ?_
    iterate 9
      (refine plan_take ?_ rfl hS0 (by rfl) ?_ ?_
       rotate_left
       · intro w' hw'
         obtain ⟨q1, q2⟩ := hread w' hw'
         go_simp
         with_reducible rfl
       simp only [Act.put, List.setIfInBounds_toArray, List.set_cons_zero, List.set_cons_succ])
    refine plan_one rfl (by rfl) (fun K hK => ?_)
    go_simp
    refine (hO.calls (Round_any (n := n1) (m := N) _ hNI.out)).mono ?_
    rintro e w8 ⟨rfl, rfl⟩
    rw [hsv'.out]
    refine hK _ _ hS0 ?_
    clear hK K
    refine plan_one rfl (by rfl) (fun K hK => ?_)
    go_simp
    refine (hO.calls (List_any (s := sv) (N := sn) hsv32 s2)).mono ?_
    rintro e w8 ⟨la, lm, lc, rfl, hl8, hb8⟩
    have hS8 : SameBut (fun _ => False) w1 w8 := hS0.below hb8
    refine hK _ _ hS8 ?_
    clear hK K
    refine plan_take ?_ rfl hS8 (by rfl) ?_ ?_
    rotate_left
    · intro w' hw'
      go_simp
      with_reducible rfl
    simp only [Act.put, List.setIfInBounds_toArray, List.set_cons_zero, List.set_cons_succ]
    unfold planW okN
    go_wp2_with fail
    go_meet
    exact ⟨_, _, _, rfl, hl8, hS8.toBelow (Nat.le_refl _) (fun _ h => h.elim)⟩
  case rest =>
  obtain ⟨la, lm, lc, rfl, hl8, hb8⟩ := hcut
  obtain ⟨w2, hw2⟩ : ∃ w2, w2 = wc := ⟨_, rfl⟩
  rw [← hw2] at hl8 hb8 ⊢
  clear hw2 hwr0 hsv' hNI
  obtain ⟨parts, hparts⟩ : ∃ parts, parts = memU sv sn := ⟨_, rfl⟩
  have hP : Hid (Parts x parts) := Lib.hid (by rw [hparts]; exact parts_mem s2 hsn.out.symm)
  rw [← hparts] at hl8
  have hlen := Lib.hid hl8.len
  have hlm5 : lm ≤ 5 := by rw [← hl8.len]; exact hP.out.five
  have hbw2 : Below w.heap.size w w2 := hbw.trans (hb8.mono (by omega))
  have hk2 := hk1.below hb8 (by omega)
  have hn2 := hn1.below hb8 l1
  have hx2 := Lib.hid (hx1.out.keep (B' := w2.heap.size) (w' := w2) (by have := hbw.size; have := hb8.size; omega) (fun b o h => bcells hb8 b o (by have := hbw.size; omega)))
  have hl2' := Lib.hid hl8
  have l2 : w.heap.size + 1 < w2.heap.size := hn2.lt
  clear hparts hl8 hb8 hbw hk1 hn1 hx1 l1
  obtain ⟨o, ho⟩ : ∃ o, o = layL (boardM (gw x.planks i) x.parts x.parts.length) x.parts (gw x.planks i).long parts := ⟨_, rfl⟩
  have hlg := lay_parts hb'.out hxi hP.out
  rw [← ho] at hlg
  have ho' := Lib.hid ho
  clear ho
  have q0 : w2.cell? ⟨w.heap.size, 0, none⟩ = some (.slice pa pn pc) := hk2.cell
  have q1 : w2.cell? ⟨w.heap.size, 1, none⟩ = some (.slice sa sn sc) := hk2.cell
  go_wp2_with (fail)
  have hlay := Lay_any (pc := pc) (sc := sc) (i := (i : Int)) (lc := lc) (Nat.le_refl _) hx2.out hl2'.out
  rw [hlg] at hlay
  refine hlay.mono ?_
  clear hlay hlg q0 q1
  rintro e w3 ⟨ra, rn, rc, rfl, hl3, hb3⟩
  obtain ⟨Lr, hLr⟩ : ∃ Lr, Lr = (layO o).1 := ⟨_, rfl⟩
  obtain ⟨Er, hEr⟩ : ∃ Er, Er = (layO o).2 := ⟨_, rfl⟩
  rw [← hLr] at hl3
  rw [← hEr]
  have hLr' := Lib.hid hLr
  have hEr' := Lib.hid hEr
  clear hLr hEr
  go_wp2_with (fail)
  obtain ⟨w4, hw4⟩ : ∃ w4, w4 = w3.alloc (.cells #[] 3) := ⟨_, rfl⟩
  obtain ⟨c3, hc3⟩ : ∃ c3, c3 = w3.heap.size := ⟨_, rfl⟩
  have hz4 : w4.heap.size = c3 + 1 := by rw [hw4, hc3]; simp
  have ho4 : w4.ownsRow c3 3 1 (.slice (some ⟨c3, 0, none⟩) 0 0) 0 [] := by
    rw [hw4, hc3]
    exact World.ownsRow_lit (base := w3.heap.size) (e := 3) (size := 1) w3 #[] 0 (Nat.le_refl _) (by decide) rfl
  have hb24 : Below w2.heap.size w2 w4 := by rw [hw4]; exact hb3.alloc hb3.size _
  have hb34 : Below w3.heap.size w3 w4 := by rw [hw4]; exact (Below.refl _ _).alloc (Nat.le_refl _) _
  have hz3 := hb3.size
  have hbw4 : Below w.heap.size w w4 := hbw2.trans (hb24.mono (by omega))
  have hk4 := hk2.below hb24 (by omega)
  have hn4 := hn2.below hb24 l2
  have hx4 := Lib.hid (hx2.out.keep (w' := w4) (Nat.le_refl _) (fun b o h => bcells hb24 b o h))
  have hl4 := Lib.hid (hl2'.out.keep (w' := w4) (Nat.le_refl _) (fun b o h => bcells hb24 b o h))
  have hr4 := Lib.hid (hl3.keep (w' := w4) (Nat.le_refl _) (fun b o h => bcells hb34 b o h))
  have hbt4 := Lib.hid (hbt.out.keep (w' := w4) (Nat.le_refl _) (fun b o h => bcells hbw4 b o (by omega)))
  have hrl := Lib.hid hl3.len
  have hw2z := hbw2.size
  rw [← hc3] at hz3
  rw [← hw4, ← hc3]
  have hc3' := Lib.hid hc3
  have hz4' := Lib.hid hz4
  have hz4b : c3 < w4.heap.size := by omega
  clear hw4 hc3 hz4 hb24 hb34 hk2 hn2 hx2 hl2' hl3 hbt hb3
  obtain ⟨i0, hi0, hz0, hz1, hz2⟩ := info_parts intInfo3
  go_loopw [11, 12] (fun l v wr => ∃ k : Nat, k ≤ lm ∧ v = .int .i64 k ∧ wr.ownsRow c3 3 1 l (atU x i parts bits k).length ((atU x i parts bits k).map intV) ∧ Hid (∀ j, j < k → spotsL x i (gi parts j) ≠ []) ∧ SameBut (fun b => c3 ≤ b) w4 wr) (fun _ v _ => lm - (intOf v).toNat)
  case atStart => exact ⟨0, by omega, rfl, ho4, fun j hj => absurd hj (by omega), SameBut.refl _ _⟩
  case round =>
    obtain ⟨k, hk, rfl, hown, hne, hs⟩ := hrel
    obtain ⟨va, vn, vc, hv⟩ := own_slice hown
    subst hv
    have hkr := hk4.same hs (by omega)
    have hnr := hn4.same hs (by omega)
    have hzr := hs.size
    have hbwr : Below w.heap.size w wr := hbw4.trans (hs.toBelow (by omega) (fun b h => by omega))
    have hxr := Lib.hid (hx4.out.keep (w' := wr) (Nat.le_refl _) (fun b o h => hs.cell (by omega) (by omega)))
    have hlr := Lib.hid (hl4.out.keep (w' := wr) (Nat.le_refl _) (fun b o h => hs.cell (by omega) (by omega)))
    have hrr := Lib.hid (hr4.out.keep (w' := wr) (Nat.le_refl _) (fun b o h => hs.cell (by have := hc3'.out; omega) (by have := hc3'.out; omega)))
    have hbr := Lib.hid (hbt4.out.keep (w' := wr) (Nat.le_refl _) (fun b o h => hs.cell (by omega) (by omega)))
    have hatl := Lib.hid (atU_len x i parts bits k)
    by_cases hlt : k < lm
    · have dk : decide ((k : Int) < lm) = true := decide_eq_true (by omega)
      have hki : (k : Int) < lm := by omega
      obtain ⟨lb, lo, rfl, hlB, hlc⟩ := hlr.out.get k hlt
      have g1 := (hlc k hlt).1
      clear hlc
      have hnum := hP.out.num k (by rw [hlen.out]; exact hlt)
      obtain ⟨p, hp⟩ : ∃ p : Nat, gi parts k = p := ⟨(gi parts k).toNat, by omega⟩
      rw [hp] at g1 hnum
      have hxp : p < x.parts.length := by omega
      have hp' := Lib.hid hp
      clear hp hnum
      go_upto_region 10 with fail
      go_cut [13, 14] (fun s13 s14 wx => ∃ (sa' : Option Addr) (sn' sc' : Nat), s13 = .slice sa' sn' sc' ∧ s14 = .int .i64 0 ∧ IntsAt wx.heap.size wx sa' sn' (spotsL x i p) ∧ Below wr.heap.size wr wx)
      case first =>
        have hO := open_wide
        have hF := hO.fn
        have hd := hO.depth
        have hS0 : SameBut (fun _ => False) wr wr.drew := (SameBut.refl _ _).drew
        have hread : ∀ w', SameBut (fun _ => False) wr w' → w'.cell? ⟨w.heap.size, 0, none⟩ = some (.slice pa pn pc) ∧ w'.cell? ⟨w.heap.size, 1, none⟩ = some (.slice sa sn sc) ∧ w'.cell? ⟨lb, lo + k, none⟩ = some (.int .i64 (p : Int)) := fun w' h =>
          ⟨(hkr.same h (fun e => e)).cell, (hkr.same h (fun e => e)).cell, (h.cell (by omega) (fun e => e)).trans g1⟩
        refine region_planW (fun w' => SameBut (fun _ => False) wr w') [(0, true), (1, true), (2, true), (3, true), (4, true), (5, true), (6, false), (7, true), (8, true), (9, true), (10, true), (11, true)] (by kernel_rfl) (by kernel_rfl) (by kernel_rfl) (by decide) (by kernel_rfl) ?_
        iterate 6
          (refine plan_take ?_ rfl hS0 (by rfl) ?_ ?_
           rotate_left
           · intro w' hw'
             obtain ⟨q1, q2, q3⟩ := hread w' hw'
             go_simp
             with_reducible rfl
           simp only [Act.put, List.setIfInBounds_toArray, List.set_cons_zero, List.set_cons_succ])
        refine plan_one rfl (by rfl) (fun K hK => ?_)
        go_simp
        have hxd := Lib.hid (hxr.out.keep (w' := wr.drew) (Nat.le_refl _) (fun _ _ _ => rfl))
        refine (hO.calls (Spots_any (B := w2.heap.size) (i := i) (j := p) (by show w2.heap.size ≤ wr.heap.size; omega) hxd.out (by unfold I64; have := hG.out.parts; omega))).mono ?_
        rintro e w5 ⟨_, rfl, ⟨sa', sn', sc', rfl, hsp⟩, hb5⟩
        rw [ask_zero hb'.out hxi hxp]
        have hS5 : SameBut (fun _ => False) wr w5 := hS0.below hb5
        refine hK _ _ hS5 ?_
        clear hK K
        iterate 5
          (refine plan_take ?_ rfl hS5 (by rfl) ?_ ?_
           rotate_left
           · intro w' hw'
             go_simp
             with_reducible rfl
           simp only [Act.put, List.setIfInBounds_toArray, List.set_cons_zero, List.set_cons_succ])
        unfold planW okN
        go_wp2_with fail
        go_meet
        exact ⟨_, _, _, rfl, rfl, hsp, hS5.toBelow (Nat.le_refl _) (fun _ h => h.elim)⟩
      case rest =>
      obtain ⟨ya, yn, yc, rfl, rfl, hsp, hb5⟩ := hcut
      obtain ⟨w5, hw5⟩ : ∃ w5, w5 = wc := ⟨_, rfl⟩
      rw [← hw5] at hsp hb5 ⊢
      clear hw5 g1 dk
      have hown5 := own_same hown (SameBut.of_below (M := fun _ => False) hb5 (Nat.le_refl _)) (fun _ _ h => h)
      have hs5 : SameBut (fun b => c3 ≤ b) w4 w5 := hs.trans (SameBut.of_below hb5 (Nat.le_refl _))
      have hbt5 := Lib.hid (hbr.out.keep (w' := w5) (Nat.le_refl _) (fun b o h => bcells hb5 b o (by omega)))
      have hsp' := Lib.hid hsp
      have hyl := Lib.hid hsp.len
      have hyz := hsp.small
      obtain ⟨T, hT⟩ : ∃ T, T = takeI bits k := ⟨_, rfl⟩
      obtain ⟨Z, hZ⟩ : ∃ Z, Z = takeI (spotsL x i p) T := ⟨_, rfl⟩
      have hsu : Hid (atU x i parts bits (k + 1) = atU x i parts bits k ++ [Z]) := Lib.hid (by rw [atU_succ, hp'.out, ← hT, ← hZ])
      have hT' := Lib.hid hT
      have hZ' := Lib.hid hZ
      have hz5 := hs5.size
      have hbw5 : Below w.heap.size w w5 := hbwr.trans (hb5.mono (by omega))
      clear hsp hT hZ hb5
      obtain ⟨v', w7, hap, hown7, hgr7, _, _⟩ := run_append_own_at (P := Try.prog) (w := w5.alloc (.cells #[.int .i64 Z] 3)) c3 31 31 3 i0 (.int .i64 0) 1 8 intsUnder hi0 hz0 hz1 hz2 rfl (by decide) (.slice va vn vc) _ _ (hown5.alloc _) ⟨w5.heap.size, 0, none⟩ 1 1 [.int .i64 Z] rfl
        (fun j u hj => by
          match j, hj with
          | 0, hj =>
            simp at hj; subst hj
            exact (Blk.new w5 #[.int .i64 Z] 3).cell)
        (fun u hu => by simp at hu; subst hu; rfl) (by rw [hatl.out]; unfold maxLen; omega) (by rw [hatl.out]; omega) (by simp; omega)
      have hlt6 := hown5.lt
      have hS57 : SameBut (fun b => c3 ≤ b) w5 w7 := ((SameBut.refl _ w5).alloc _).trans (same_grown hgr7 (fun k h => (hlt6 k h).1))
      have hown8 : w7.ownsRow c3 3 1 v' (atU x i parts bits (k + 1)).length ((atU x i parts bits (k + 1)).map intV) := by
        rw [hsu.out, List.length_append, List.map_append]; exact hown7
      rw [append_alias] at hap
      have hown8' := Lib.hid hown8
      have hbw7 : Below w.heap.size w w7 := hbw5.trans (hS57.toBelow (by omega) (fun b h => by omega))
      clear hown7 hown8 hgr7 hlt6
      go_wp2_with (fail)
      refine (Take_eq (m := (k : Int)) hbt5.out).mono ?_
      rintro e w6 ⟨rfl, rfl⟩
      rw [← hT'.out]
      go_wp2_with (fail)
      refine (Take_eq (m := T) hsp'.out).mono ?_
      rintro e w6 ⟨rfl, rfl⟩
      rw [← hZ'.out]
      by_cases hy0 : yn = 0
      · have e0 : ((yn : Int) == 0) = true := by simp [hy0]
        have hon : o = none := by
          cases ho2 : o with
          | none => rfl
          | some l =>
            have := lay_spots hb'.out hxi hP.out (ho'.out.symm.trans ho2) (k := k) (by rw [hlen.out]; exact hlt)
            rw [hp'.out] at this
            exact absurd (List.eq_nil_of_length_eq_zero (by rw [hyl.out]; exact hy0)) this
        have hE4 : Er = 4 := by rw [hEr'.out, hon]; rfl
        have hrn0 : rn = 0 := by
          have := hrl.out
          rw [hLr'.out, hon] at this
          simpa [layO] using this.symm
        subst hE4 hrn0
        clear hon hy0
        go_wp2_with (fail)
        refine (sawn_any _).mono ?_
        rintro e w8 ⟨rfl, hb8⟩
        go_wp2_with (fail)
        go_ret
        exact ⟨rfl, hbw7.trans (hb8.mono hbw7.size)⟩
      · have e0 : ((yn : Int) == 0) = false := by simp; omega
        have hne2 : Hid (∀ j, j < k + 1 → spotsL x i (gi parts j) ≠ []) := Lib.hid (fun j hj => by
          by_cases e : j = k
          · rw [e, hp'.out]
            intro h
            have := hyl.out
            rw [h] at this
            exact hy0 this.symm
          · exact hne.out j (by omega))
        clear hy0
        go_wp2_with (fail)
        go_roundw
        case rel => exact ⟨k + 1, by omega, by go_num, hown8'.out, hne2.out, hs5.trans hS57⟩
        case measure => simp [intOf]; omega
    · obtain rfl : k = lm := by omega
      obtain ⟨ta, tn, tc, hte, hat⟩ := ints_of_own hown (fun j hj => by
        have hj' : j < k := by rw [atU_len] at hj; exact hj
        have hm := takeI_mem (n := takeI bits j) (hne.out j hj')
        have hnum := hP.out.num j (by rw [hlen.out]; exact hj')
        have := (spot_mem hb'.out hxi hnum.1 hnum.2).1 hm
        rw [atU_get x i parts bits hj']
        have hL := hG.out.wood i hxi
        have hS := hG.out.shape (gi parts j).toNat (by omega)
        unfold I64; omega) (by rw [atU_len]; omega)
      cases hte
      obtain ⟨at_, hat_⟩ : ∃ at_, at_ = atU x i parts bits k := ⟨_, rfl⟩
      rw [← hat_] at hat
      have hsp : ∀ j, j < at_.length → j < parts.length → gi at_ j ∈ spotsL x i (gi parts j) := fun j h1 h2 => by
        rw [hat_] at h1 ⊢
        rw [atU_len] at h1
        rw [atU_get x i parts bits h1]
        exact takeI_mem (hne.out j h1)
      have hfirst : laidB x i parts at_ [] = true → ∃ l, o = some l ∧ lessI at_ l = false := fun h => by
        obtain ⟨l, h1, h2⟩ := laid_first hb'.out hxi hP.out hsp h
        exact ⟨l, ho'.out.trans h1, h2⟩
      have hfirst' := Lib.hid hfirst
      have hat' := Lib.hid hat
      have hxw := Lib.hid (hxr.out.keep (B' := wr.heap.size) (w' := wr) (by have := hz4'.out; omega) (fun _ _ _ => rfl))
      have hlw := Lib.hid (hlr.out.keep (B' := wr.heap.size) (w' := wr) (by have := hz4'.out; omega) (fun _ _ _ => rfl))
      have hrw := Lib.hid (hrr.out.keep (B' := wr.heap.size) (w' := wr) (by have := hc3'.out; have := hz4'.out; omega) (fun _ _ _ => rfl))
      have hno : Hid (IntsAt wr.heap.size wr none 0 []) := Lib.hid ⟨rfl, by omega, fun i hi => absurd hi (by omega)⟩
      have q0 : wr.cell? ⟨w.heap.size, 0, none⟩ = some (.slice pa pn pc) := hkr.cell
      have q1 : wr.cell? ⟨w.heap.size, 1, none⟩ = some (.slice sa sn sc) := hkr.cell
      have hkI : (k : Int) ≤ 5 := by omega
      clear hat_ hsp hfirst hat hown hs hk4 hn4 hx4 hl4 hr4 hbt4 hbw4 hne hxr hlr hrr hbr hatl hz4'
      go_wp2_with (fail)
      refine (laid_any (Nat.le_refl _) hxw.out hb'.out hxi hlw.out hat'.out hno.out hP.out.num hP.out.five).mono ?_
      rintro e w5 ⟨rfl, hb5⟩
      obtain ⟨V, hV⟩ : ∃ V, V = laidB x i parts at_ [] := ⟨_, rfl⟩
      rw [← hV]
      have hV' := Lib.hid hV
      clear hV q0 q1
      have hbw5 : Below w.heap.size w w5 := hbwr.trans (hb5.mono (by omega))
      have hk5 := hkr.below hb5 (by omega)
      have hn5 := hnr.below hb5 (by omega)
      have hx5 := Lib.hid (hxw.out.keep (B' := w5.heap.size) (w' := w5) hb5.size (fun b o h => bcells hb5 b o h))
      have hl5 := Lib.hid (hlw.out.keep (B' := w5.heap.size) (w' := w5) hb5.size (fun b o h => bcells hb5 b o h))
      have hr5 := Lib.hid (hrw.out.keep (B' := w5.heap.size) (w' := w5) hb5.size (fun b o h => bcells hb5 b o h))
      have ha5 := Lib.hid (hat'.out.keep (B' := w5.heap.size) (w' := w5) hb5.size (fun b o h => bcells hb5 b o h))
      have hend : Hid (∀ w', Below w5.heap.size w5 w' → Below w.heap.size w w') := Lib.hid (fun w' h => hbw5.trans (h.mono hbw5.size))
      have l5 : w.heap.size + 1 < w5.heap.size := hn5.lt
      clear hb5 hkr hnr hxw hlw hrw hat' hno hbwr hzr
      cases o with
      | none =>
        have hE4 : Er = 4 := by rw [hEr'.out]; rfl
        have hrn0 : rn = 0 := by
          have := hrl.out
          rw [hLr'.out] at this
          simpa [layO] using this.symm
        have hVf : V = false := by
          rw [← Bool.not_eq_true]
          intro h
          obtain ⟨l, h1, _⟩ := hfirst'.out (by rw [← hV'.out]; exact h)
          cases h1
        subst hE4 hrn0 hVf
        go_wp2_with (fail)
        refine (sawn_any _).mono ?_
        rintro e w8 ⟨rfl, hb8⟩
        go_wp2_with (fail)
        go_ret
        exact ⟨rfl, hend.out _ hb8⟩
      | some l =>
        have hE0 : Er = 0 := by rw [hEr'.out]; rfl
        have hLl : Lr = l := by rw [hLr'.out]; rfl
        subst hE0
        have hll : l.length = parts.length := (srch_okL _ _ _ _ ho'.out.symm).1
        have hrk : k = rn := by
          have h1 := hrl.out
          have h2 := hlen.out
          rw [hLl] at h1
          omega
        subst hrk
        have hless : Hid (V = true → lessI at_ Lr = false) := Lib.hid (fun h => by
          obtain ⟨l', h1, h2⟩ := hfirst'.out (by rw [← hV'.out]; exact h)
          cases h1
          rw [hLl]; exact h2)
        have hcutz : Hid (∀ q, q < parts.length → (layR x i (cutU parts q parts.length)).2 = 0) := Lib.hid (fun q hq => lay_cut hb'.out hxi hP.out ho'.out.symm hq)
        clear hll hLl
        have hVe : Hid ((V && lessI at_ Lr) = false) := Lib.hid (by
          cases hV0 : V with
          | false => rfl
          | true => rw [hless.out hV0]; rfl)
        have dk0 : decide ((k : Int) < k) = false := decide_eq_false (by omega)
        go_upto_region 19 with fail
        go_cut [112] (fun s wx => s = .bool false ∧ Below w5.heap.size w5 wx)
        case first =>
          cases V with
          | false =>
            go_wp2_with fail
            go_meet
            exact ⟨rfl, Below.refl _ _⟩
          | true =>
            have hl0 : Hid (lessI at_ Lr = false) := Lib.hid (hless.out rfl)
            go_wp2_with (fail)
            refine (Less_any ha5.out hr5.out).mono ?_
            rintro e w6 ⟨rfl, hq6⟩
            rw [hl0.out]
            go_wp2_with fail
            go_meet
            exact ⟨rfl, hq6.below _⟩
        case rest =>
        obtain ⟨rfl, hb6⟩ := hcut
        obtain ⟨w6, hw6⟩ : ∃ w6, w6 = wc := ⟨_, rfl⟩
        rw [← hw6] at hb6 ⊢
        clear hw6 hless hVe
        have hbw6 : Below w.heap.size w w6 := hend.out _ hb6
        have hk6 := hk5.below hb6 (by omega)
        have hn6 := hn5.below hb6 l5
        have hx6 := Lib.hid (hx5.out.keep (B' := w6.heap.size) (w' := w6) hb6.size (fun b o h => bcells hb6 b o h))
        have hl6 := Lib.hid (hl5.out.keep (B' := w6.heap.size) (w' := w6) hb6.size (fun b o h => bcells hb6 b o h))
        have l6 : w.heap.size + 1 < w6.heap.size := hn6.lt
        have hend6 : Hid (∀ w', Below w6.heap.size w6 w' → Below w.heap.size w w') := Lib.hid (fun w' h => hbw6.trans (h.mono hbw6.size))
        clear hb6 hk5 hn5 hx5 hl5 hr5 ha5 hend hbw5 l5
        by_cases h0 : k = 0
        · have e0 : ((k : Int) == 0) = true := by simp [h0]
          clear h0
          go_wp2_with (fail)
          refine (sawn_any _).mono ?_
          rintro e w8 ⟨rfl, hb8⟩
          go_wp2_with (fail)
          go_ret
          exact ⟨rfl, hend6.out _ hb8⟩
        · have e0 : ((k : Int) == 0) = false := by simp; omega
          obtain ⟨q, hq⟩ : ∃ q : Nat, rnd n2 k = q := ⟨(rnd n2 k).toNat, by have := rnd_range (n := n2) (m := k) (by omega); omega⟩
          have hqk : q < k := by have := rnd_range (n := n2) (m := k) (by omega); omega
          have hq' := Lib.hid hq
          have hIk : Hid (I64 (k : Int)) := Lib.hid (by unfold I64; omega)
          have hz := hcutz.out q (by rw [hlen.out]; exact hqk)
          rw [hlen.out] at hz
          have hz' := Lib.hid hz
          clear hq hz h0
          go_upto_region 23 with fail
          go_cut [16, 17] (fun s16 s17 wx => s17 = .int .i64 0 ∧ Below w6.heap.size w6 wx)
          case first =>
            have hO := open_wide
            have hF := hO.fn
            have hd := hO.depth
            have hS0 : SameBut (fun _ => False) w6 w6.drew := (SameBut.refl _ _).drew
            have hread : ∀ w', SameBut (fun _ => False) w6 w' → w'.cell? ⟨w.heap.size, 0, none⟩ = some (.slice pa pn pc) ∧ w'.cell? ⟨w.heap.size, 1, none⟩ = some (.slice sa sn sc) ∧ w'.cell? ⟨w.heap.size + 1, 2, none⟩ = some (.int .i64 n2) := fun w' h =>
              ⟨(hk6.same h (fun e => e)).cell, (hk6.same h (fun e => e)).cell, (hn6.same h (fun e => e)).cell⟩
            refine region_planW (fun w' => SameBut (fun _ => False) w6 w') [(0, true), (1, true), (2, true), (3, true), (4, true), (5, true), (6, true), (7, false), (8, false), (9, false), (10, true), (11, true), (12, true), (13, true), (14, true)] (by kernel_rfl) (by kernel_rfl) (by kernel_rfl) (by decide) (by kernel_rfl) ?_
            iterate 7
              (refine plan_take ?_ rfl hS0 (by rfl) ?_ ?_
               rotate_left
               · intro w' hw'
                 obtain ⟨q1, q2, q3⟩ := hread w' hw'
                 go_simp
                 with_reducible rfl
               simp only [Act.put, List.setIfInBounds_toArray, List.set_cons_zero, List.set_cons_succ])
            refine plan_one rfl (by rfl) (fun K hK => ?_)
            go_simp
            refine (hO.calls (Round_any (n := n2) (m := k) _ hIk.out)).mono ?_
            rintro e w8 ⟨rfl, rfl⟩
            rw [hq'.out]
            refine hK _ _ hS0 ?_
            clear hK K
            refine plan_one rfl (by rfl) (fun K hK => ?_)
            go_simp
            have hld := Lib.hid (hl6.out.keep (w' := w6.drew) (Nat.le_refl _) (fun _ _ _ => rfl))
            refine (hO.calls (Cut_any (p := q) (Nat.le_refl _) hld.out (by omega))).mono ?_
            rintro e w7 ⟨ca, cn, cc, rfl, hc7, hb7⟩
            have hS7 : SameBut (fun _ => False) w6 w7 := hS0.below hb7
            refine hK _ _ hS7 ?_
            clear hK K
            refine plan_one rfl (by rfl) (fun K hK => ?_)
            go_simp
            have hx7 := Lib.hid (hx6.out.keep (B' := w7.heap.size) (w' := w7) hS7.size (fun b o h => hS7.cell h (fun e => e)))
            have hlay := Lay_any (pc := pc) (sc := sc) (i := (i : Int)) (lc := cc) (Nat.le_refl _) hx7.out hc7
            rw [hz'.out] at hlay
            refine (hO.calls hlay).mono ?_
            clear hlay
            rintro e w8 ⟨ua, un, uc, rfl, _, hb8⟩
            have hS8 : SameBut (fun _ => False) w6 w8 := hS7.below hb8
            refine hK _ _ hS8 ?_
            clear hK K
            iterate 5
              (refine plan_take ?_ rfl hS8 (by rfl) ?_ ?_
               rotate_left
               · intro w' hw'
                 go_simp
                 with_reducible rfl
               simp only [Act.put, List.setIfInBounds_toArray, List.set_cons_zero, List.set_cons_succ])
            unfold planW okN
            go_wp2_with fail
            go_meet
            exact ⟨rfl, hS8.toBelow (Nat.le_refl _) (fun _ h => h.elim)⟩
          case rest =>
          obtain ⟨rfl, hb7⟩ := hcut
          obtain ⟨w7, hw7⟩ : ∃ w7, w7 = wc := ⟨_, rfl⟩
          rw [← hw7] at hb7 ⊢
          clear hw7
          have hend7 := Lib.hid (hend6.out _ hb7)
          go_wp2_with (fail)
          refine (sawn_any _).mono ?_
          rintro e w8 ⟨rfl, hb8⟩
          go_wp2_with (fail)
          go_ret
          exact ⟨rfl, hend7.out.trans (hb8.mono hend7.out.size)⟩
end Go.Proofs.Ytilbkmogmlcpaaa
namespace Go.Proofs.Ytilbkmogmlcpaaa
open Go.ChangeShapes Go.WideShapes Go.ChangeAt Go.RowKit Go.Deep

set_option maxRecDepth 100000 in
theorem lay_lifted (os : Os) (started : os.Started) (H : Type) (enc : TypeId × Value → H) :
    ReturnsInHanded {} Try.checked os 8 .any (Rows.plankLaySpec.pre6 enc Try.prog Try.f8 Rows.plankLayRow.domain false) (Rows.plankLaySpec.post enc Try.prog Try.f8 false true false false) := by
  refine returnsInHanded_of_change_sized (C := Try.checked) ownKnobs started (by kernel_rfl) Try.func8
    (ChangeSpec.witness6 (enc := enc) (C := Try.checked) false ⟨#[], #[.agg #[.slice none 0 0, .slice none 0 0], .agg #[.int .i64 0, .int .i64 0, .int .i64 0], .slice none 0 0], []⟩ 8 (by kernel_rfl) (by kernel_rfl) (by kernel_rfl) (by kernel_rfl)) ?_
  intro W base args ds gs before hval0 hW hcnd hsz0 _
  have hval : ∀ (j : Nat) t v, Try.f8.params[j]? = some t → args[j]? = some v → Value.okWide Try.prog W .any base t v := hval0
  have hsz : (DataW.weightsEach Try.prog (Try.f8.params.toList ++ Rows.plankLaySpec.plain.varTypes Try.prog) (ds ++ gs)).all (· ≤ reachBytes) = true := hsz0
  have hW' := hW
  obtain ⟨p, q, hA0, hV, rfl, hfz, hnd⟩ := hW
  have hA : DataW.TrodAll enc Try.prog W 0 (fun _ => true) true Try.f8.params.toList args.toList ds p := hA0
  rw [Try.params8] at hA hval hsz
  obtain ⟨v0, vs0, d0, ds0, p0, q0, hargs, rfl, rfl, h0, r0⟩ := trodAll_cons hA
  obtain ⟨v1, vs1, d1, ds1, p1, q1, rfl, rfl, rfl, h1, r1⟩ := trodAll_cons r0
  obtain ⟨v2, vs2, d2, ds2, p2, q2, rfl, rfl, rfl, h2, r2⟩ := trodAll_cons r1
  obtain ⟨rfl, rfl, rfl⟩ := trodAll_nil r2
  obtain rfl : args = #[v0, v1, v2] := by cases args; simp_all
  obtain ⟨rfl, rfl⟩ := trodVars_none hV
  have lt0 : ∀ x ∈ p0, x.block < W.heap.size := by obtain ⟨m, hm⟩ := h0; exact DataW.trod_lt m _ _ _ hm
  have lt1 : ∀ x ∈ p1, x.block < W.heap.size := by obtain ⟨m, hm⟩ := h1; exact DataW.trod_lt m _ _ _ hm
  have lt2 : ∀ x ∈ p2, x.block < W.heap.size := by obtain ⟨m, hm⟩ := h2; exact DataW.trod_lt m _ _ _ hm
  have z2 : Sized 31 d2 := sized_each hsz (j := 2) rfl rfl
  have z0 : Sized 25 d0 := sized_each hsz (j := 0) rfl rfl
  obtain ⟨pa, pn, pc, sa, sn, sc, x, rfl, hx⟩ := book_open (hval 0 25 v0 rfl rfl) h0 z0
  obtain ⟨n0, n1, n2, rfl, i0, i1, i2⟩ := three_open (hval 1 26 v1 rfl rfl) h1
  obtain ⟨ba, bn, bc, bits, rfl, hbits⟩ := list_open (hval 2 31 v2 rfl rfl) h2 z2
  clear hA0 hval0 hsz0
  refine (lay_law (Nat.le_refl _) hx hbits).mono fun e W' ⟨he, bel⟩ => ?_
  subst he
  exact ⟨_, rfl, _, _, _, [], _, [], hW', trodAll_mk1 (shut_bool Try.underlying4 _), (trodAll_cons_mk (Below.trod laidOut (by kernel_rfl) (of_decide_eq_true (by kernel_rfl)) h0 bel lt0) (trodAll_cons_mk (Below.trod laidOut (by kernel_rfl) (of_decide_eq_true (by kernel_rfl)) h1 bel lt1) (trodAll_cons_mk (Below.trod laidOut (by kernel_rfl) (of_decide_eq_true (by kernel_rfl)) h2 bel lt2) trodAll_mk0))), rfl, bel.frame _, fun h => by cases h⟩

theorem plankLay_holds : Rows.PlankLaySaid :=
  OpenClaim.holds_of_wide 8 Try.f8 rfl rfl rfl rfl rfl rfl rfl ⟨rfl, rfl, rfl, rfl, rfl⟩ rfl rfl rfl rfl rfl (by kernel_rfl) Try.func8 (by kernel_rfl)
    (of_decide_eq_true (by kernel_rfl)) (by unfold Func.isWrapper; first | (rw [if_pos (by decide +kernel)]; kernel_rfl) | (rw [if_neg (by decide +kernel)]; exact ⟨rfl, rfl⟩))
    (fun os started H enc _ => lay_lifted os started H enc)
end Go.Proofs.Ytilbkmogmlcpaaa
