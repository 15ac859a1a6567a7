/- Walks: a book in which the inch of a knot is known (the specification's). Walks: the specification's Look. -/
import Derived.Test.YtbbolibkheelmaaPfs12
import Derived.Test.YtbbolibkheelmaaPfs14
namespace Go.Proofs.Ytbbolibkheelmaa
open Go.RowKit Go.Shelf

attribute [local go_sem ↓] append_alias

set_option maxRecDepth 100000 in
set_option maxHeartbeats 4000000 in
theorem refKnown_any {B : Nat} {pa sa : Option Addr} {pn pc sn sc i k : Nat} {x : Book} {t : Int} {w : World} (hB : B ≤ w.heap.size) (hx : BookAt B w pa pn sa sn x) (h1 : pn ≤ 100) (hi : i < pn) (hk : k < (gw x.planks i).knots.length) (h3 : (gw x.planks i).knots.length ≤ 100) (ht : I64 t) :
    Calls Try.prog 89 #[.agg #[.slice pa pn pc, .slice sa sn sc], .int .i64 i, .int .i64 k, .int .i64 t] w fun e w' => ∃ qa qn qc, e = .returned (.agg #[.slice qa qn qc, .slice sa sn sc]) ∧ BookAt w'.heap.size w' qa qn sa sn (lookedB x i k t) ∧ Below w.heap.size w w' := by
  have hpn := Lib.hid hx.planks.len
  obtain ⟨W0, hW0⟩ : ∃ W0, W0 = ((w.alloc (.cells #[.slice pa pn pc, .slice sa sn sc] 25)).alloc (.cells #[.slice none 0 0, .slice none 0 0] 25)).alloc (.cells #[.slice pa pn pc, .slice sa sn sc] 25) := ⟨_, rfl⟩
  have hb0 : Below w.heap.size w W0 := by rw [hW0]; exact (((Below.refl _ _).alloc (Nat.le_refl _) _).alloc (by simp) _).alloc (by simp; omega) _
  have hk0 : Blk W0 w.heap.size #[.slice pa pn pc, .slice sa sn sc] := by rw [hW0]; exact ((Blk.new w _ _).alloc _).alloc _
  have hr0 : Blk W0 (w.heap.size + 1) #[.slice none 0 0, .slice none 0 0] := by
    rw [hW0]
    have := Blk.new (w.alloc (.cells #[.slice pa pn pc, .slice sa sn sc] 25)) #[.slice none 0 0, .slice none 0 0] 25
    rw [World.size_alloc] at this
    exact this.alloc _
  have hX0 : Blk W0 (w.heap.size + 2) #[.slice pa pn pc, .slice sa sn sc] := by
    rw [hW0]
    have := Blk.new ((w.alloc (.cells #[.slice pa pn pc, .slice sa sn sc] 25)).alloc (.cells #[.slice none 0 0, .slice none 0 0] 25)) #[.slice pa pn pc, .slice sa sn sc] 25
    rw [World.size_alloc, World.size_alloc] at this
    exact this
  have hz0 : w.heap.size + 3 ≤ W0.heap.size := by rw [hW0]; simp
  have hx0 := hx.keep (w' := W0) (Nat.le_refl _) (fun b o h => bcells hb0 b o (by omega))
  clear hx
  have hparts := Lib.hid hx0.parts
  obtain ⟨pb, po, kv, rfl, hpB, hkv⟩ := woods_cells hx0.planks (by omega)
  obtain ⟨hki, _, c1, _⟩ := hkv i hi
  obtain ⟨ka, kn, kc, hke, hks⟩ := hki
  have hkn : kn = (gw x.planks i).knots.length := hks.len.symm
  rw [hke] at c1
  obtain ⟨kb, ko, rfl, hkB, hkc⟩ := hks.get 0 (by omega)
  have hkv' := Lib.hid hkv
  have hkc' := Lib.hid hkc
  have hkn3 : kn ≤ 100 := by omega
  have hkk : k < kn := by omega
  have hkn' := Lib.hid hkn
  have hke' := Lib.hid hke
  have q0 : W0.cell? ⟨w.heap.size, 0, none⟩ = some (.slice (some ⟨pb, po, none⟩) pn pc) := hk0.cell
  clear hkv hkc hks hx0 hkn hke hk h3
  go_enter Try.func89, Try.ntmps89
  go_upto_region 2 with fail
  rw [← hW0]
  clear hW0
  go_cut [9] (fun s wx => s = .pointer (some ⟨w.heap.size + 2, 0, none⟩) ∧ ∃ (g c : Nat) (cur : Array Value), W0.heap.size ≤ g ∧ g < wx.heap.size ∧ Blk wx (w.heap.size + 2) #[.slice (some ⟨g, 0, none⟩) pn c, .slice sa sn sc] ∧ Blk wx g cur ∧
    (∀ (j : Nat) (u : Value), ((List.range pn).flatMap (woodC x kv))[j]? = some u → cur[j]? = some u) ∧ SameBut (fun b => b = w.heap.size + 2 ∨ W0.heap.size ≤ b) W0 wx)
  case first =>
    have ho : (W0.alloc (.cells #[] 48)).ownsRow W0.heap.size 48 2 (.slice (some ⟨W0.heap.size, 0, none⟩) 0 0) 0 [] := World.ownsRow_lit (base := W0.heap.size) (e := 48) (size := 2) W0 #[] 0 (Nat.le_refl _) (by decide) rfl
    obtain ⟨v', w7, hap, hown7, hs7⟩ := grow_many (b := pb) (o := po) (m := pn) (c := pc) (news := (List.range pn).flatMap (woodC x kv)) woodInfo woodsUnder rfl (by decide) (by decide) ho (flat_len (fun _ => rfl)) (flat_cell (m := 2) (fun _ => rfl) (by decide) (fun j hj l hl => by
        have hkvj := hkv'.out j hj
        rw [← Nat.add_assoc]
        rw [cell_alloc_lt _ (show pb < W0.heap.size by omega)]
        exact two_cases (P := fun l => W0.cell? ⟨pb, po + j * 2 + l, none⟩ = (woodC x kv j)[l]?) hl hkvj.2.1 hkvj.2.2.1))
      (fun u hu => by
        rw [List.mem_flatMap] at hu
        obtain ⟨j, hj, hu⟩ := hu
        obtain ⟨⟨ja, jn, jc, je, _⟩, _⟩ := hkv'.out j (List.mem_range.1 hj)
        unfold woodC at hu
        rw [je] at hu
        simp at hu
        rcases hu with rfl | rfl <;> rfl) (by omega) (by simp)
    rw [Nat.zero_add, List.nil_append] at hown7
    obtain ⟨g, c, cur, rfl, hg1, hg2, hgc, hgk, hcur⟩ := own_blk hown7 (by omega)
    have hs7' : SameBut (fun b => W0.heap.size ≤ b) W0 w7 := ((SameBut.refl _ W0).alloc _).trans hs7
    have hX7 := hX0.same hs7' (by omega)
    have x0 : w7.cell? ⟨w.heap.size + 2, 0, none⟩ = some (.slice (some ⟨pb, po, none⟩) pn pc) := hX7.cell
    have xf : w7.frozen? ⟨w.heap.size + 2, 0, none⟩ = false := hX7.frozen
    have hcur' := Lib.hid hcur
    have lW : w.heap.size < W0.heap.size := by omega
    clear hown7 ho hcur
    go_wp2_with fail
    go_meet
    exact ⟨rfl, g, c, cur, hg1, by simp; omega, hX7.setAt (i := 0) _, hgk.setOther (by omega) _, hcur'.out, (hs7'.mono (fun b h => .inr h)).setCell (M := fun b => b = w.heap.size + 2 ∨ W0.heap.size ≤ b) (.inl (.inl rfl)) _⟩
  case rest =>
  obtain ⟨rfl, g, c, cur, hg1, hg2, hX1, hG1, hcur, hs1⟩ := hcut
  obtain ⟨w1, hw1⟩ : ∃ w1, w1 = wc := ⟨_, rfl⟩
  rw [← hw1] at hg2 hX1 hG1 hs1 ⊢
  clear hw1
  have hz1 := hs1.size
  have hk1 := hk0.same hs1 (by omega)
  have hr1 := hr0.same hs1 (by omega)
  have c1' := (hs1.cell (b := pb) (o := po + i * 2 + 1) (by omega) (by omega)).trans c1
  have hcur' := Lib.hid hcur
  have hii : (i : Int) < pn := by omega
  have hki : (k : Int) < kn := by omega
  have lk0 : w.heap.size < w1.heap.size := by omega
  have lk2 : w.heap.size + 2 < w1.heap.size := by omega
  clear q0 c1 hcur
  go_upto_region 3 with fail
  go_cut [9] (fun s wx => s = .pointer (some ⟨w.heap.size + 2, 0, none⟩) ∧ ∃ (g2 c2 : Nat) (cur2 : Array Value), w1.heap.size ≤ g2 ∧ g2 < wx.heap.size ∧ Blk wx g (cur.setIfInBounds (i * 2 + 1) (.slice (some ⟨g2, 0, none⟩) kn c2)) ∧ Blk wx g2 cur2 ∧
    (∀ (j : Nat) (u : Value), ((List.range kn).flatMap (spanC (gw x.planks i)))[j]? = some u → cur2[j]? = some u) ∧ SameBut (fun b => b = g ∨ w1.heap.size ≤ b) w1 wx)
  case first =>
    have hF0 : SameBut (fun b => b = g ∨ w1.heap.size ≤ b) w1 w1.drew := (SameBut.refl _ _).drew
    have hread : ∀ w', SameBut (fun b => b = g ∨ w1.heap.size ≤ b) w1 w' → w'.cell? ⟨w.heap.size, 0, none⟩ = some (.slice (some ⟨pb, po, none⟩) pn pc) ∧ w'.cell? ⟨w.heap.size + 2, 0, none⟩ = some (.slice (some ⟨g, 0, none⟩) pn c) ∧ w'.cell? ⟨pb, po + i * 2 + 1, none⟩ = some (.slice (some ⟨kb, ko, none⟩) kn kc) := fun w' h =>
      ⟨(hk1.same h (by omega)).cell, (hX1.same h (by omega)).cell, (h.cell (by omega) (by omega)).trans c1'⟩
    clear c1'
    have hO := open_wide
    have hF := hO.fn
    have hd := hO.depth
    refine region_planW (fun w' => SameBut (fun b => b = g ∨ w1.heap.size ≤ b) w1 w') [(0, true), (1, true), (2, true), (4, true), (5, true), (6, true), (7, true), (8, true), (9, true), (3, false), (10, false), (11, true), (12, true), (13, false)] (by kernel_rfl) (by kernel_rfl) (by kernel_rfl) (by decide) (by kernel_rfl) ?_
    have hG0 := hG1.drew
    have hspan : ∀ (j : Nat), j < kn → ∀ l, l < 2 → (w1.drew.alloc (.cells #[] 60)).cell? ⟨kb, ko + (j * 2 + l), none⟩ = (spanC (gw x.planks i) j)[l]? := fun j hj l hl => by
      have hkcj := hkc'.out j hj
      rw [cell_alloc_lt _ (show kb < w1.drew.heap.size by show kb < w1.heap.size; omega), ← Nat.add_assoc]
      have e : ∀ o, w1.drew.cell? ⟨kb, o, none⟩ = W0.cell? ⟨kb, o, none⟩ := fun o => hs1.cell (b := kb) (o := o) (by omega) (by omega)
      rw [e]
      exact two_cases (P := fun l => W0.cell? ⟨kb, ko + j * 2 + l, none⟩ = (spanC (gw x.planks i) j)[l]?) hl hkcj.1 hkcj.2.1
    have hF0' := hF0
    obtain ⟨wd, hwd⟩ : ∃ wd, wd = w1.drew := ⟨_, rfl⟩
    rw [← hwd] at hF0 hG0 hspan ⊢
    have hzd : w1.heap.size ≤ wd.heap.size := hF0.size
    clear hwd hF0'
    iterate 9
      (refine plan_take ?_ rfl hF0 (by rfl) ?_ ?_
       rotate_left
       · intro w' hw'
         obtain ⟨q1, q2, q3⟩ := hread w' hw'
         go_simp
         with_reducible rfl
       simp only [Act.put, List.setIfInBounds_toArray, List.set_cons_zero, List.set_cons_succ])
    refine plan_one rfl (by rfl) (fun K hK => ?_)
    go_simp
    refine hK _ _ (hF0.alloc _) ?_
    clear hK K
    have ho : (wd.alloc (.cells #[] 60)).ownsRow wd.heap.size 60 2 (.slice (some ⟨wd.heap.size, 0, none⟩) 0 0) 0 [] := World.ownsRow_lit (base := wd.heap.size) (e := 60) (size := 2) wd #[] 0 (Nat.le_refl _) (by decide) rfl
    obtain ⟨v', w7, hap, hown7, hs7⟩ := grow_many (b := kb) (o := ko) (m := kn) (c := kc) (news := (List.range kn).flatMap (spanC (gw x.planks i))) spanInfo spansUnder rfl (by decide) (by decide) ho (flat_len (fun _ => rfl)) (flat_cell (m := 2) (fun _ => rfl) (by decide) hspan)
      (fun u hu => by
        rw [List.mem_flatMap] at hu
        obtain ⟨j, hj, hu⟩ := hu
        unfold spanC at hu
        simp at hu
        rcases hu with rfl | rfl <;> rfl) (by omega) (by simp)
    rw [Nat.zero_add, List.nil_append] at hown7
    obtain ⟨g2, c2, cur2, rfl, hg3, hg4, hgc, hgk, hcur2⟩ := own_blk hown7 (by omega)
    have hs7a : SameBut (fun b => b = g ∨ w1.heap.size ≤ b) wd w7 := ((SameBut.refl _ wd).alloc _).trans (hs7.mono (fun b h => .inr (by omega)))
    have hs7' : SameBut (fun b => b = g ∨ w1.heap.size ≤ b) w1 w7 := hF0.trans hs7a
    have hG7 := hG0.same (((SameBut.refl (fun b => w1.heap.size ≤ b) wd).alloc _).trans (hs7.mono (fun b h => by omega))) (by omega)
    have hcur2' := Lib.hid hcur2
    clear hown7 ho hcur2 hspan hs7 hG0
    refine plan_one rfl (by rfl) (fun K hK => ?_)
    go_simp
    refine hK _ _ hs7' ?_
    clear hK K hap
    iterate 2
      (refine plan_take ?_ rfl hs7' (by rfl) ?_ ?_
       rotate_left
       · intro w' hw'
         go_simp
         with_reducible rfl
       simp only [Act.put, List.setIfInBounds_toArray, List.set_cons_zero, List.set_cons_succ])
    have hidx : (cur[i * 2 + 1]?).isSome = true := by
      have h1 := hcur'.out (i * 2 + 1) (kv i) (by
        rw [flat_get (L := List.range pn) (f := woodC x kv) (m := 2) (fun _ => rfl) (by simpa using hi) (by decide), List.getElem_range]; rfl)
      rw [h1]; rfl
    obtain ⟨uo, huo⟩ := Option.isSome_iff_exists.1 hidx
    have x0 : w7.cell? ⟨g, 0 + i * 2 + 1, none⟩ = some uo := by rw [Nat.zero_add]; exact hG7.cell.trans huo
    have x1 : w7.cell? ⟨g, i * 2 + 1, none⟩ = some uo := hG7.cell.trans huo
    have xf0 : w7.frozen? ⟨g, 0 + i * 2 + 1, none⟩ = false := hG7.frozen
    have xf1 : w7.frozen? ⟨g, i * 2 + 1, none⟩ = false := hG7.frozen
    refine plan_one rfl (by rfl) (fun K hK => ?_)
    go_simp
    refine hK _ _ (hs7'.setCell (M := fun b => b = g ∨ w1.heap.size ≤ b) (.inl (.inl rfl)) _) ?_
    clear hK K
    unfold planW okN
    go_wp2_with fail
    go_meet
    exact ⟨rfl, g2, c2, cur2, by omega, by simp; omega, hG7.setAt (i := i * 2 + 1) _, hgk.setOther (by omega) _, hcur2'.out, hs7'.setCell (M := fun b => b = g ∨ w1.heap.size ≤ b) (.inl (.inl rfl)) _⟩
  case rest =>
  obtain ⟨rfl, g2, c2, cur2, hg3, hg4, hG2, hH2, hcur2, hs2⟩ := hcut
  obtain ⟨w2, hw2⟩ : ∃ w2, w2 = wc := ⟨_, rfl⟩
  rw [← hw2] at hg4 hG2 hH2 hs2 ⊢
  clear hw2
  have hz2 := hs2.size
  have hk2 := hk1.same hs2 (by omega)
  have hr2 := hr1.same hs2 (by omega)
  have hX2 := hX1.same hs2 (by omega)
  have hsz : i * 2 + 1 < cur.size := by
    have h1 := hcur'.out (i * 2 + 1) (kv i) (by
      rw [flat_get (L := List.range pn) (f := woodC x kv) (m := 2) (fun _ => rfl) (by simpa using hi) (by decide), List.getElem_range]; rfl)
    exact (Array.getElem?_eq_some_iff.1 h1).1
  have y0 : (cur.setIfInBounds (i * 2 + 1) (.slice (some ⟨g2, 0, none⟩) kn c2))[i * 2 + 1]? = some (.slice (some ⟨g2, 0, none⟩) kn c2) := by
    rw [Array.getElem?_setIfInBounds, if_pos rfl, if_pos hsz]
  have y1 := Lib.hid y0
  have hcur2' := Lib.hid hcur2
  clear hsz y0 hcur2 c1'
  go_upto_region 4 with fail
  go_cut [9] (fun s wx => s = .pointer (some ⟨w.heap.size + 2, 0, none⟩) ∧ Blk wx g2 ((cur2.setIfInBounds (k * 2) (.int .i64 t)).setIfInBounds (k * 2 + 1) (.int .i64 t)) ∧ SameBut (fun b => b = g2 ∨ w2.heap.size ≤ b) w2 wx)
  case first =>
    have hF0 : SameBut (fun b => b = g2 ∨ w2.heap.size ≤ b) w2 w2.drew := (SameBut.refl _ _).drew
    have hread : ∀ w', SameBut (fun b => b = g2 ∨ w2.heap.size ≤ b) w2 w' → w'.cell? ⟨w.heap.size + 2, 0, none⟩ = some (.slice (some ⟨g, 0, none⟩) pn c) ∧ w'.cell? ⟨g, i * 2 + 1, none⟩ = some (.slice (some ⟨g2, 0, none⟩) kn c2) := fun w' h =>
      ⟨(hX2.same h (by omega)).cell, ((h.cell (b := g) (by omega) (by omega)).trans hG2.cell).trans y1.out⟩
    have hsp : ∀ l, l < 2 → ∃ u, cur2[k * 2 + l]? = some u := fun l hl => ⟨_, hcur2'.out (k * 2 + l) ((spanC (gw x.planks i) k)[l]'(by exact hl)) (by
      rw [flat_get (L := List.range kn) (f := spanC (gw x.planks i)) (m := 2) (fun _ => rfl) (by simpa using hkk) hl, List.getElem_range]
      exact List.getElem?_eq_getElem _)⟩
    obtain ⟨u0, hu0⟩ := hsp 0 (by decide)
    obtain ⟨u1, hu1⟩ := hsp 1 (by decide)
    rw [Nat.add_zero] at hu0
    have hu0' := Lib.hid hu0
    have hu1' := Lib.hid hu1
    clear hsp hu0 hu1
    have hO := open_wide
    have hF := hO.fn
    have hd := hO.depth
    refine region_planW (fun w' => SameBut (fun b => b = g2 ∨ w2.heap.size ≤ b) w2 w') [(0, true), (1, true), (2, true), (3, true), (4, true), (5, true), (6, true), (7, true), (8, false), (9, true), (10, false)] (by kernel_rfl) (by kernel_rfl) (by kernel_rfl) (by decide) (by kernel_rfl) ?_
    iterate 8
      (refine plan_take ?_ rfl hF0 (by rfl) ?_ ?_
       rotate_left
       · intro w' hw'
         obtain ⟨q1, q2⟩ := hread w' hw'
         go_simp
         with_reducible rfl
       simp only [Act.put, List.setIfInBounds_toArray, List.set_cons_zero, List.set_cons_succ])
    refine plan_one rfl (by rfl) (fun K hK => ?_)
    go_simp
    refine (hO.calls (one_any t _)).mono ?_
    rintro e w5 ⟨rfl, rfl⟩
    refine hK _ _ (hF0.alloc _) ?_
    clear hK K
    have hH5 : Blk (w2.drew.alloc (.cells #[.int .i64 t, .int .i64 t] 60)) g2 cur2 := (hH2.drew).alloc _
    have hs5 : SameBut (fun b => b = g2 ∨ w2.heap.size ≤ b) w2 (w2.drew.alloc (.cells #[.int .i64 t, .int .i64 t] 60)) := hF0.alloc _
    obtain ⟨w5, hw5⟩ : ∃ w5, w5 = w2.drew.alloc (.cells #[.int .i64 t, .int .i64 t] 60) := ⟨_, rfl⟩
    rw [← hw5] at hH5 hs5
    have hw5' := hw5.symm
    first | rw [← hw5] | (simp only [World.drew_alloc] at hw5; rw [← hw5]) | skip
    clear hw5 hw5'
    iterate 1
      (refine plan_take ?_ rfl hs5 (by rfl) ?_ ?_
       rotate_left
       · intro w' hw'
         go_simp
         with_reducible rfl
       simp only [Act.put, List.setIfInBounds_toArray, List.set_cons_zero, List.set_cons_succ])
    have y0 : w5.cell? ⟨g2, k * 2, none⟩ = some u0 := hH5.cell.trans hu0'.out
    have y2 : w5.cell? ⟨g2, k * 2 + 1, none⟩ = some u1 := hH5.cell.trans hu1'.out
    have y3 : w5.frozen? ⟨g2, k * 2, none⟩ = false := hH5.frozen
    have y4 : w5.frozen? ⟨g2, k * 2 + 1, none⟩ = false := hH5.frozen
    refine plan_one rfl (by rfl) (fun K hK => ?_)
    go_simp
    refine hK _ _ ((hs5.setCell (M := fun b => b = g2 ∨ w2.heap.size ≤ b) (.inl (.inl rfl)) _).setCell (M := fun b => b = g2 ∨ w2.heap.size ≤ b) (.inl (.inl rfl)) _) ?_
    clear hK K
    unfold planW okN
    go_wp2_with fail
    go_meet
    exact ⟨rfl, (hH5.setAt (i := k * 2) _).setAt (i := k * 2 + 1) _, (hs5.setCell (M := fun b => b = g2 ∨ w2.heap.size ≤ b) (.inl (.inl rfl)) _).setCell (M := fun b => b = g2 ∨ w2.heap.size ≤ b) (.inl (.inl rfl)) _⟩
  case rest =>
  obtain ⟨rfl, hH3, hs3⟩ := hcut
  obtain ⟨w3, hw3⟩ : ∃ w3, w3 = wc := ⟨_, rfl⟩
  rw [← hw3] at hH3 hs3 ⊢
  clear hw3
  have hz3 := hs3.size
  have hX3 := hX2.same hs3 (by omega)
  have hr3 := hr2.same hs3 (by omega)
  have hG3 := hG2.same hs3 (by omega)
  have x0 : w3.cell? ⟨w.heap.size + 2, 0, none⟩ = some (.slice (some ⟨g, 0, none⟩) pn c) := hX3.cell
  have x1 : w3.cell? ⟨w.heap.size + 2, 1, none⟩ = some (.slice sa sn sc) := hX3.cell
  have r0 : w3.cell? ⟨w.heap.size + 1, 0, none⟩ = some (.slice none 0 0) := hr3.cell
  have r1 : w3.cell? ⟨w.heap.size + 1, 1, none⟩ = some (.slice none 0 0) := hr3.cell
  have f0 : w3.frozen? ⟨w.heap.size + 1, 0, none⟩ = false := hr3.frozen
  have f1 : w3.frozen? ⟨w.heap.size + 1, 1, none⟩ = false := hr3.frozen
  have hfin : ∀ w9, SameBut (fun b => b = w.heap.size + 1) w3 w9 → BookAt w9.heap.size w9 (some ⟨g, 0, none⟩) pn sa sn (lookedB x i k t) ∧ Below w.heap.size w w9 := by
    intro w9 h9
    have hz9 := h9.size
    have h03 : SameBut (fun b => w.heap.size + 1 ≤ b) W0 w9 := (((hs1.mono (fun b h => by omega)).trans (hs2.mono (fun b h => by omega))).trans (hs3.mono (fun b h => by omega))).trans (h9.mono (fun b h => by omega))
    have hold : ∀ b o, b < B → w9.cell? ⟨b, o, none⟩ = W0.cell? ⟨b, o, none⟩ := fun b o hb => h03.cell (by omega) (by omega)
    have hG9 := hG3.same h9 (by omega)
    have hH9 := hH3.same h9 (by omega)
    have hget : ∀ j, j < pn → ∀ l, l < 2 → cur[j * 2 + l]? = (woodC x kv j)[l]? := fun j hj l hl => by
      have h1 := flat_get (L := List.range pn) (f := woodC x kv) (m := 2) (i := j) (j := l) (fun _ => rfl) (by simpa using hj) hl
      rw [List.getElem_range] at h1
      have h2 : ∃ u, (woodC x kv j)[l]? = some u := ⟨_, List.getElem?_eq_getElem (show l < (woodC x kv j).length from hl)⟩
      obtain ⟨u, hu⟩ := h2
      rw [hu] at h1 ⊢
      exact hcur'.out _ _ h1
    have hget2 : ∀ j, j < kn → ∀ l, l < 2 → cur2[j * 2 + l]? = (spanC (gw x.planks i) j)[l]? := fun j hj l hl => by
      have h1 := flat_get (L := List.range kn) (f := spanC (gw x.planks i)) (m := 2) (i := j) (j := l) (fun _ => rfl) (by simpa using hj) hl
      rw [List.getElem_range] at h1
      have h2 : ∃ u, (spanC (gw x.planks i) j)[l]? = some u := ⟨_, List.getElem?_eq_getElem (show l < (spanC (gw x.planks i) j).length from hl)⟩
      obtain ⟨u, hu⟩ := h2
      rw [hu] at h1 ⊢
      exact hcur2'.out _ _ h1
    refine ⟨⟨⟨?_, by omega, fun j hj => ⟨g, 0, rfl, by omega, fun j hj => ?_⟩⟩, hparts.out.keep (by omega) hold⟩, hb0.trans (h03.toBelow (by omega) (fun b h => by omega))⟩
    · unfold lookedB; simp [hpn.out]
    · obtain ⟨hv, _, _, gI⟩ := hkv'.out j hj
      rw [Nat.zero_add]
      have e0 : w9.cell? ⟨g, j * 2, none⟩ = some (.int .i64 (gw x.planks j).long) := by
        have h0 : cur[j * 2]? = some (.int .i64 (gw x.planks j).long) := hget j hj 0 (by decide)
        rw [hG9.cell, set_get h0, if_neg (by omega)]
      have e1 : w9.cell? ⟨g, j * 2 + 1, none⟩ = some (if j = i then .slice (some ⟨g2, 0, none⟩) kn c2 else kv j) := by
        rw [hG9.cell, set_get (hget j hj 1 (by decide) : cur[j * 2 + 1]? = _)]
        by_cases e : j = i
        · rw [if_pos (by omega), if_pos e]
        · rw [if_neg (by omega), if_neg e]
      by_cases e : j = i
      · subst e
        rw [looked_same (by rw [hpn.out]; exact hj)]
        rw [if_pos rfl] at e1
        refine ⟨_, ⟨some ⟨g2, 0, none⟩, kn, c2, rfl, ?_⟩, e0, e1, gI⟩
        refine ⟨by simp [hkn'.out], by omega, fun l hl => ⟨g2, 0, rfl, by omega, fun l hl => ?_⟩⟩
        rw [Nat.zero_add]
        have d0 : w9.cell? ⟨g2, l * 2, none⟩ = some (if l = k then .int .i64 t else .int .i64 (gp (gw x.planks j).knots l).1) := by
          have h0 : cur2[l * 2]? = some (.int .i64 (gp (gw x.planks j).knots l).1) := hget2 l hl 0 (by decide)
          rw [hH9.cell, set_get (set_get h0), if_neg (by omega)]
          by_cases e : l = k
          · rw [if_pos (by omega), if_pos e]
          · rw [if_neg (by omega), if_neg e]
        have d1 : w9.cell? ⟨g2, l * 2 + 1, none⟩ = some (if l = k then .int .i64 t else .int .i64 (gp (gw x.planks j).knots l).2) := by
          rw [hH9.cell, set_get (set_get (hget2 l hl 1 (by decide) : cur2[l * 2 + 1]? = _))]
          by_cases e : l = k
          · rw [if_pos (by omega), if_pos e]
          · rw [if_neg (by omega), if_neg (by omega), if_neg e]
        rw [d0, d1]
        by_cases e : l = k
        · subst e
          rw [gp_set_same (by rw [← hkn'.out]; exact hl)]
          simp only [if_true]
          exact ⟨trivial, trivial, ht, ht⟩
        · rw [gp_set_other e, if_neg e, if_neg e]
          obtain ⟨_, _, i1, i2⟩ := hkc'.out l hl
          exact ⟨rfl, rfl, i1, i2⟩
      · rw [looked_other e]
        rw [if_neg e] at e1
        exact ⟨_, hv.keep (by omega) hold, e0, e1, gI⟩
  have hfin' := Lib.hid hfin
  clear hfin
  go_wp2_with fail
  refine bodyPost_ret (v := .agg #[.slice (some ⟨g, 0, none⟩) pn c, .slice sa sn sc]) ?_ rfl ⟨_, _, _, rfl, hfin'.out _ (((SameBut.refl _ w3).setCell (M := fun b => b = w.heap.size + 1) (.inl rfl) _).setCell (M := fun b => b = w.heap.size + 1) (.inl rfl) _)⟩
  simp [results, Try.results89, go_sem, r0, r1]
end Go.Proofs.Ytbbolibkheelmaa
namespace Go.Proofs.Ytbbolibkheelmaa
open Go.RowKit Go.Shelf

theorem worst_pos {x : Book} {i k : Nat} (hb : bookOk x = true) (hi : i < x.planks.length) (hk : k < (gw x.planks i).knots.length) : 0 ≤ worstN x (stockF x) i k := by
  have hkn := (good_of hb).knot i hi k hk
  unfold Knot at hkn
  unfold worstN
  have key : ∀ n : Nat, (gp (gw x.planks i).knots k).1 + (n : Int) ≤ (gp (gw x.planks i).knots k).2 + 1 → 0 ≤ worstU x (stockF x) i k n := by
    intro n
    induction n with
    | zero => intro _; unfold worstU; omega
    | succ n ih =>
      intro h
      have h1 := ih (by omega)
      have h2 : worstU x (stockF x) i k (n + 1) = min (worstU x (stockF x) i k n) (foundN x (stockF x) i k ((gp (gw x.planks i).knots k).1 + n)) := rfl
      rw [h2, found_len (looked_ok hb hi hk (by omega) (by omega)) hi]
      omega
  exact key _ (by omega)

set_option maxRecDepth 100000 in
set_option maxHeartbeats 8000000 in
theorem refLook_any {B : Nat} {pa sa : Option Addr} {pn pc sn sc : Nat} {x : Book} {w : World} (hB : B ≤ w.heap.size) (hx : BookAt B w pa pn sa sn x) :
    Calls Try.prog 33 #[.agg #[.slice pa pn pc, .slice sa sn sc]] w fun e w' => e = .returned (.tuple #[.int .i64 (lookR x).1, .int .i64 (lookR x).2.1, .int .i64 (lookR x).2.2]) ∧ Below w.heap.size w w' := by
  have hpn := Lib.hid hx.planks.len
  have hsn := Lib.hid hx.parts.len
  obtain ⟨R, hR⟩ : ∃ R, R = lookR x := ⟨_, rfl⟩
  rw [← hR]
  have hR' := Lib.hid hR
  obtain ⟨w0, hw0⟩ : ∃ w0, w0 = w.alloc (.cells #[.slice pa pn pc, .slice sa sn sc] 25) := ⟨_, rfl⟩
  have hbw0 : Below w.heap.size w w0 := by rw [hw0]; exact (Below.refl _ _).alloc (Nat.le_refl _) _
  have hk : Blk w0 w.heap.size #[.slice pa pn pc, .slice sa sn sc] := by rw [hw0]; exact Blk.new w _ _
  have l0 : w.heap.size < w0.heap.size := hk.lt
  have hx0 := Lib.hid (hx.keep (w' := w0) (Nat.le_refl _) (fun b o h => bcells hbw0 b o (by omega)))
  have hBw : B ≤ w0.heap.size := by omega
  clear hx hR
  have q0 : w0.cell? ⟨w.heap.size, 0, none⟩ = some (.slice pa pn pc) := hk.cell
  have q1 : w0.cell? ⟨w.heap.size, 1, none⟩ = some (.slice sa sn sc) := hk.cell
  go_enter Try.func33, Try.ntmps33
  replace hw0 := hw0.symm
  go_wp2_with fail
  clear hw0
  refine (refCheck_any (B := B) hBw hx0.out).mono ?_
  rintro e w1 ⟨rfl, hb1⟩
  clear q0 q1
  replace hk := hk.below hb1 hk.lt
  replace hx0 := Lib.hid (hx0.out.keep (w' := w1) (Nat.le_refl _) (fun b o h => bcells hb1 b o (by omega)))
  replace hBw : B ≤ w1.heap.size := Nat.le_trans hBw hb1.size
  have hbw1 := hbw0.trans (hb1.mono hbw0.size)
  clear hbw0 hb1
  rcases Bool.eq_false_or_eq_true (bookOk x) with hb | hb
  case inr =>
    rw [hb]
    have hRe : Hid (R = (0, 0, 10)) := Lib.hid (by rw [hR'.out]; unfold lookR; rw [if_neg (by rw [hb]; simp)])
    clear hb
    go_wp2_with fail
    refine bodyPost_ret (v := .tuple #[.int .i64 0, .int .i64 0, .int .i64 10]) (by simp [results, Try.results33, go_sem]; try rfl) rfl ⟨?_, hbw1⟩
    rw [hRe.out]
  rw [hb]
  have hb' := Lib.hid hb
  have hG := Lib.hid (good_of hb)
  have hp1 := hG.out.planks
  have hp2 := hG.out.parts
  rw [hpn.out] at hp1
  rw [hsn.out] at hp2
  obtain ⟨p1, p2⟩ := hp1
  obtain ⟨s1, s2⟩ := hp2
  have hx1 := hx0.out
  obtain ⟨pb, po, kv, rfl, hpB, hkv⟩ := woods_cells hx1.planks (by omega)
  have hkv' := Lib.hid hkv
  clear hb hx1 hkv
  go_wp2_with fail
  have l1 := hk.lt
  go_loopw [6, 7, 8, 9] (fun a b c v wr => ∃ (i p q : Nat) (bst : Int), i ≤ pn ∧ v = .int .i64 i ∧ a = .int .i64 p ∧ b = .int .i64 q ∧ c = .int .i64 bst ∧ Hid (LookSt x i 0 p q bst) ∧ Below w1.heap.size w1 wr) (fun _ _ _ v _ => pn - (intOf v).toNat)
  case atStart => exact ⟨0, 0, 0, -1, by omega, rfl, rfl, rfl, rfl, Lib.hid (look_start x), Below.refl _ _⟩
  case round =>
    rename World => wi
    obtain ⟨i, p, q, bst, hi2, rfl, rfl, rfl, rfl, hst, hbi⟩ := hrel
    have hki := hk.below hbi l1
    have hzi := hbi.size
    have hbwi := hbw1.trans (hbi.mono hbw1.size)
    have q0 : wi.cell? ⟨w.heap.size, 0, none⟩ = some (.slice (some ⟨pb, po, none⟩) pn pc) := hki.cell
    have q1 : wi.cell? ⟨w.heap.size, 1, none⟩ = some (.slice sa sn sc) := hki.cell
    by_cases hlt : i < pn
    case neg =>
      obtain rfl : i = pn := by omega
      have hRe : Hid (R = if bst < 0 then (0, 0, 4) else ((p : Int), (q : Int), 0)) := Lib.hid (by
        have h1 := hst.out
        rw [← hpn.out] at h1
        rw [hR'.out]; exact look_end hb'.out h1)
      by_cases hneg : bst < 0
      · have hRe2 : Hid (R = (0, 0, 4)) := Lib.hid (by rw [hRe.out, if_pos hneg])
        go_wp2_with fail
        refine bodyPost_ret (v := .tuple #[.int .i64 0, .int .i64 0, .int .i64 4]) (by simp [results, Try.results33, go_sem]; try rfl) rfl ⟨?_, hbwi⟩
        rw [hRe2.out]
      · have hRe2 : Hid (R = ((p : Int), (q : Int), 0)) := Lib.hid (by rw [hRe.out, if_neg hneg])
        go_wp2_with fail
        refine bodyPost_ret (v := .tuple #[.int .i64 p, .int .i64 q, .int .i64 0]) (by simp [results, Try.results33, go_sem]; try rfl) rfl ⟨?_, hbwi⟩
        rw [hRe2.out]
    have hii : (i : Int) < pn := by omega
    have hix : Hid (i < x.planks.length) := Lib.hid (by rw [hpn.out]; exact hlt)
    obtain ⟨hkvi, _, kc1, _⟩ := hkv'.out i hlt
    obtain ⟨ka, kn, kc, hke, hks⟩ := hkvi
    rw [hke] at kc1
    have hknl : Hid ((gw x.planks i).knots.length = kn) := Lib.hid hks.len
    have hks' := Lib.hid hks
    have hk3 := (hG.out.wood i hix.out).2.2
    rw [hknl.out] at hk3
    clear hke hks
    go_wp2_with fail
    clear q0 q1
    go_loopw [6, 7, 8, 10] (fun a b c v wr => ∃ (k p q : Nat) (bst : Int), k ≤ kn ∧ v = .int .i64 k ∧ a = .int .i64 p ∧ b = .int .i64 q ∧ c = .int .i64 bst ∧ Hid (LookSt x i k p q bst) ∧ Below wi.heap.size wi wr) (fun _ _ _ v _ => kn - (intOf v).toNat)
    case atStart => exact ⟨0, p, q, bst, by omega, rfl, rfl, rfl, rfl, hst, Below.refl _ _⟩
    case round =>
      rename World => wk
      clear hst
      obtain ⟨k, p, q, bst, hk2, rfl, rfl, rfl, rfl, hst, hbk⟩ := hrel
      have hkk := hki.below hbk hki.lt
      have hzk := hbk.size
      have hb1k := hbi.trans (hbk.mono hbi.size)
      have q0 : wk.cell? ⟨w.heap.size, 0, none⟩ = some (.slice (some ⟨pb, po, none⟩) pn pc) := hkk.cell
      have q1 : wk.cell? ⟨w.heap.size, 1, none⟩ = some (.slice sa sn sc) := hkk.cell
      have kc1k := (bcells hb1k pb (po + i * 2 + 1) (by omega)).trans kc1
      have lpb : pb < wk.heap.size := by omega
      by_cases hltk : k < kn
      case neg =>
        obtain rfl : k = kn := by omega
        have hst2 : Hid (LookSt x (i + 1) 0 p q bst) := Lib.hid (look_row (by rw [hknl.out]; exact hst.out))
        go_wp2_with fail
        go_roundw
        case rel => exact ⟨i + 1, p, q, bst, by omega, by go_num, rfl, rfl, rfl, hst2, hbi.trans (hbk.mono hbi.size)⟩
        case measure => simp [intOf]; omega
      have hkI : (k : Int) < kn := by omega
      have hkx : Hid (k < (gw x.planks i).knots.length) := Lib.hid (by rw [hknl.out]; exact hltk)
      obtain ⟨kb, ko, rfl, hkB, hkc⟩ := hks'.out.get k hltk
      obtain ⟨c0, c1, i0, i1⟩ := hkc k hltk
      obtain ⟨lo, hlo⟩ : ∃ lo, lo = (gp (gw x.planks i).knots k).1 := ⟨_, rfl⟩
      obtain ⟨hi, hhi⟩ : ∃ hi, hi = (gp (gw x.planks i).knots k).2 := ⟨_, rfl⟩
      have hkn := hG.out.knot i hix.out k hkx.out
      have hwd := hG.out.wood i hix.out
      have hlohi : lo ≤ hi ∧ 0 ≤ lo ∧ hi ≤ 16 := by rw [hlo, hhi]; unfold Knot at hkn; exact ⟨hkn.2.1, hkn.1, by omega⟩
      obtain ⟨hlh, hlo0, hhi16⟩ := hlohi
      rw [← hlo] at c0
      rw [← hhi] at c1
      have c0k := (bcells hb1k kb (ko + k * 2) (by omega)).trans c0
      have c1k := (bcells hb1k kb (ko + k * 2 + 1) (by omega)).trans c1
      obtain ⟨N, hN⟩ : ∃ N : Nat, (N : Int) = hi - lo + 1 := ⟨(hi - lo + 1).toNat, by omega⟩
      obtain ⟨W, hW⟩ : ∃ W, W = worstN x (stockF x) i k := ⟨_, rfl⟩
      have hW' : Hid (W = worstU x (stockF x) i k N) := Lib.hid (by rw [hW]; unfold worstN; rw [← hlo, ← hhi, ← hN, Int.toNat_natCast])
      have hW0 : 0 ≤ W := by rw [hW]; exact worst_pos hb'.out hix.out hkx.out
      have hok : Hid (∀ t, lo ≤ t → t ≤ hi → bookOk (lookedB x i k t) = true) := Lib.hid (fun t h1 h2 => looked_ok hb'.out hix.out hkx.out (by rw [← hlo]; exact h1) (by rw [← hhi]; exact h2))
      have hstep : Hid (∀ j : Nat, lo + (j : Int) ≤ hi → worstU x (stockF x) i k (j + 1) = min (worstU x (stockF x) i k j) ((mostR (lookedB x i k (lo + j))).1.length : Int)) := Lib.hid (fun j hj => by
        have : worstU x (stockF x) i k (j + 1) = min (worstU x (stockF x) i k j) (foundN x (stockF x) i k (lo + j)) := by rw [hlo]; rfl
        rw [this, found_len (hok.out _ (by omega) hj) hix.out])
      have hwu0 : Hid ((sn : Int) = worstU x (stockF x) i k 0) := Lib.hid (by unfold worstU; rw [hsn.out])
      have hWx := Lib.hid hW
      have lkb : kb < wk.heap.size := by omega
      clear hlo hhi hkc c0 c1 i0 i1 hkn hwd hW
      go_upto_region 11 with fail
      go_cut [11, 12] (fun s t wx => ∃ g : Nat, s = .pointer (some ⟨g, 0, none⟩) ∧ t = .int .i64 sn ∧ wk.heap.size ≤ g ∧ Blk wx g #[.int .i64 lo, .int .i64 hi] ∧ Below wk.heap.size wk wx)
      case first =>
        have hO := open_wide
        have hF := hO.fn
        have hd := hO.depth
        have hS0 : SameBut (fun _ => False) wk wk.drew := (SameBut.refl _ _).drew
        have hread : ∀ w', SameBut (fun _ => False) wk w' → w'.cell? ⟨w.heap.size, 0, none⟩ = some (.slice (some ⟨pb, po, none⟩) pn pc) ∧ w'.cell? ⟨w.heap.size, 1, none⟩ = some (.slice sa sn sc) ∧ w'.cell? ⟨pb, po + i * 2 + 1, none⟩ = some (.slice (some ⟨kb, ko, none⟩) kn kc) ∧ w'.cell? ⟨kb, ko + k * 2, none⟩ = some (.int .i64 lo) ∧ w'.cell? ⟨kb, ko + k * 2 + 1, none⟩ = some (.int .i64 hi) := fun w' h =>
          ⟨(hkk.same h (fun e => e)).cell, (hkk.same h (fun e => e)).cell, (h.cell lpb (fun e => e)).trans kc1k, (h.cell lkb (fun e => e)).trans c0k, (h.cell lkb (fun e => e)).trans c1k⟩
        clear q0 q1 kc1k c0k c1k
        refine region_planW (fun w' => SameBut (fun _ => False) wk w') [(0, true), (1, true), (2, true), (3, true), (4, true), (5, true), (6, true), (7, true), (8, true), (9, true), (10, true), (11, true), (12, false), (13, false), (14, true)] (by kernel_rfl) (by kernel_rfl) (by kernel_rfl) (by decide) (by kernel_rfl) ?_
        iterate 12
          (refine plan_take ?_ rfl hS0 (by rfl) ?_ ?_
           rotate_left
           · intro w' hw'
             obtain ⟨q1, q2, q3, q4, q5⟩ := hread w' hw'
             go_simp
             with_reducible rfl
           simp only [Act.put, List.setIfInBounds_toArray, List.set_cons_zero, List.set_cons_succ])
        refine plan_one rfl (by rfl) (fun K hK => ?_)
        go_simp
        refine hK _ _ (hS0.alloc _) ?_
        clear hK K
        refine plan_one rfl (by rfl) (fun K hK => ?_)
        go_simp
        have hS6 : SameBut (fun _ => False) wk (wk.alloc (.cells #[.int .i64 lo, .int .i64 hi] 60)).drew := ((SameBut.refl _ _).alloc _).drew
        refine hK _ _ hS6 ?_
        clear hK K
        iterate 1
          (refine plan_take ?_ rfl hS6 (by rfl) ?_ ?_
           rotate_left
           · intro w' hw'
             go_simp
             with_reducible rfl
           simp only [Act.put, List.setIfInBounds_toArray, List.set_cons_zero, List.set_cons_succ])
        unfold planW okN
        go_wp2_with fail
        go_meet
        exact ⟨wk.heap.size, rfl, rfl, Nat.le_refl _, (Blk.new wk _ _).drew, hS6.toBelow (Nat.le_refl _) (fun _ h => h.elim)⟩
      case rest =>
      obtain ⟨g, rfl, rfl, hg, hG5, hb5⟩ := hcut
      obtain ⟨w5, hw5⟩ : ∃ w5, w5 = wc := ⟨_, rfl⟩
      rw [← hw5] at hG5 hb5 ⊢
      clear hw5
      have hk5 := hkk.below hb5 hkk.lt
      have hb15 := hb1k.trans (hb5.mono hb1k.size)
      have hbi5 := hbk.trans (hb5.mono hbk.size)
      have hg5 := hG5.lt
      have y0 : w5.cell? ⟨g, 0, none⟩ = some (.int .i64 lo) := hG5.cell
      clear q0 q1 kc1k c0k c1k hkk hb1k hb5
      go_wp2_with fail
      clear y0
      have l5 := hk5.lt
      go_loopw [12, 13] (fun u v wr => ∃ j : Nat, j ≤ N ∧ v = .int .i64 (lo + j) ∧ u = .int .i64 (worstU x (stockF x) i k j) ∧ Below w5.heap.size w5 wr) (fun _ v _ => (hi + 1 - intOf v).toNat)
      case atStart => exact ⟨0, Nat.zero_le _, by simp, by rw [hwu0.out], Below.refl _ _⟩
      case round =>
        rename World => wn
        obtain ⟨j, hj, rfl, rfl, hbn⟩ := hrel
        have hkn := hk5.below hbn l5
        have hGn := hG5.below hbn hg5
        have hzn := hbn.size
        have q0 : wn.cell? ⟨w.heap.size, 0, none⟩ = some (.slice (some ⟨pb, po, none⟩) pn pc) := hkn.cell
        have q1 : wn.cell? ⟨w.heap.size, 1, none⟩ = some (.slice sa sn sc) := hkn.cell
        have y1 : wn.cell? ⟨g, 1, none⟩ = some (.int .i64 hi) := hGn.cell
        by_cases hltj : j < N
        case neg =>
          obtain rfl : j = N := by omega
          have hgt : ¬ lo + (j : Int) ≤ hi := by omega
          rw [← hW'.out]
          have hbfin := hbi5.trans (hbn.mono hbi5.size)
          by_cases hbst : bst < W
          · have hst2 : Hid (LookSt x i (k + 1) i k W) := Lib.hid (by rw [hWx.out]; exact look_take hst.out hix.out hkx.out (by rw [← hWx.out]; exact hW0) (by rw [← hWx.out]; exact hbst))
            go_wp2_with fail
            go_roundw
            case rel => exact ⟨k + 1, i, k, W, by omega, by go_num, rfl, rfl, rfl, hst2, hbfin⟩
            case measure => simp [intOf]; omega
          · have hst2 : Hid (LookSt x i (k + 1) p q bst) := Lib.hid (look_keep hst.out (by rw [← hWx.out]; exact hW0) (by rw [← hWx.out]; omega))
            go_wp2_with fail
            go_roundw
            case rel => exact ⟨k + 1, p, q, bst, by omega, by go_num, rfl, rfl, rfl, hst2, hbfin⟩
            case measure => simp [intOf]; omega
        have hle : lo + (j : Int) ≤ hi := by omega
        have hstj := hstep.out j hle
        have hxn := Lib.hid (hx0.out.keep (w' := wn) (Nat.le_refl _) (fun b o h => (bcells hbn b o (by have := hb15.size; omega)).trans (bcells hb15 b o (by omega))))
        obtain ⟨Y, hY⟩ : ∃ Y, Y = worstU x (stockF x) i k j := ⟨_, rfl⟩
        rw [← hY] at hstj ⊢
        have hstj' := Lib.hid hstj
        have hBn : B ≤ wn.heap.size := by have := hb15.size; omega
        clear hY hstj
        go_wp2_with fail
        refine (refKnown_any (B := B) (t := lo + j) hBn hxn.out (by omega) hlt hkx.out (by rw [hknl.out]; omega) (by unfold I64; omega)).mono ?_
        rintro e w6 ⟨qa, qn, qc, rfl, hy, hb6⟩
        clear q0 q1 y1
        go_wp2_with fail
        refine (refmost_any (Nat.le_refl _) hy (hok.out _ (by omega) hle)).mono ?_
        rintro e w7 ⟨ra, rn, rc, rfl, hl, hb7⟩
        have hln := hl.len
        have hst2 : Hid (worstU x (stockF x) i k (j + 1) = min Y (rn : Int)) := Lib.hid (by rw [hstj'.out, hln])
        have hbn7 := (hbn.trans (hb6.mono hbn.size)).trans (hb7.mono (Nat.le_trans hbn.size hb6.size))
        clear hl hln hb7 hb6 hy
        go_wp2_with fail
        all_goals
          go_roundw
          case rel =>
            first
              | exact ⟨j + 1, by omega, by omega, by rw [hst2.out]; omega⟩
              | exact ⟨j + 1, by omega, by rw [show lo + (j : Int) + 1 = lo + ((j + 1 : Nat) : Int) by omega], by rw [hst2.out]; congr 1; omega, hbn7⟩
          case measure => simp [intOf]; omega
end Go.Proofs.Ytbbolibkheelmaa
