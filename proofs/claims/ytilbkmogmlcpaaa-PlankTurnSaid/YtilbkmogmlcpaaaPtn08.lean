/- Walks: a book in which the inch of a knot is known. A region that draws its order, by a tree of plans: where two operations may come up, each of them is followed. Plain mathematics: a book of some of its planks and parts, and what can be cut in it. -/
import Derived.Test.YtilbkmogmlcpaaaPtn07
import Derived.Test.YtilbkmogmlcpaaaGa14
import Derived.Test.YtilbkmogmlcpaaaGa08
import Derived.Test.YtilbkmogmlcpaaaPtn05
namespace Go.Proofs.Ytilbkmogmlcpaaa
open Go.RowKit Go.Shelf

/-- Some elements more behind a slice of one's own. -/
theorem grow_many {w : World} {base n m c b o e sl size bytes : Nat} {z : Value} {va : Option Addr} {vn vc : Nat} {xs news : List Value} (hinfo : (Try.prog.info? e).map (fun i => (i.zero, i.size, i.bytes)) = some (some z, size, bytes)) (hu : Try.prog.underlying sl = some (.slice e))
    (hz : z.cells.size = size) (h0 : 0 < size) (hby : bytes ≤ 1000) (hown : w.ownsRow base e size (.slice va vn vc) n xs) (hl : news.length = m * size) (hc : ∀ j u, news[j]? = some u → w.cell? ⟨b, o + j, none⟩ = some u) (h1 : ∀ u ∈ news, u.oneCell' = true) (hn : n + m ≤ 1000) (hb : base ≤ w.heap.size) :
    ∃ v' w', (appendS #[sl, sl] sl #[.slice va vn vc, .slice (some ⟨b, o, none⟩) m c]).run Try.prog w = .ok v' w' ∧
      w'.ownsRow base e size v' (n + m) (xs ++ news) ∧ SameBut (fun i => base ≤ i) w w' := by
  obtain ⟨i0, hi, hz0, hz1, hz2⟩ := info_parts hinfo
  obtain ⟨v', w7, hap, hown7, hgr7, _, _⟩ := run_append_own_at (P := Try.prog) (w := w) base sl sl e i0 z size bytes hu hi hz0 hz1 hz2 hz h0 (.slice va vn vc) _ _ hown ⟨b, o, none⟩ m c news hl
    (fun j u hj => by rw [add_at]; exact hc j u hj)
    h1 (by unfold maxLen; omega) (by have : (n + m) * bytes ≤ 1000 * 1000 := Nat.mul_le_mul (by omega) hby
                                     omega) hb
  have hlt6 := hown.lt
  exact ⟨v', w7, hap, hown7, same_grown hgr7 (fun k h => (hlt6 k h).1)⟩
theorem own_blk {w : World} {base e size n : Nat} {v : Value} {xs : List Value} (h : w.ownsRow base e size v n xs) (hn : 0 < n) :
    ∃ g c cur, v = .slice (some ⟨g, 0, none⟩) n c ∧ base ≤ g ∧ g < w.heap.size ∧ n ≤ c ∧ Blk w g cur ∧ ∀ (k : Nat) (u : Value), xs[k]? = some u → cur[k]? = some u := by
  obtain ⟨h1, h2⟩ := h
  rcases h2 with ⟨rfl, rfl⟩ | ⟨g, cap, cur, rfl, hb, hg, hc, hm, hs, ht⟩
  · omega
  · refine ⟨g, cap, cur, rfl, hb, (Array.getElem?_eq_some_iff.1 hg).1, hc, ⟨_, hg⟩, fun k u hk => ?_⟩
    have hkl : k < n * size := by
      have := (List.getElem?_eq_some_iff.1 hk).1
      omega
    rw [← Array.getElem?_toList, ← List.getElem?_take_of_lt hkl, ht]
    exact hk

theorem flat_len {f : Nat → List Value} {n m : Nat} (hf : ∀ i, (f i).length = m) : ((List.range n).flatMap f).length = n * m := by
  induction n with
  | zero => simp
  | succ n ih => rw [List.range_succ, List.flatMap_append, List.length_append, ih]; simp [hf, Nat.succ_mul]
theorem flat_cell {w : World} {b o n m : Nat} {f : Nat → List Value} (hf : ∀ i, (f i).length = m) (hm : 0 < m) (hc : ∀ i, i < n → ∀ j, j < m → w.cell? ⟨b, o + (i * m + j), none⟩ = (f i)[j]?) : ∀ (j : Nat) (u : Value), ((List.range n).flatMap f)[j]? = some u → w.cell? ⟨b, o + j, none⟩ = some u := by
  intro j u hj
  have hl : j < n * m := by
    have := (List.getElem?_eq_some_iff.1 hj).1
    rwa [flat_len hf] at this
  have h1 : j / m < n := Nat.div_lt_of_lt_mul (by rw [Nat.mul_comm]; exact hl)
  have h2 : j % m < m := Nat.mod_lt _ hm
  have h3 : j / m * m + j % m = j := by have := Nat.div_add_mod j m; rw [Nat.mul_comm] at this; exact this
  have h4 := flat_get (L := List.range n) (f := f) (m := m) (i := j / m) (j := j % m) hf (by simpa using h1) h2
  rw [h3, hj, List.getElem_range] at h4
  have h5 := hc (j / m) h1 (j % m) h2
  rw [h3] at h5
  rw [h5, ← h4]
def spanC (x : Wood) (j : Nat) : List Value := [.int .i64 (gp x.knots j).1, .int .i64 (gp x.knots j).2]
theorem two_cases {j : Nat} {P : Nat → Prop} (h : j < 2) (h0 : P 0) (h1 : P 1) : P j := by
  rcases (by omega : j = 0 ∨ j = 1) with rfl | rfl <;> assumption

/-- What is left of the last row of cells when one is stored. -/
theorem set_get {c : Array Value} {i j : Nat} {v u : Value} (h : c[j]? = some u) : (c.setIfInBounds i v)[j]? = some (if j = i then v else u) := by
  rw [Array.getElem?_setIfInBounds]
  have hj : j < c.size := (Array.getElem?_eq_some_iff.1 h).1
  by_cases e : i = j
  · subst e; simp [hj]
  · rw [if_neg e, if_neg (fun h => e h.symm)]; exact h

attribute [local go_sem ↓] append_alias

set_option maxRecDepth 100000 in
set_option maxHeartbeats 4000000 in
theorem known_any {B : Nat} {pa sa : Option Addr} {pn pc sn sc i k : Nat} {x : Book} {t : Int} {w : World} (hB : B ≤ w.heap.size) (hx : BookAt B w pa pn sa sn x) (h1 : pn ≤ 100) (hi : i < pn) (hk : k < (gw x.planks i).knots.length) (h3 : (gw x.planks i).knots.length ≤ 100) (ht : I64 t) :
    Calls Try.prog 51 #[.agg #[.slice pa pn pc, .slice sa sn sc], .int .i64 i, .int .i64 k, .int .i64 t] w fun e w' => ∃ qa qn qc, e = .returned (.agg #[.slice qa qn qc, .slice sa sn sc]) ∧ BookAt w'.heap.size w' qa qn sa sn (lookedB x i k t) ∧ Below w.heap.size w w' := by
  have hpn := Lib.hid hx.planks.len
  obtain ⟨W0, hW0⟩ : ∃ W0, W0 = ((w.alloc (.cells #[.slice pa pn pc, .slice sa sn sc] 25)).alloc (.cells #[.slice none 0 0, .slice none 0 0] 25)).alloc (.cells #[.slice pa pn pc, .slice sa sn sc] 25) := ⟨_, rfl⟩
  have hb0 : Below w.heap.size w W0 := by rw [hW0]; exact (((Below.refl _ _).alloc (Nat.le_refl _) _).alloc (by simp) _).alloc (by simp; omega) _
  have hk0 : Blk W0 w.heap.size #[.slice pa pn pc, .slice sa sn sc] := by rw [hW0]; exact ((Blk.new w _ _).alloc _).alloc _
  have hr0 : Blk W0 (w.heap.size + 1) #[.slice none 0 0, .slice none 0 0] := by
    rw [hW0]
    have := Blk.new (w.alloc (.cells #[.slice pa pn pc, .slice sa sn sc] 25)) #[.slice none 0 0, .slice none 0 0] 25
    rw [World.size_alloc] at this
    exact this.alloc _
  have hX0 : Blk W0 (w.heap.size + 2) #[.slice pa pn pc, .slice sa sn sc] := by
    rw [hW0]
    have := Blk.new ((w.alloc (.cells #[.slice pa pn pc, .slice sa sn sc] 25)).alloc (.cells #[.slice none 0 0, .slice none 0 0] 25)) #[.slice pa pn pc, .slice sa sn sc] 25
    rw [World.size_alloc, World.size_alloc] at this
    exact this
  have hz0 : w.heap.size + 3 ≤ W0.heap.size := by rw [hW0]; simp
  have hx0 := hx.keep (w' := W0) (Nat.le_refl _) (fun b o h => bcells hb0 b o (by omega))
  clear hx
  have hparts := Lib.hid hx0.parts
  obtain ⟨pb, po, kv, rfl, hpB, hkv⟩ := woods_cells hx0.planks (by omega)
  obtain ⟨hki, _, c1, _⟩ := hkv i hi
  obtain ⟨ka, kn, kc, hke, hks⟩ := hki
  have hkn : kn = (gw x.planks i).knots.length := hks.len.symm
  rw [hke] at c1
  obtain ⟨kb, ko, rfl, hkB, hkc⟩ := hks.get 0 (by omega)
  have hkv' := Lib.hid hkv
  have hkc' := Lib.hid hkc
  have hkn3 : kn ≤ 100 := by omega
  have hkk : k < kn := by omega
  have hkn' := Lib.hid hkn
  have hke' := Lib.hid hke
  have q0 : W0.cell? ⟨w.heap.size, 0, none⟩ = some (.slice (some ⟨pb, po, none⟩) pn pc) := hk0.cell
  clear hkv hkc hks hx0 hkn hke hk h3
  go_enter Try.func51, Try.ntmps51
  go_upto_region 2 with fail
  rw [← hW0]
  clear hW0
  go_cut [9] (fun s wx => s = .pointer (some ⟨w.heap.size + 2, 0, none⟩) ∧ ∃ (g c : Nat) (cur : Array Value), W0.heap.size ≤ g ∧ g < wx.heap.size ∧ Blk wx (w.heap.size + 2) #[.slice (some ⟨g, 0, none⟩) pn c, .slice sa sn sc] ∧ Blk wx g cur ∧
    (∀ (j : Nat) (u : Value), ((List.range pn).flatMap (woodC x kv))[j]? = some u → cur[j]? = some u) ∧ SameBut (fun b => b = w.heap.size + 2 ∨ W0.heap.size ≤ b) W0 wx)
  case first =>
    have ho : (W0.alloc (.cells #[] 48)).ownsRow W0.heap.size 48 2 (.slice (some ⟨W0.heap.size, 0, none⟩) 0 0) 0 [] := World.ownsRow_lit (base := W0.heap.size) (e := 48) (size := 2) W0 #[] 0 (Nat.le_refl _) (by decide) rfl
    obtain ⟨v', w7, hap, hown7, hs7⟩ := grow_many (b := pb) (o := po) (m := pn) (c := pc) (news := (List.range pn).flatMap (woodC x kv)) woodInfo woodsUnder rfl (by decide) (by decide) ho (flat_len (fun _ => rfl)) (flat_cell (m := 2) (fun _ => rfl) (by decide) (fun j hj l hl => by
        have hkvj := hkv'.out j hj
        rw [← Nat.add_assoc]
        rw [cell_alloc_lt _ (show pb < W0.heap.size by omega)]
        exact two_cases (P := fun l => W0.cell? ⟨pb, po + j * 2 + l, none⟩ = (woodC x kv j)[l]?) hl hkvj.2.1 hkvj.2.2.1))
      (fun u hu => by
        rw [List.mem_flatMap] at hu
        obtain ⟨j, hj, hu⟩ := hu
        obtain ⟨⟨ja, jn, jc, je, _⟩, _⟩ := hkv'.out j (List.mem_range.1 hj)
        unfold woodC at hu
        rw [je] at hu
        simp at hu
        rcases hu with rfl | rfl <;> rfl) (by omega) (by simp)
    rw [Nat.zero_add, List.nil_append] at hown7
    obtain ⟨g, c, cur, rfl, hg1, hg2, hgc, hgk, hcur⟩ := own_blk hown7 (by omega)
    have hs7' : SameBut (fun b => W0.heap.size ≤ b) W0 w7 := ((SameBut.refl _ W0).alloc _).trans hs7
    have hX7 := hX0.same hs7' (by omega)
    have x0 : w7.cell? ⟨w.heap.size + 2, 0, none⟩ = some (.slice (some ⟨pb, po, none⟩) pn pc) := hX7.cell
    have xf : w7.frozen? ⟨w.heap.size + 2, 0, none⟩ = false := hX7.frozen
    have hcur' := Lib.hid hcur
    have lW : w.heap.size < W0.heap.size := by omega
    clear hown7 ho hcur
    go_wp2_with fail
    go_meet
    exact ⟨rfl, g, c, cur, hg1, by simp; omega, hX7.setAt (i := 0) _, hgk.setOther (by omega) _, hcur'.out, (hs7'.mono (fun b h => .inr h)).setCell (M := fun b => b = w.heap.size + 2 ∨ W0.heap.size ≤ b) (.inl (.inl rfl)) _⟩
  case rest =>
  obtain ⟨rfl, g, c, cur, hg1, hg2, hX1, hG1, hcur, hs1⟩ := hcut
  obtain ⟨w1, hw1⟩ : ∃ w1, w1 = wc := ⟨_, rfl⟩
  rw [← hw1] at hg2 hX1 hG1 hs1 ⊢
  clear hw1
  have hz1 := hs1.size
  have hk1 := hk0.same hs1 (by omega)
  have hr1 := hr0.same hs1 (by omega)
  have c1' := (hs1.cell (b := pb) (o := po + i * 2 + 1) (by omega) (by omega)).trans c1
  have hcur' := Lib.hid hcur
  have hii : (i : Int) < pn := by omega
  have hki : (k : Int) < kn := by omega
  have lk0 : w.heap.size < w1.heap.size := by omega
  have lk2 : w.heap.size + 2 < w1.heap.size := by omega
  clear q0 c1 hcur
  go_upto_region 3 with fail
  go_cut [9] (fun s wx => s = .pointer (some ⟨w.heap.size + 2, 0, none⟩) ∧ ∃ (g2 c2 : Nat) (cur2 : Array Value), w1.heap.size ≤ g2 ∧ g2 < wx.heap.size ∧ Blk wx g (cur.setIfInBounds (i * 2 + 1) (.slice (some ⟨g2, 0, none⟩) kn c2)) ∧ Blk wx g2 cur2 ∧
    (∀ (j : Nat) (u : Value), ((List.range kn).flatMap (spanC (gw x.planks i)))[j]? = some u → cur2[j]? = some u) ∧ SameBut (fun b => b = g ∨ w1.heap.size ≤ b) w1 wx)
  case first =>
    have hF0 : SameBut (fun b => b = g ∨ w1.heap.size ≤ b) w1 w1.drew := (SameBut.refl _ _).drew
    have hread : ∀ w', SameBut (fun b => b = g ∨ w1.heap.size ≤ b) w1 w' → w'.cell? ⟨w.heap.size, 0, none⟩ = some (.slice (some ⟨pb, po, none⟩) pn pc) ∧ w'.cell? ⟨w.heap.size + 2, 0, none⟩ = some (.slice (some ⟨g, 0, none⟩) pn c) ∧ w'.cell? ⟨pb, po + i * 2 + 1, none⟩ = some (.slice (some ⟨kb, ko, none⟩) kn kc) := fun w' h =>
      ⟨(hk1.same h (by omega)).cell, (hX1.same h (by omega)).cell, (h.cell (by omega) (by omega)).trans c1'⟩
    clear c1'
    have hO := open_wide
    have hF := hO.fn
    have hd := hO.depth
    refine region_planW (fun w' => SameBut (fun b => b = g ∨ w1.heap.size ≤ b) w1 w') [(0, true), (1, true), (2, true), (4, true), (5, true), (6, true), (7, true), (8, true), (9, true), (3, false), (10, false), (11, true), (12, true), (13, false)] (by kernel_rfl) (by kernel_rfl) (by kernel_rfl) (by decide) (by kernel_rfl) ?_
    have hG0 := hG1.drew
    have hspan : ∀ (j : Nat), j < kn → ∀ l, l < 2 → (w1.drew.alloc (.cells #[] 60)).cell? ⟨kb, ko + (j * 2 + l), none⟩ = (spanC (gw x.planks i) j)[l]? := fun j hj l hl => by
      have hkcj := hkc'.out j hj
      rw [cell_alloc_lt _ (show kb < w1.drew.heap.size by show kb < w1.heap.size; omega), ← Nat.add_assoc]
      have e : ∀ o, w1.drew.cell? ⟨kb, o, none⟩ = W0.cell? ⟨kb, o, none⟩ := fun o => hs1.cell (b := kb) (o := o) (by omega) (by omega)
      rw [e]
      exact two_cases (P := fun l => W0.cell? ⟨kb, ko + j * 2 + l, none⟩ = (spanC (gw x.planks i) j)[l]?) hl hkcj.1 hkcj.2.1
    have hF0' := hF0
    obtain ⟨wd, hwd⟩ : ∃ wd, wd = w1.drew := ⟨_, rfl⟩
    rw [← hwd] at hF0 hG0 hspan ⊢
    have hzd : w1.heap.size ≤ wd.heap.size := hF0.size
    clear hwd hF0'
    iterate 9
      (refine plan_take ?_ rfl hF0 (by rfl) ?_ ?_
       rotate_left
       · intro w' hw'
         obtain ⟨q1, q2, q3⟩ := hread w' hw'
         go_simp
         with_reducible rfl
       simp only [Act.put, List.setIfInBounds_toArray, List.set_cons_zero, List.set_cons_succ])
    refine plan_one rfl (by rfl) (fun K hK => ?_)
    go_simp
    refine hK _ _ (hF0.alloc _) ?_
    clear hK K
    have ho : (wd.alloc (.cells #[] 60)).ownsRow wd.heap.size 60 2 (.slice (some ⟨wd.heap.size, 0, none⟩) 0 0) 0 [] := World.ownsRow_lit (base := wd.heap.size) (e := 60) (size := 2) wd #[] 0 (Nat.le_refl _) (by decide) rfl
    obtain ⟨v', w7, hap, hown7, hs7⟩ := grow_many (b := kb) (o := ko) (m := kn) (c := kc) (news := (List.range kn).flatMap (spanC (gw x.planks i))) spanInfo spansUnder rfl (by decide) (by decide) ho (flat_len (fun _ => rfl)) (flat_cell (m := 2) (fun _ => rfl) (by decide) hspan)
      (fun u hu => by
        rw [List.mem_flatMap] at hu
        obtain ⟨j, hj, hu⟩ := hu
        unfold spanC at hu
        simp at hu
        rcases hu with rfl | rfl <;> rfl) (by omega) (by simp)
    rw [Nat.zero_add, List.nil_append] at hown7
    obtain ⟨g2, c2, cur2, rfl, hg3, hg4, hgc, hgk, hcur2⟩ := own_blk hown7 (by omega)
    have hs7a : SameBut (fun b => b = g ∨ w1.heap.size ≤ b) wd w7 := ((SameBut.refl _ wd).alloc _).trans (hs7.mono (fun b h => .inr (by omega)))
    have hs7' : SameBut (fun b => b = g ∨ w1.heap.size ≤ b) w1 w7 := hF0.trans hs7a
    have hG7 := hG0.same (((SameBut.refl (fun b => w1.heap.size ≤ b) wd).alloc _).trans (hs7.mono (fun b h => by omega))) (by omega)
    have hcur2' := Lib.hid hcur2
    clear hown7 ho hcur2 hspan hs7 hG0
    refine plan_one rfl (by rfl) (fun K hK => ?_)
    go_simp
    refine hK _ _ hs7' ?_
    clear hK K hap
    iterate 2
      (refine plan_take ?_ rfl hs7' (by rfl) ?_ ?_
       rotate_left
       · intro w' hw'
         go_simp
         with_reducible rfl
       simp only [Act.put, List.setIfInBounds_toArray, List.set_cons_zero, List.set_cons_succ])
    have hidx : (cur[i * 2 + 1]?).isSome = true := by
      have h1 := hcur'.out (i * 2 + 1) (kv i) (by
        rw [flat_get (L := List.range pn) (f := woodC x kv) (m := 2) (fun _ => rfl) (by simpa using hi) (by decide), List.getElem_range]; rfl)
      rw [h1]; rfl
    obtain ⟨uo, huo⟩ := Option.isSome_iff_exists.1 hidx
    have x0 : w7.cell? ⟨g, 0 + i * 2 + 1, none⟩ = some uo := by rw [Nat.zero_add]; exact hG7.cell.trans huo
    have x1 : w7.cell? ⟨g, i * 2 + 1, none⟩ = some uo := hG7.cell.trans huo
    have xf0 : w7.frozen? ⟨g, 0 + i * 2 + 1, none⟩ = false := hG7.frozen
    have xf1 : w7.frozen? ⟨g, i * 2 + 1, none⟩ = false := hG7.frozen
    refine plan_one rfl (by rfl) (fun K hK => ?_)
    go_simp
    refine hK _ _ (hs7'.setCell (M := fun b => b = g ∨ w1.heap.size ≤ b) (.inl (.inl rfl)) _) ?_
    clear hK K
    unfold planW okN
    go_wp2_with fail
    go_meet
    exact ⟨rfl, g2, c2, cur2, by omega, by simp; omega, hG7.setAt (i := i * 2 + 1) _, hgk.setOther (by omega) _, hcur2'.out, hs7'.setCell (M := fun b => b = g ∨ w1.heap.size ≤ b) (.inl (.inl rfl)) _⟩
  case rest =>
  obtain ⟨rfl, g2, c2, cur2, hg3, hg4, hG2, hH2, hcur2, hs2⟩ := hcut
  obtain ⟨w2, hw2⟩ : ∃ w2, w2 = wc := ⟨_, rfl⟩
  rw [← hw2] at hg4 hG2 hH2 hs2 ⊢
  clear hw2
  have hz2 := hs2.size
  have hk2 := hk1.same hs2 (by omega)
  have hr2 := hr1.same hs2 (by omega)
  have hX2 := hX1.same hs2 (by omega)
  have hsz : i * 2 + 1 < cur.size := by
    have h1 := hcur'.out (i * 2 + 1) (kv i) (by
      rw [flat_get (L := List.range pn) (f := woodC x kv) (m := 2) (fun _ => rfl) (by simpa using hi) (by decide), List.getElem_range]; rfl)
    exact (Array.getElem?_eq_some_iff.1 h1).1
  have y0 : (cur.setIfInBounds (i * 2 + 1) (.slice (some ⟨g2, 0, none⟩) kn c2))[i * 2 + 1]? = some (.slice (some ⟨g2, 0, none⟩) kn c2) := by
    rw [Array.getElem?_setIfInBounds, if_pos rfl, if_pos hsz]
  have y1 := Lib.hid y0
  have hcur2' := Lib.hid hcur2
  clear hsz y0 hcur2 c1'
  go_upto_region 4 with fail
  go_cut [9] (fun s wx => s = .pointer (some ⟨w.heap.size + 2, 0, none⟩) ∧ Blk wx g2 ((cur2.setIfInBounds (k * 2) (.int .i64 t)).setIfInBounds (k * 2 + 1) (.int .i64 t)) ∧ SameBut (fun b => b = g2 ∨ w2.heap.size ≤ b) w2 wx)
  case first =>
    have hF0 : SameBut (fun b => b = g2 ∨ w2.heap.size ≤ b) w2 w2.drew := (SameBut.refl _ _).drew
    have hread : ∀ w', SameBut (fun b => b = g2 ∨ w2.heap.size ≤ b) w2 w' → w'.cell? ⟨w.heap.size + 2, 0, none⟩ = some (.slice (some ⟨g, 0, none⟩) pn c) ∧ w'.cell? ⟨g, i * 2 + 1, none⟩ = some (.slice (some ⟨g2, 0, none⟩) kn c2) := fun w' h =>
      ⟨(hX2.same h (by omega)).cell, ((h.cell (b := g) (by omega) (by omega)).trans hG2.cell).trans y1.out⟩
    have hsp : ∀ l, l < 2 → ∃ u, cur2[k * 2 + l]? = some u := fun l hl => ⟨_, hcur2'.out (k * 2 + l) ((spanC (gw x.planks i) k)[l]'(by exact hl)) (by
      rw [flat_get (L := List.range kn) (f := spanC (gw x.planks i)) (m := 2) (fun _ => rfl) (by simpa using hkk) hl, List.getElem_range]
      exact List.getElem?_eq_getElem _)⟩
    obtain ⟨u0, hu0⟩ := hsp 0 (by decide)
    obtain ⟨u1, hu1⟩ := hsp 1 (by decide)
    rw [Nat.add_zero] at hu0
    have hu0' := Lib.hid hu0
    have hu1' := Lib.hid hu1
    clear hsp hu0 hu1
    have hO := open_wide
    have hF := hO.fn
    have hd := hO.depth
    refine region_planW (fun w' => SameBut (fun b => b = g2 ∨ w2.heap.size ≤ b) w2 w') [(0, true), (1, true), (2, true), (3, true), (4, true), (5, true), (6, true), (7, true), (8, false), (9, true), (10, false)] (by kernel_rfl) (by kernel_rfl) (by kernel_rfl) (by decide) (by kernel_rfl) ?_
    iterate 8
      (refine plan_take ?_ rfl hF0 (by rfl) ?_ ?_
       rotate_left
       · intro w' hw'
         obtain ⟨q1, q2⟩ := hread w' hw'
         go_simp
         with_reducible rfl
       simp only [Act.put, List.setIfInBounds_toArray, List.set_cons_zero, List.set_cons_succ])
    refine plan_one rfl (by rfl) (fun K hK => ?_)
    go_simp
    refine (hO.calls (one_any t _)).mono ?_
    rintro e w5 ⟨rfl, rfl⟩
    refine hK _ _ (hF0.alloc _) ?_
    clear hK K
    have hH5 : Blk (w2.drew.alloc (.cells #[.int .i64 t, .int .i64 t] 60)) g2 cur2 := (hH2.drew).alloc _
    have hs5 : SameBut (fun b => b = g2 ∨ w2.heap.size ≤ b) w2 (w2.drew.alloc (.cells #[.int .i64 t, .int .i64 t] 60)) := hF0.alloc _
    obtain ⟨w5, hw5⟩ : ∃ w5, w5 = w2.drew.alloc (.cells #[.int .i64 t, .int .i64 t] 60) := ⟨_, rfl⟩
    rw [← hw5] at hH5 hs5
    have hw5' := hw5.symm
    first | rw [← hw5] | (simp only [World.drew_alloc] at hw5; rw [← hw5]) | skip
    clear hw5 hw5'
    iterate 1
      (refine plan_take ?_ rfl hs5 (by rfl) ?_ ?_
       rotate_left
       · intro w' hw'
         go_simp
         with_reducible rfl
       simp only [Act.put, List.setIfInBounds_toArray, List.set_cons_zero, List.set_cons_succ])
    have y0 : w5.cell? ⟨g2, k * 2, none⟩ = some u0 := hH5.cell.trans hu0'.out
    have y2 : w5.cell? ⟨g2, k * 2 + 1, none⟩ = some u1 := hH5.cell.trans hu1'.out
    have y3 : w5.frozen? ⟨g2, k * 2, none⟩ = false := hH5.frozen
    have y4 : w5.frozen? ⟨g2, k * 2 + 1, none⟩ = false := hH5.frozen
    refine plan_one rfl (by rfl) (fun K hK => ?_)
    go_simp
    refine hK _ _ ((hs5.setCell (M := fun b => b = g2 ∨ w2.heap.size ≤ b) (.inl (.inl rfl)) _).setCell (M := fun b => b = g2 ∨ w2.heap.size ≤ b) (.inl (.inl rfl)) _) ?_
    clear hK K
    unfold planW okN
    go_wp2_with fail
    go_meet
    exact ⟨rfl, (hH5.setAt (i := k * 2) _).setAt (i := k * 2 + 1) _, (hs5.setCell (M := fun b => b = g2 ∨ w2.heap.size ≤ b) (.inl (.inl rfl)) _).setCell (M := fun b => b = g2 ∨ w2.heap.size ≤ b) (.inl (.inl rfl)) _⟩
  case rest =>
  obtain ⟨rfl, hH3, hs3⟩ := hcut
  obtain ⟨w3, hw3⟩ : ∃ w3, w3 = wc := ⟨_, rfl⟩
  rw [← hw3] at hH3 hs3 ⊢
  clear hw3
  have hz3 := hs3.size
  have hX3 := hX2.same hs3 (by omega)
  have hr3 := hr2.same hs3 (by omega)
  have hG3 := hG2.same hs3 (by omega)
  have x0 : w3.cell? ⟨w.heap.size + 2, 0, none⟩ = some (.slice (some ⟨g, 0, none⟩) pn c) := hX3.cell
  have x1 : w3.cell? ⟨w.heap.size + 2, 1, none⟩ = some (.slice sa sn sc) := hX3.cell
  have r0 : w3.cell? ⟨w.heap.size + 1, 0, none⟩ = some (.slice none 0 0) := hr3.cell
  have r1 : w3.cell? ⟨w.heap.size + 1, 1, none⟩ = some (.slice none 0 0) := hr3.cell
  have f0 : w3.frozen? ⟨w.heap.size + 1, 0, none⟩ = false := hr3.frozen
  have f1 : w3.frozen? ⟨w.heap.size + 1, 1, none⟩ = false := hr3.frozen
  have hfin : ∀ w9, SameBut (fun b => b = w.heap.size + 1) w3 w9 → BookAt w9.heap.size w9 (some ⟨g, 0, none⟩) pn sa sn (lookedB x i k t) ∧ Below w.heap.size w w9 := by
    intro w9 h9
    have hz9 := h9.size
    have h03 : SameBut (fun b => w.heap.size + 1 ≤ b) W0 w9 := (((hs1.mono (fun b h => by omega)).trans (hs2.mono (fun b h => by omega))).trans (hs3.mono (fun b h => by omega))).trans (h9.mono (fun b h => by omega))
    have hold : ∀ b o, b < B → w9.cell? ⟨b, o, none⟩ = W0.cell? ⟨b, o, none⟩ := fun b o hb => h03.cell (by omega) (by omega)
    have hG9 := hG3.same h9 (by omega)
    have hH9 := hH3.same h9 (by omega)
    have hget : ∀ j, j < pn → ∀ l, l < 2 → cur[j * 2 + l]? = (woodC x kv j)[l]? := fun j hj l hl => by
      have h1 := flat_get (L := List.range pn) (f := woodC x kv) (m := 2) (i := j) (j := l) (fun _ => rfl) (by simpa using hj) hl
      rw [List.getElem_range] at h1
      have h2 : ∃ u, (woodC x kv j)[l]? = some u := ⟨_, List.getElem?_eq_getElem (show l < (woodC x kv j).length from hl)⟩
      obtain ⟨u, hu⟩ := h2
      rw [hu] at h1 ⊢
      exact hcur'.out _ _ h1
    have hget2 : ∀ j, j < kn → ∀ l, l < 2 → cur2[j * 2 + l]? = (spanC (gw x.planks i) j)[l]? := fun j hj l hl => by
      have h1 := flat_get (L := List.range kn) (f := spanC (gw x.planks i)) (m := 2) (i := j) (j := l) (fun _ => rfl) (by simpa using hj) hl
      rw [List.getElem_range] at h1
      have h2 : ∃ u, (spanC (gw x.planks i) j)[l]? = some u := ⟨_, List.getElem?_eq_getElem (show l < (spanC (gw x.planks i) j).length from hl)⟩
      obtain ⟨u, hu⟩ := h2
      rw [hu] at h1 ⊢
      exact hcur2'.out _ _ h1
    refine ⟨⟨⟨?_, by omega, fun j hj => ⟨g, 0, rfl, by omega, fun j hj => ?_⟩⟩, hparts.out.keep (by omega) hold⟩, hb0.trans (h03.toBelow (by omega) (fun b h => by omega))⟩
    · unfold lookedB; simp [hpn.out]
    · obtain ⟨hv, _, _, gI⟩ := hkv'.out j hj
      rw [Nat.zero_add]
      have e0 : w9.cell? ⟨g, j * 2, none⟩ = some (.int .i64 (gw x.planks j).long) := by
        have h0 : cur[j * 2]? = some (.int .i64 (gw x.planks j).long) := hget j hj 0 (by decide)
        rw [hG9.cell, set_get h0, if_neg (by omega)]
      have e1 : w9.cell? ⟨g, j * 2 + 1, none⟩ = some (if j = i then .slice (some ⟨g2, 0, none⟩) kn c2 else kv j) := by
        rw [hG9.cell, set_get (hget j hj 1 (by decide) : cur[j * 2 + 1]? = _)]
        by_cases e : j = i
        · rw [if_pos (by omega), if_pos e]
        · rw [if_neg (by omega), if_neg e]
      by_cases e : j = i
      · subst e
        rw [looked_same (by rw [hpn.out]; exact hj)]
        rw [if_pos rfl] at e1
        refine ⟨_, ⟨some ⟨g2, 0, none⟩, kn, c2, rfl, ?_⟩, e0, e1, gI⟩
        refine ⟨by simp [hkn'.out], by omega, fun l hl => ⟨g2, 0, rfl, by omega, fun l hl => ?_⟩⟩
        rw [Nat.zero_add]
        have d0 : w9.cell? ⟨g2, l * 2, none⟩ = some (if l = k then .int .i64 t else .int .i64 (gp (gw x.planks j).knots l).1) := by
          have h0 : cur2[l * 2]? = some (.int .i64 (gp (gw x.planks j).knots l).1) := hget2 l hl 0 (by decide)
          rw [hH9.cell, set_get (set_get h0), if_neg (by omega)]
          by_cases e : l = k
          · rw [if_pos (by omega), if_pos e]
          · rw [if_neg (by omega), if_neg e]
        have d1 : w9.cell? ⟨g2, l * 2 + 1, none⟩ = some (if l = k then .int .i64 t else .int .i64 (gp (gw x.planks j).knots l).2) := by
          rw [hH9.cell, set_get (set_get (hget2 l hl 1 (by decide) : cur2[l * 2 + 1]? = _))]
          by_cases e : l = k
          · rw [if_pos (by omega), if_pos e]
          · rw [if_neg (by omega), if_neg (by omega), if_neg e]
        rw [d0, d1]
        by_cases e : l = k
        · subst e
          rw [gp_set_same (by rw [← hkn'.out]; exact hl)]
          simp only [if_true]
          exact ⟨trivial, trivial, ht, ht⟩
        · rw [gp_set_other e, if_neg e, if_neg e]
          obtain ⟨_, _, i1, i2⟩ := hkc'.out l hl
          exact ⟨rfl, rfl, i1, i2⟩
      · rw [looked_other e]
        rw [if_neg e] at e1
        exact ⟨_, hv.keep (by omega) hold, e0, e1, gI⟩
  have hfin' := Lib.hid hfin
  clear hfin
  go_wp2_with fail
  refine bodyPost_ret (v := .agg #[.slice (some ⟨g, 0, none⟩) pn c, .slice sa sn sc]) ?_ rfl ⟨_, _, _, rfl, hfin'.out _ (((SameBut.refl _ w3).setCell (M := fun b => b = w.heap.size + 1) (.inl rfl) _).setCell (M := fun b => b = w.heap.size + 1) (.inl rfl) _)⟩
  simp [results, Try.results51, go_sem, r0, r1]
end Go.Proofs.Ytilbkmogmlcpaaa
namespace Go.Proofs.Ytilbkmogmlcpaaa
inductive PT
  | fin
  | tk (i : Nat) (r : PT)
  | on (i : Nat) (r : PT)
  | fk (i j : Nat) (r s : PT)
def PT.depth : PT → Nat
  | .fin => 0
  | .tk _ r => r.depth + 1
  | .on _ r => r.depth + 1
  | .fk _ _ r s => max r.depth s.depth + 1
section
variable {F : Fence} {n : Nat} {P : Program} {Q : Exit → Act → World → Prop} {md : Region.Mode} {S : World → Prop}

def okT (md : Region.Mode) (ops : Array Oper) : PT → Array Bool → Bool
  | .fin, listed => (Region.ready md ops listed).isEmpty
  | .tk i r, listed => Region.free md ops listed i && (Region.ready md ops listed).contains i && okT md ops r (listed.setIfInBounds i true)
  | .on i r, listed => (Region.ready md ops listed == [i]) && okT md ops r (listed.setIfInBounds i true)
  | .fk i j r s, listed => (Region.ready md ops listed == [i, j]) && okT md ops r (listed.setIfInBounds i true) && okT md ops s (listed.setIfInBounds j true)

/-- What is owed for one operation that may come up. -/
def onW (F : Fence) (n : Nat) (P : Program) (l : List Oper) (Q : Exit → Act → World → Prop) (S : World → Prop) (i : Nat) (cont : Act → World → Prop) (a : Act) (w : World) : Prop :=
  ∃ o, nth l i = some o ∧ ∀ K : Act → World → Prop, (∀ a w, (S w ∨ lastOp .any l.toArray i = true) → cont a w → K a w) →
    if Region.wanted o (yielded l.toArray a.tmps) = true then Oper.wpIn F n P o a w K Q else (∀ f, o.about P w a.eval = some f → F.fn f) ∧ K (a.put o.dst undef) w
def wT (F : Fence) (n : Nat) (P : Program) (l : List Oper) (Q : Exit → Act → World → Prop) (S : World → Prop) : PT → Act → World → Prop
  | .fin, a, w => Q .normal a w
  | .tk i r, a, w => ∃ o v, nth l i = some o ∧ S w ∧ YieldsIf P l.toArray S o v a ∧ wT F n P l Q S r (a.put o.dst v) w
  | .on i r, a, w => onW F n P l Q S i (wT F n P l Q S r) a w
  | .fk i j r s, a, w => onW F n P l Q S i (wT F n P l Q S r) a w ∧ onW F n P l Q S j (wT F n P l Q S s) a w

theorem held_of_tree (hO : Open F) {l : List Oper} (hs : Region.noSelect l.toArray = true) (hnd : noDefer l.toArray = true) (hQ : ∀ c a t v w, Q (.panic c) (Act.put a (some t) v) w → Q (.panic c) a w) :
    ∀ (t : PT) (fuel : Nat) (listed : Array Bool) (a : Act) (w : World), t.depth ≤ fuel → okT .any l.toArray t listed = true → wT F n P l Q S t a w → anyHeld F n P .any l.toArray Q S fuel listed a w
  | .fin, fuel, listed, a, w, _, hp, h => by
    have : Region.ready .any l.toArray listed = [] := by simpa [okT] using hp
    exact held_done this h fuel
  | .tk i r, 0, listed, a, w, hf, _, _ => by simp [PT.depth] at hf
  | .on i r, 0, listed, a, w, hf, _, _ => by simp [PT.depth] at hf
  | .fk i j r s, 0, listed, a, w, hf, _, _ => by simp [PT.depth] at hf
  | .tk i r, fuel + 1, listed, a, w, hf, hp, ⟨o, v, ho, hS, hy, h⟩ => by
    simp only [okT, Bool.and_eq_true] at hp
    exact held_takeL hO i ho hs hnd hp.1.1 hp.1.2 (fun c a w h => (match o.dst, h with | none, h => h | some t, h => hQ c a t v w h)) hS hy (held_of_tree hO hs hnd hQ r fuel _ _ w (by simpa [PT.depth] using hf) hp.2 h)
  | .on i r, fuel + 1, listed, a, w, hf, hp, ⟨o, ho, h⟩ => by
    simp only [okT, Bool.and_eq_true, beq_iff_eq] at hp
    exact held_anyL i hp.1 ho (fun K hK => h K (fun a w hS hW => hK a w hS (held_of_tree hO hs hnd hQ r fuel _ a w (by simpa [PT.depth] using hf) hp.2 hW)))
  | .fk i j r s, fuel + 1, listed, a, w, hf, hp, ⟨⟨o, ho, h⟩, ⟨o2, ho2, h2⟩⟩ => by
    simp only [okT, Bool.and_eq_true, beq_iff_eq] at hp
    obtain ⟨⟨hr, hp1⟩, hp2⟩ := hp
    have hf' : max r.depth s.depth ≤ fuel := by simpa [PT.depth] using hf
    refine ⟨fun h0 => (by rw [hr] at h0; cases h0), fun k hk => ?_⟩
    rw [hr] at hk
    rcases List.mem_cons.1 hk with rfl | hk
    · exact wpOpIn_step (nth_ops ho) (fun K' hK => h K' (fun a w hS hW => hK a w ⟨hS, held_of_tree hO hs hnd hQ r fuel _ a w (by omega) hp1 hW⟩))
    · obtain rfl : k = j := by simpa using hk
      exact wpOpIn_step (nth_ops ho2) (fun K' hK => h2 K' (fun a w hS hW => hK a w ⟨hS, held_of_tree hO hs hnd hQ s fuel _ a w (by omega) hp2 hW⟩))

theorem region_tree (hO : Open F) {id : Nat} {l : List Oper} {a : Act} {w : World} (S : World → Prop) (t : PT) (hm : P.follows .mixedOrders = true)
    (hs : Region.noSelect l.toArray = true) (hnd : noDefer l.toArray = true) (hlen : t.depth ≤ l.toArray.size) (hp : okT .any l.toArray t (Array.replicate l.toArray.size false) = true)
    (h : wT F n P l (okN Q) S t a w.drew) : (Code.region id l.toArray true).wpIn F n P Q a w := by
  refine wpIn_mono (region_held S hm (held_of_tree hO hs hnd (Q := okN Q) (fun c a t v w h => h) t _ _ a _ hlen hp h)) ?_
  intro e a' w' hq
  cases e <;> first | exact hq | exact hq.elim
theorem region_treeW {id : Nat} {l : List Oper} {a : Act} {w : World} (S : World → Prop) (t : PT) (hm : P.follows .mixedOrders = true)
    (hs : Region.noSelect l.toArray = true) (hnd : noDefer l.toArray = true) (hlen : t.depth ≤ l.toArray.size) (hp : okT .any l.toArray t (Array.replicate l.toArray.size false) = true)
    (h : wT Fence.wide 0 P l (okN Q) S t a w.drew) : (Code.region id l.toArray true).wp P Q a w :=
  (wpIn_wide (n := 0)).1 (region_tree open_wide S t hm hs hnd hlen hp h)
theorem tree_take {l : List Oper} {i : Nat} {r : PT} {a : Act} {w : World} {o : Oper} (v : Value) (ho : nth l i = some o) (hS : S w) (hw : Region.wanted o (yielded l.toArray a.tmps) = true)
    (hy : ∀ w', S w' → (execOp a.eval o).run P w' = .ok (.value v) w') (h : wT F n P l Q S r (a.put o.dst v) w) : wT F n P l Q S (.tk i r) a w :=
  ⟨o, v, ho, hS, .inl ⟨hw, hy⟩, h⟩
theorem tree_on {l : List Oper} {i : Nat} {cont : Act → World → Prop} {a : Act} {w : World} {o : Oper} (ho : nth l i = some o) (hw : Region.wanted o (yielded l.toArray a.tmps) = true)
    (h : ∀ K : Act → World → Prop, (∀ a w, S w → cont a w → K a w) → Oper.wpIn F n P o a w K Q) : onW F n P l Q S i cont a w :=
  ⟨o, ho, fun K hK => by rw [if_pos hw]; exact h K (fun a w hS => hK a w (.inl hS))⟩
theorem tree_one {l : List Oper} {i : Nat} {r : PT} {a : Act} {w : World} {o : Oper} (ho : nth l i = some o) (hw : Region.wanted o (yielded l.toArray a.tmps) = true)
    (h : ∀ K : Act → World → Prop, (∀ a w, S w → wT F n P l Q S r a w → K a w) → Oper.wpIn F n P o a w K Q) : wT F n P l Q S (.on i r) a w := tree_on ho hw h
end
end Go.Proofs.Ytilbkmogmlcpaaa
namespace Go.Proofs.Ytilbkmogmlcpaaa
open Go.RowKit Go.Shelf

theorem gw_map {x : Book} {L : List Nat} {j : Nat} (hj : j < L.length) : gw (L.map (gw x.planks)) j = gw x.planks L[j] := by
  show (L.map (gw x.planks)).getD j _ = _
  rw [List.getD_eq_getElem?_getD, List.getElem?_map, List.getElem?_eq_getElem hj]; rfl
theorem gs_map {x : Book} {L : List Nat} {j : Nat} (hj : j < L.length) : gs (L.map (gs x.parts)) j = gs x.parts L[j] := by
  show (L.map (gs x.parts)).getD j _ = _
  rw [List.getD_eq_getElem?_getD, List.getElem?_map, List.getElem?_eq_getElem hj]; rfl
theorem subN_iff {s k i : Nat} : i ∈ subN s k ↔ i < k ∧ hasN s i = true := by
  unfold subN; rw [List.mem_filter, List.mem_range]
theorem subN_nodup (s k : Nat) : (subN s k).Nodup := (List.nodup_range).filter _
theorem nodup_inj {L : List Nat} (h : L.Nodup) {i j : Nat} (hi : i < L.length) (hj : j < L.length) (e : L[i] = L[j]) : i = j := by
  have hp := List.pairwise_iff_getElem.1 h
  rcases Nat.lt_trichotomy i j with h1 | h1 | h1
  · exact absurd e (hp i j hi hj h1)
  · exact h1
  · exact absurd e.symm (hp j i hj hi h1)
theorem idx_of {L : List Nat} {y : Nat} (h : y ∈ L) : ∃ j, ∃ hj : j < L.length, L[j] = y := List.mem_iff_getElem.1 h

section
variable {x : Book} {S s : Nat}
theorem only_ok (hb : bookOk x = true) (hS : S ≠ 0) (hS2 : S < 2 ^ x.planks.length) (hs : s ≠ 0) (hs2 : s < 2 ^ x.parts.length) : bookOk (onlyB x S s) = true := by
  have hne : ∀ {m n : Nat}, m ≠ 0 → m < 2 ^ n → 1 ≤ (subN m n).length := by
    intro m n hm hmn
    by_cases hx : ∃ p, hasN m p = true
    · obtain ⟨p, hp⟩ := hx
      have : p ∈ subN m n := subN_iff.2 ⟨has_lt hmn hp, hp⟩
      exact List.length_pos_of_mem this
    · exact absurd (set_ext fun p => by
        rw [has_zero]
        cases e : hasN m p with
        | false => rfl
        | true => exact absurd ⟨p, e⟩ hx) hm
  have hG := good_of hb
  have l1 := subN_len S x.planks.length
  have l2 := subN_len s x.parts.length
  have e1 : (onlyB x S s).planks.length = (subN S x.planks.length).length := by unfold onlyB; rw [List.length_map]
  have e2 : (onlyB x S s).parts.length = (subN s x.parts.length).length := by unfold onlyB; rw [List.length_map]
  have n1 := hne hS hS2
  have n2 := hne hs hs2
  unfold bookOk at hb
  simp only [Bool.and_eq_true, allB_iff] at hb
  refine bookOk_good (by omega) (by have := hG.planks; omega) (by omega) (by have := hG.parts; omega) ?_ ?_
  · rw [allB_iff]
    intro i hi
    rw [e1] at hi
    show woodOk (gw ((subN S x.planks.length).map (gw x.planks)) i) = true
    rw [gw_map hi]
    exact hb.1.2 _ (subN_mem (List.getElem_mem hi)).1
  · rw [allB_iff]
    intro i hi
    rw [e2] at hi
    show shapeOk (gs ((subN s x.parts.length).map (gs x.parts)) i) = true
    rw [gs_map hi]
    exact hb.2 _ (subN_mem (List.getElem_mem hi)).1
theorem spot_only {i j : Nat} {t : Int} (hi : i < (subN S x.planks.length).length) (hj : j < (subN s x.parts.length).length) : Spot (onlyB x S s) i j t ↔ Spot x (subN S x.planks.length)[i] (subN s x.parts.length)[j] t := by
  unfold Spot
  show (0 ≤ t ∧ t ≤ (gw ((subN S x.planks.length).map (gw x.planks)) i).long - (gs ((subN s x.parts.length).map (gs x.parts)) j).long ∧ ansOf (gw ((subN S x.planks.length).map (gw x.planks)) i) (gs ((subN s x.parts.length).map (gs x.parts)) j) t.toNat = 2) ↔ _
  rw [gw_map hi, gs_map hj]
theorem plen_only {j : Nat} (hj : j < (subN s x.parts.length).length) : plen (onlyB x S s) j = plen x (subN s x.parts.length)[j] := by
  unfold plen
  show (gs ((subN s x.parts.length).map (gs x.parts)) j).long = _
  rw [gs_map hj]
theorem only_pack (hs2 : s < 2 ^ x.parts.length) : AllP (onlyB x S s) ↔ Pack x (fun i => hasN S i = true) (fun p => hasN s p = true) := by
  have e1 : (onlyB x S s).planks.length = (subN S x.planks.length).length := by unfold onlyB; rw [List.length_map]
  have e2 : (onlyB x S s).parts.length = (subN s x.parts.length).length := by unfold onlyB; rw [List.length_map]
  constructor
  · rintro ⟨g, a, h1, h2⟩
    have hidx : ∀ p, hasN s p = true → ∃ j, ∃ hj : j < (subN s x.parts.length).length, (subN s x.parts.length)[j] = p := fun p hp => idx_of (subN_iff.2 ⟨has_lt hs2 hp, hp⟩)
    have hix : ∀ p, hasN s p = true → ∃ hj : (subN s x.parts.length).idxOf p < (subN s x.parts.length).length, (subN s x.parts.length)[(subN s x.parts.length).idxOf p] = p := fun p hp => by
      have hm : p ∈ subN s x.parts.length := subN_iff.2 ⟨has_lt hs2 hp, hp⟩
      have hl := List.idxOf_lt_length_iff.2 hm
      exact ⟨hl, List.getElem_idxOf hl⟩
    refine ⟨fun p => (subN S x.planks.length).getD (g ((subN s x.parts.length).idxOf p)) 0, fun p => a ((subN s x.parts.length).idxOf p), fun p hp => ?_, fun p q hp hq hpq e => ?_⟩
    · obtain ⟨hj, ej⟩ := hix p hp
      obtain ⟨c1, _, c3⟩ := h1 _ (by rw [e2]; exact hj)
      rw [e1] at c1
      rw [spot_only c1 hj, ej] at c3
      have hm := subN_mem (List.getElem_mem c1)
      have hg : (subN S x.planks.length).getD (g ((subN s x.parts.length).idxOf p)) 0 = (subN S x.planks.length)[g ((subN s x.parts.length).idxOf p)] := by
        rw [List.getD_eq_getElem?_getD, List.getElem?_eq_getElem c1]; rfl
      show (subN S x.planks.length).getD (g ((subN s x.parts.length).idxOf p)) 0 < _ ∧ hasN S ((subN S x.planks.length).getD (g ((subN s x.parts.length).idxOf p)) 0) = true ∧ Spot x ((subN S x.planks.length).getD (g ((subN s x.parts.length).idxOf p)) 0) p _
      rw [hg]
      exact ⟨hm.1, hm.2, c3⟩
    · obtain ⟨hj, ej⟩ := hix p hp
      obtain ⟨hk, ek⟩ := hix q hq
      obtain ⟨c1, _, _⟩ := h1 _ (by rw [e2]; exact hj)
      obtain ⟨d1, _, _⟩ := h1 _ (by rw [e2]; exact hk)
      rw [e1] at c1 d1
      have hgp : (subN S x.planks.length).getD (g ((subN s x.parts.length).idxOf p)) 0 = (subN S x.planks.length)[g ((subN s x.parts.length).idxOf p)] := by
        rw [List.getD_eq_getElem?_getD, List.getElem?_eq_getElem c1]; rfl
      have hgq : (subN S x.planks.length).getD (g ((subN s x.parts.length).idxOf q)) 0 = (subN S x.planks.length)[g ((subN s x.parts.length).idxOf q)] := by
        rw [List.getD_eq_getElem?_getD, List.getElem?_eq_getElem d1]; rfl
      simp only at e
      rw [hgp, hgq] at e
      have eg := nodup_inj (subN_nodup _ _) c1 d1 e
      have hne : (subN s x.parts.length).idxOf p ≠ (subN s x.parts.length).idxOf q := fun h => hpq (by
        have : (subN s x.parts.length)[(subN s x.parts.length).idxOf p] = (subN s x.parts.length)[(subN s x.parts.length).idxOf q] := by simp only [h]
        rw [ej, ek] at this
        exact this)
      have h3 := h2 _ _ (by rw [e2]; exact hj) (by rw [e2]; exact hk) hne eg
      unfold Apart at h3 ⊢
      rw [plen_only hj, plen_only hk, ej, ek] at h3
      exact h3
  · rintro ⟨g, a, h1, h2⟩
    have hp : ∀ j (hj : j < (subN s x.parts.length).length), hasN s (subN s x.parts.length)[j] = true := fun j hj => (subN_mem (List.getElem_mem hj)).2
    have hgd : ∀ j (hj : j < (subN s x.parts.length).length), (subN s x.parts.length).getD j 0 = (subN s x.parts.length)[j] := fun j hj => by
      rw [List.getD_eq_getElem?_getD, List.getElem?_eq_getElem hj]; rfl
    refine ⟨fun j => (subN S x.planks.length).idxOf (g ((subN s x.parts.length).getD j 0)), fun j => a ((subN s x.parts.length).getD j 0), fun j hj => ?_, fun j k hj hk hjk e => ?_⟩
    · rw [e2] at hj
      obtain ⟨c1, c2, c3⟩ := h1 _ (hp j hj)
      have hm : g (subN s x.parts.length)[j] ∈ subN S x.planks.length := subN_iff.2 ⟨c1, c2⟩
      have hl := List.idxOf_lt_length_iff.2 hm
      show (subN S x.planks.length).idxOf (g ((subN s x.parts.length).getD j 0)) < _ ∧ True ∧ Spot _ ((subN S x.planks.length).idxOf (g ((subN s x.parts.length).getD j 0))) j (a ((subN s x.parts.length).getD j 0))
      rw [hgd j hj]
      refine ⟨by rw [e1]; exact hl, trivial, ?_⟩
      rw [spot_only hl hj, List.getElem_idxOf hl]
      exact c3
    · rw [e2] at hj hk
      obtain ⟨c1, c2, _⟩ := h1 _ (hp j hj)
      obtain ⟨d1, d2, _⟩ := h1 _ (hp k hk)
      have hl := List.idxOf_lt_length_iff.2 (subN_iff.2 ⟨c1, c2⟩ : g (subN s x.parts.length)[j] ∈ subN S x.planks.length)
      have hl2 := List.idxOf_lt_length_iff.2 (subN_iff.2 ⟨d1, d2⟩ : g (subN s x.parts.length)[k] ∈ subN S x.planks.length)
      simp only at e
      rw [hgd j hj, hgd k hk] at e
      have eg : g (subN s x.parts.length)[j] = g (subN s x.parts.length)[k] := by
        have h1 := List.getElem_idxOf hl
        have h2 := List.getElem_idxOf hl2
        rw [← h1, ← h2]
        simp only [e]
      have hne : (subN s x.parts.length)[j] ≠ (subN s x.parts.length)[k] := fun h => hjk (nodup_inj (subN_nodup _ _) hj hk h)
      have h3 := h2 _ _ (hp j hj) (hp k hk) hne eg
      unfold Apart at h3 ⊢
      rw [plen_only hj, plen_only hk]
      simp only
      rw [hgd j hj, hgd k hk]
      exact h3
end
/-- What 'enough' tells. -/
def enoughR (x : Book) (S s : Nat) : Bool × Bool :=
  if s = 0 ∨ S = 0 then (decide (s = 0), true) else (decide ((fewestR (onlyB x S s)).2 = 0), decide ((fewestR (onlyB x S s)).2 = 0) || decide ((fewestR (onlyB x S s)).2 = 4))
theorem enough_is {x : Book} {S s : Nat} (hb : bookOk x = true) (hS : S < 2 ^ x.planks.length) (hs : s < 2 ^ x.parts.length) : (enoughR x S s).2 = true ∧ ((enoughR x S s).1 = true ↔ Pack x (fun i => hasN S i = true) (fun p => hasN s p = true)) := by
  unfold enoughR
  by_cases h : s = 0 ∨ S = 0
  · rw [if_pos h]
    refine ⟨rfl, ?_⟩
    rw [decide_eq_true_eq]
    constructor
    · rintro rfl
      exact Pack.none fun p h => by rw [has_zero] at h; cases h
    · rintro ⟨g, a, h1, _⟩
      rcases h with h | h
      · exact h
      · refine set_ext fun p => ?_
        rw [has_zero]
        cases e : hasN s p with
        | false => rfl
        | true =>
          have := (h1 p e).2.1
          rw [h, has_zero] at this; cases this
  · rw [if_neg h]
    have hok := only_ok hb (fun e => h (.inr e)) hS (fun e => h (.inl e)) hs
    rw [← only_pack hs]
    rcases fewest_is hok with ⟨h1, h2⟩ | ⟨T, _, h1, h2⟩
    · rw [h1]
      exact ⟨rfl, by simp [h2]⟩
    · rw [h1]
      exact ⟨rfl, by simp [h2]⟩
end Go.Proofs.Ytilbkmogmlcpaaa
