/- Walks: slices that are cloned. Walks: a knot is found at an inch. Walks: how many parts at the worst. Walks: Look. Plain mathematics: the chapter's books. -/
import Derived.Test.YtbbolibkheelmaaGa13
namespace Go.Proofs.Ytbbolibkheelmaa
open Go.RowKit Go.Shelf

attribute [local go_sem] Oper.semAt_some
attribute [local go_sem ↓] append_alias

theorem woodInfo : (Try.prog.info? 48).map (fun i => (i.zero, i.size, i.bytes)) = some (some (.agg #[.int .i64 0, .slice none 0 0]), 2, 32) := by kernel_rfl
theorem woodsUnder : Try.prog.underlying 22 = some (.slice 48) := by kernel_rfl
theorem spanInfo : (Try.prog.info? 60).map (fun i => (i.zero, i.size, i.bytes)) = some (some (.agg #[.int .i64 0, .int .i64 0]), 2, 16) := by kernel_rfl
theorem spansUnder : Try.prog.underlying 46 = some (.slice 60) := by kernel_rfl

/-- A slice of pairs of cells, appended to nothing. -/
theorem append_copy {w : World} {e t bytes : Nat} {i : TypeInfo} {z : Value} (ht : Try.prog.underlying t = some (.slice e)) (hi : Try.prog.info? e = some i) (hz : i.zero = some z) (h2 : i.size = 2) (hby : i.bytes = bytes) (hzs : z.cells.size = 2) (hb : bytes ≤ 1000)
    {b o n c x : Nat} (hn : 1 ≤ n) (hn2 : n ≤ 100) (hc : ∀ j, j < n * 2 → (w.cell? ⟨b, o + j, none⟩).isSome = true) :
    ∃ g cc w', (appendS #[t, t] t #[.slice (some ⟨x, 0, none⟩) 0 0, .slice (some ⟨b, o, none⟩) n c]).run Try.prog w = .ok (.slice (some ⟨g, 0, none⟩) n cc) w' ∧ n ≤ cc ∧ w.heap.size ≤ g ∧ g < w'.heap.size ∧
      (∀ j, j < n * 2 → w'.cell? ⟨g, j, none⟩ = w.cell? ⟨b, o + j, none⟩) ∧ (∀ j, w'.frozen? ⟨g, j, none⟩ = false) ∧ SameBut (fun _ => False) w w' := by
  obtain ⟨news, hnews⟩ : ∃ news, news = (List.range (n * 2)).map fun j => (w.cell? ⟨b, o + j, none⟩).getD undef := ⟨_, rfl⟩
  have hl : news.length = n * 2 := by rw [hnews]; simp
  have hget : ∀ j, j < n * 2 → news[j]? = w.cell? ⟨b, o + j, none⟩ := fun j hj => by
    rw [hnews, List.getElem?_map, List.getElem?_range hj]
    have := hc j hj
    cases hx : w.cell? ⟨b, o + j, none⟩ with
    | none => rw [hx] at this; cases this
    | some v => simp [hx]
  have hall : ∀ j u, news[j]? = some u → w.cell? ((⟨b, o, none⟩ : Addr).add j) = some u := fun j u hj => by
    have hjl : j < n * 2 := by have := (List.getElem?_eq_some_iff.1 hj).1; omega
    rw [Addr.add_mid, ← hget j hjl, hj]
  obtain ⟨v', w', hap, hown, hgr⟩ := run_append_arg_grows (P := Try.prog) (w := w) t t e i z 2 bytes ht hi hz h2 hby hzs (by decide) ⟨x, 0, none⟩ 0 0 [] (by simp) (fun j u h => by simp at h) ⟨b, o, none⟩ n c news hl hall (by omega) (by unfold maxLen; omega) (by
    rw [Nat.zero_add]
    exact Nat.le_trans (Nat.mul_le_mul hn2 hb) (by decide))
  rw [Nat.zero_add, List.nil_append] at hown
  rcases hown.2 with ⟨_, h0⟩ | ⟨g, cap, cur, rfl, hbase, hgb, hle, hmx, hcs, htk⟩
  · omega
  · have hbl : Blk w' g cur := ⟨_, hgb⟩
    refine ⟨g, cap, w', hap, hle, hbase, hbl.lt, fun j hj => ?_, fun j => hbl.frozen, (same_grown hgr (fun k h => h)).mono (fun k h => by cases h)⟩
    rw [hbl.cell, ← hget j hj, ← htk, List.getElem?_take, if_pos hj, Array.getElem?_toList]

theorem wood_nil (x : Addr) (n c : Nat) (w : World) : (binOp .eql 22 (.slice (some x) n c) (.slice none 0 0)).run Try.prog w = .ok (.bool false) w := by kernel_rfl
theorem span_nil (x : Addr) (n c : Nat) (w : World) : (binOp .eql 46 (.slice (some x) n c) (.slice none 0 0)).run Try.prog w = .ok (.bool false) w := by kernel_rfl

set_option maxRecDepth 100000 in
set_option maxHeartbeats 1000000 in
theorem cloneW_any {w : World} {b o n c : Nat} (hn : 1 ≤ n) (hn2 : n ≤ 100) (hc : ∀ j, j < n * 2 → (w.cell? ⟨b, o + j, none⟩).isSome = true) :
    Calls Try.prog 124 #[.slice (some ⟨b, o, none⟩) n c] w fun e w' => ∃ g cc, e = .returned (.slice (some ⟨g, 0, none⟩) n cc) ∧ n ≤ cc ∧ w.heap.size ≤ g ∧ g < w'.heap.size ∧
      (∀ j, j < n * 2 → w'.cell? ⟨g, j, none⟩ = w.cell? ⟨b, o + j, none⟩) ∧ (∀ j, w'.frozen? ⟨g, j, none⟩ = false) ∧ Below w.heap.size w w' := by
  obtain ⟨i0, hi, hz0, hz1, hz2⟩ := info_parts woodInfo
  obtain ⟨V1, hV1⟩ : ∃ V, V = w.alloc (.cells #[] 48) := ⟨_, rfl⟩
  obtain ⟨_, s1, z1⟩ := alloc_step hV1
  have hc1 : ∀ j, j < n * 2 → V1.cell? ⟨b, o + j, none⟩ = w.cell? ⟨b, o + j, none⟩ := fun j hj => by
    have := hc j hj
    exact s1.cell (by
      unfold World.cell? at this
      cases hx : w.heap[b]? with
      | none => simp only [hx] at this; cases this
      | some v => exact (Array.getElem?_eq_some_iff.1 hx).1) (fun e => e)
  obtain ⟨g, cc, w2, hap, h1, h2, h3, h4, h5, h6⟩ := append_copy (w := V1) (x := w.heap.size) (c := c) woodsUnder hi hz0 hz1 hz2 rfl (by decide) hn hn2 (fun j hj => by rw [hc1 j hj]; exact hc j hj)
  have hres := Lib.hid (And.intro h4 (And.intro h5 (s1.trans h6)))
  have hg : w.heap.size ≤ g := by omega
  clear h4 h5 h6 s1 h2
  subst hV1
  have hnil := wood_nil
  go_enter Try.func124, Try.ntmps124
  go_wp2_with (fail)
  go_ret
  exact ⟨g, cc, rfl, h1, hg, h3, fun j hj => (hres.out.1 j hj).trans (hc1 j hj), hres.out.2.1, hres.out.2.2.toBelow (Nat.le_refl _) (fun _ h => h.elim)⟩

set_option maxRecDepth 100000 in
set_option maxHeartbeats 1000000 in
theorem cloneS_any {w : World} {b o n c : Nat} (hn : 1 ≤ n) (hn2 : n ≤ 100) (hc : ∀ j, j < n * 2 → (w.cell? ⟨b, o + j, none⟩).isSome = true) :
    Calls Try.prog 125 #[.slice (some ⟨b, o, none⟩) n c] w fun e w' => ∃ g cc, e = .returned (.slice (some ⟨g, 0, none⟩) n cc) ∧ n ≤ cc ∧ w.heap.size ≤ g ∧ g < w'.heap.size ∧
      (∀ j, j < n * 2 → w'.cell? ⟨g, j, none⟩ = w.cell? ⟨b, o + j, none⟩) ∧ (∀ j, w'.frozen? ⟨g, j, none⟩ = false) ∧ Below w.heap.size w w' := by
  obtain ⟨i0, hi, hz0, hz1, hz2⟩ := info_parts spanInfo
  obtain ⟨V1, hV1⟩ : ∃ V, V = w.alloc (.cells #[] 60) := ⟨_, rfl⟩
  obtain ⟨_, s1, z1⟩ := alloc_step hV1
  have hc1 : ∀ j, j < n * 2 → V1.cell? ⟨b, o + j, none⟩ = w.cell? ⟨b, o + j, none⟩ := fun j hj => by
    have := hc j hj
    exact s1.cell (by
      unfold World.cell? at this
      cases hx : w.heap[b]? with
      | none => simp only [hx] at this; cases this
      | some v => exact (Array.getElem?_eq_some_iff.1 hx).1) (fun e => e)
  obtain ⟨g, cc, w2, hap, h1, h2, h3, h4, h5, h6⟩ := append_copy (w := V1) (x := w.heap.size) (c := c) spansUnder hi hz0 hz1 hz2 rfl (by decide) hn hn2 (fun j hj => by rw [hc1 j hj]; exact hc j hj)
  have hres := Lib.hid (And.intro h4 (And.intro h5 (s1.trans h6)))
  have hg : w.heap.size ≤ g := by omega
  clear h4 h5 h6 s1 h2
  subst hV1
  have hnil := span_nil
  go_enter Try.func125, Try.ntmps125
  go_wp2_with (fail)
  go_ret
  exact ⟨g, cc, rfl, h1, hg, h3, fun j hj => (hres.out.1 j hj).trans (hc1 j hj), hres.out.2.1, hres.out.2.2.toBelow (Nat.le_refl _) (fun _ h => h.elim)⟩
end Go.Proofs.Ytbbolibkheelmaa
namespace Go.Proofs.Ytbbolibkheelmaa
open Go.RowKit Go.Shelf

attribute [local go_sem] Oper.semAt_some

/-- A book in which a knot's inch is known. -/
def lookedB (x : Book) (p k : Nat) (t : Int) : Book := ⟨x.planks.set p ⟨(gw x.planks p).long, (gw x.planks p).knots.set k (t, t)⟩, x.parts⟩
theorem looked_other {x : Book} {p k i : Nat} {t : Int} (h : i ≠ p) : gw (lookedB x p k t).planks i = gw x.planks i := by
  unfold lookedB gw
  simp [Ne.symm h]
theorem looked_same {x : Book} {p k : Nat} {t : Int} (h : p < x.planks.length) : gw (lookedB x p k t).planks p = ⟨(gw x.planks p).long, (gw x.planks p).knots.set k (t, t)⟩ := by
  unfold lookedB gw
  simp [h]
theorem gp_set_other {l : List (Int × Int)} {k i : Nat} {t : Int} (h : i ≠ k) : gp (l.set k (t, t)) i = gp l i := by
  unfold gp; simp [Ne.symm h]
theorem gp_set_same {l : List (Int × Int)} {k : Nat} {t : Int} (h : k < l.length) : gp (l.set k (t, t)) k = (t, t) := by
  unfold gp; simp [h]
theorem looked_ok {x : Book} {p k : Nat} {t : Int} (hok : bookOk x = true) (hp : p < x.planks.length) (hk : k < (gw x.planks p).knots.length) (h1 : (gp (gw x.planks p).knots k).1 ≤ t) (h2 : t ≤ (gp (gw x.planks p).knots k).2) : bookOk (lookedB x p k t) = true := by
  unfold bookOk at hok ⊢
  simp only [Bool.and_eq_true, decide_eq_true_eq, allB_iff] at hok ⊢
  have hl : (lookedB x p k t).planks.length = x.planks.length := by unfold lookedB; simp
  rw [hl]
  refine ⟨⟨hok.1.1, fun i hi => ?_⟩, hok.2⟩
  by_cases e : i = p
  · subst e
    rw [looked_same hi]
    have h := hok.1.2 i hi
    unfold woodOk at h ⊢
    simp only [Bool.and_eq_true, decide_eq_true_eq, allB_iff, List.length_set] at h ⊢
    refine ⟨h.1, fun j hj => ?_⟩
    by_cases e2 : j = k
    · subst e2
      rw [gp_set_same hj]
      have h3 := h.2 j hj
      unfold spanOk withinB at h3 ⊢
      simp only [Bool.and_eq_true, decide_eq_true_eq, Bool.not_eq_true', decide_eq_false_iff_not] at h3 ⊢
      omega
    · rw [gp_set_other e2]; exact h.2 j hj
  · rw [looked_other e]; exact hok.1.2 i hi

theorem cell_set {w : World} {b i : Nat} (v : Value) (j : Nat) (h : (w.cell? ⟨b, i, none⟩).isSome = true) : (w.setCell ⟨b, i, none⟩ v).cell? ⟨b, j, none⟩ = if j = i then some v else w.cell? ⟨b, j, none⟩ := by
  by_cases e : j = i
  · subst e; rw [if_pos rfl]; exact World.cell?_setCell_same' w _ v h
  · rw [if_neg e]; exact World.cell?_setCell_other w _ _ v (fun h => e (by cases h; rfl))
theorem SameBut.froz {M : Nat → Prop} {W W' : World} (h : SameBut M W W') {b o : Nat} (hb : b < W.heap.size) (hm : ¬ M b) : W'.frozen? ⟨b, o, none⟩ = W.frozen? ⟨b, o, none⟩ := by
  unfold World.frozen?
  simp only [h.block b hb hm]
theorem pair_put (a b v : Value) (Z : Array Value) : (#[a, b] ++ Z).setIfInBounds 0 v = #[v, b] ++ Z := by
  apply Array.ext_getElem?
  intro i
  rw [Array.getElem?_setIfInBounds]
  by_cases h : i < 2
  · rw [Array.getElem?_append_left (by simpa using h), Array.getElem?_append_left (by simpa using h)]
    rcases (by omega : i = 0 ∨ i = 1) with rfl | rfl <;> simp
  · rw [if_neg (by omega), Array.getElem?_append_right (by simp; omega), Array.getElem?_append_right (by simp; omega)]
    simp
theorem stock_put0 (pa : Option Addr) (pn pc : Nat) (sa : Option Addr) (sn sc : Nat) (f : Nat → Nat → Bool) (qa : Option Addr) (qn qc : Nat) :
    (stockRow pa pn pc sa sn sc f).setIfInBounds 0 (.slice qa qn qc) = stockRow qa qn qc sa sn sc f := by
  unfold stockRow
  exact pair_put _ _ _ _

set_option maxRecDepth 100000 in
set_option maxHeartbeats 2000000 in
theorem looked_any {B : Nat} {pa sa : Option Addr} {pn pc sn sc p k : Nat} {f : Nat → Nat → Bool} {x : Book} {t : Int} {w : World} (hB : B ≤ w.heap.size) (hx : BookAt B w pa pn sa sn x) (hok : bookOk x = true) (hp : p < pn)
    (hk : k < (gw x.planks p).knots.length) (h1 : (gp (gw x.planks p).knots k).1 ≤ t) (h2 : t ≤ (gp (gw x.planks p).knots k).2) :
    Calls Try.prog 113 #[.agg (stockRow pa pn pc sa sn sc f), .int .i64 p, .int .i64 k, .int .i64 t] w fun e w' =>
      ∃ qa qc, e = .returned (.agg (stockRow qa pn qc sa sn sc (updF f p (cutsM (lookedB x p k t) p)))) ∧ Below w.heap.size w w' := by
  have hpn := hx.planks.len
  have hG := good_of hok
  have hpn3 : pn ≤ 3 := by have := hG.planks; omega
  have hok2 := looked_ok hok (by omega) hk h1 h2
  have hkn := (hG.knot p (by omega) k hk)
  have hI : I64 t := by unfold I64; unfold Knot at hkn; omega
  have hkl : (gw x.planks p).knots.length ≤ 3 := (hG.wood p (by omega)).2.2
  obtain ⟨pb, po, rfl, hpB, hpc⟩ := hx.planks.get p hp
  obtain ⟨kv, hkv, kc0, kc1, kI⟩ := hpc p hp
  obtain ⟨ka, kn, kc, rfl, hks⟩ := hkv
  have hkn2 := hks.len
  obtain ⟨kb, ko, rfl, hkB, hkc⟩ := hks.get k (by omega)
  obtain ⟨m, hm⟩ : ∃ m, m = cutsM (lookedB x p k t) p := ⟨_, rfl⟩
  rw [← hm]
  have hm' := Lib.hid hm
  clear hm
  obtain ⟨S, hS⟩ : ∃ S, S = stockRow (some ⟨pb, po, none⟩) pn pc sa sn sc f := ⟨_, rfl⟩
  obtain ⟨V1, hV1⟩ : ∃ V, V = w.alloc (.cells S 112) := ⟨_, rfl⟩
  obtain ⟨b1, s1, z1⟩ := alloc_step hV1
  obtain ⟨V2, hV2⟩ : ∃ V, V = V1.alloc (.cells (stockRow none 0 0 none 0 0 (fun _ _ => false)) 112) := ⟨_, rfl⟩
  obtain ⟨b2, s2, z2⟩ := alloc_step hV2
  rw [zeroSt0] at hV2
  rw [z1] at b2
  have s02 := s1.trans s2
  have b12 := b1.same s2 (fun e => e)
  rw [hS] at b12
  have q0 : V2.cell? ⟨w.heap.size, 0, none⟩ = some (.slice (some ⟨pb, po, none⟩) pn pc) := b12.cell.trans stock_head.1
  have hsome : ∀ j, j < pn * 2 → (w.cell? ⟨pb, po + j, none⟩).isSome = true := fun j hj => by
    obtain ⟨v, hv, g0, g1, _⟩ := hpc (j / 2) (by omega)
    rcases (by omega : j = j / 2 * 2 ∨ j = j / 2 * 2 + 1) with e | e
    · rw [e, g0]; rfl
    · rw [e, show po + (j / 2 * 2 + 1) = po + j / 2 * 2 + 1 by omega, g1]; rfl
  have hcl := cloneW_any (w := V2) (b := pb) (o := po) (n := pn) (c := pc) (by omega) (by omega) (fun j hj => by rw [s02.cell (by omega) (fun e => e)]; exact hsome j hj)
  rw [← hS]
  have hS' := Lib.hid hS
  have s02' := Lib.hid s02
  have b12' := Lib.hid (And.intro b12 b2)
  clear hS b12 b1 b2 s1 s2 s02
  subst hV1
  have hz2 : V2.heap.size = w.heap.size + 2 := by rw [z2, z1]
  have hz2' := Lib.hid hz2
  clear z1 z2
  have e2 := hV2.symm
  clear hV2
  have hO := open_wide
  go_enter Try.func113, Try.ntmps113
  go_wp2_with (fail)
  refine hcl.mono ?_
  rintro e w3 ⟨g, gc, rfl, hgc, hg1, hg2, hgcell, hgfr, hb3⟩
  have hz := hz2'.out
  have hsz3 := hb3.size
  obtain ⟨b1, b2⟩ := b12'.out
  have b13 := b1.below hb3 (by omega)
  have b23 := b2.below hb3 (by omega)
  have m0 : w3.cell? ⟨w.heap.size, 0, none⟩ = some (.slice (some ⟨pb, po, none⟩) pn pc) := b13.cell.trans stock_head.1
  have f0 : w3.frozen? ⟨w.heap.size, 0, none⟩ = false := b13.frozen
  obtain ⟨W4, e4⟩ : ∃ W, w3.setCell ⟨w.heap.size, 0, none⟩ (.slice (some ⟨g, 0, none⟩) pn gc) = W := ⟨_, rfl⟩
  have b14 : Blk W4 w.heap.size (stockRow (some ⟨g, 0, none⟩) pn gc sa sn sc f) := by
    rw [← e4]
    have := b13.setAt (i := 0) (.slice (some ⟨g, 0, none⟩) pn gc)
    rw [stock_put0] at this
    exact this
  have s34 : SameBut (fun i => i = w.heap.size) w3 W4 := by rw [← e4]; exact SameBut.setCell (M := fun i => i = w.heap.size) (SameBut.refl _ w3) (.inl rfl) _
  have n0 : W4.cell? ⟨w.heap.size, 0, none⟩ = some (.slice (some ⟨g, 0, none⟩) pn gc) := b14.cell.trans stock_head.1
  have hpcast : (p : Int) < pn := by omega
  have hgp : W4.cell? ⟨g, p * 2 + 1, none⟩ = some (.slice (some ⟨kb, ko, none⟩) kn kc) := by
    rw [s34.cell hg2 (by omega), hgcell _ (by omega), s02'.out.cell (by omega) (fun e => e), ← kc1]; congr 2
  clear q0 e2 hcl
  go_wp2_with (fail)
  have s04 : SameBut (fun _ => False) w W4 := (s02'.out.trans (SameBut.of_below hb3 (Nat.le_refl _))).shift s34 (fun i h => .inr (by omega))
  have hsz4 := s04.size
  have hz4 : w3.heap.size ≤ W4.heap.size := s34.size
  have hkcell : ∀ i, i < kn → W4.cell? ⟨kb, ko + i * 2, none⟩ = some (.int .i64 (gp (gw x.planks p).knots i).1) ∧ W4.cell? ⟨kb, ko + i * 2 + 1, none⟩ = some (.int .i64 (gp (gw x.planks p).knots i).2) := fun i hi => by
    obtain ⟨y1, y2, _⟩ := hkc i hi
    exact ⟨(s04.cell (by omega) (fun e => e)).trans y1, (s04.cell (by omega) (fun e => e)).trans y2⟩
  have hksome : ∀ j, j < kn * 2 → (W4.cell? ⟨kb, ko + j, none⟩).isSome = true := fun j hj => by
    obtain ⟨y1, y2⟩ := hkcell (j / 2) (by omega)
    rcases (by omega : j = j / 2 * 2 ∨ j = j / 2 * 2 + 1) with e | e
    · rw [e, y1]; rfl
    · rw [e, show ko + (j / 2 * 2 + 1) = ko + j / 2 * 2 + 1 by omega, y2]; rfl
  refine (cloneS_any (w := W4) (b := kb) (o := ko) (n := kn) (c := kc) (by omega) (by omega) hksome).mono ?_
  rintro e w5 ⟨h, hc, rfl, hhc, hh1, hh2, hhcell, hhfr, hb5⟩
  have s45 : SameBut (fun _ => False) W4 w5 := SameBut.of_below hb5 (Nat.le_refl _)
  have hsz5 := s45.size
  have hhc2 : ∀ i, i < kn → w5.cell? ⟨h, i * 2, none⟩ = some (.int .i64 (gp (gw x.planks p).knots i).1) ∧ w5.cell? ⟨h, i * 2 + 1, none⟩ = some (.int .i64 (gp (gw x.planks p).knots i).2) := fun i hi => by
    obtain ⟨y1, y2⟩ := hkcell i hi
    exact ⟨(hhcell _ (by omega)).trans y1, (hhcell _ (by omega)).trans y2⟩
  have hkkn : k < kn := by omega
  obtain ⟨y1, y2⟩ := hhc2 k hkkn
  have y3 : w5.frozen? ⟨h, k * 2, none⟩ = false := hhfr _
  have y4 : w5.frozen? ⟨h, k * 2 + 1, none⟩ = false := hhfr _
  obtain ⟨W6, e6⟩ : ∃ W, (w5.setCell ⟨h, k * 2, none⟩ (.int .i64 t)).setCell ⟨h, k * 2 + 1, none⟩ (.int .i64 t) = W := ⟨_, rfl⟩
  have s56 : SameBut (fun i => i = h) w5 W6 := by rw [← e6]; exact SameBut.setCell (M := fun i => i = h) (SameBut.setCell (M := fun i => i = h) (SameBut.refl _ w5) (.inl rfl) _) (.inl rfl) _
  have hh6 : ∀ i, i < kn → W6.cell? ⟨h, i * 2, none⟩ = some (.int .i64 (gp ((gw x.planks p).knots.set k (t, t)) i).1) ∧ W6.cell? ⟨h, i * 2 + 1, none⟩ = some (.int .i64 (gp ((gw x.planks p).knots.set k (t, t)) i).2) := fun i hi => by
    obtain ⟨x1, x2⟩ := hhc2 i hi
    have q1 : ∀ j, W6.cell? ⟨h, j, none⟩ = if j = k * 2 + 1 then some (.int .i64 t) else if j = k * 2 then some (.int .i64 t) else w5.cell? ⟨h, j, none⟩ := fun j => by
      rw [← e6, cell_set _ _ (by rw [cell_set _ _ (by rw [y1]; rfl), if_neg (by omega), y2]; rfl), cell_set _ _ (by rw [y1]; rfl)]
    rw [q1, q1]
    by_cases e : i = k
    · subst e
      rw [gp_set_same (by omega), if_neg (by omega), if_pos rfl, if_pos rfl]
      exact ⟨rfl, rfl⟩
    · rw [gp_set_other e, if_neg (by omega), if_neg (by omega), if_neg (by omega), if_neg (by omega)]
      exact ⟨x1, x2⟩
  have b15 := b14.same s45 (fun e => e)
  have b16 := b15.same s56 (by omega)
  have n6 : W6.cell? ⟨w.heap.size, 0, none⟩ = some (.slice (some ⟨g, 0, none⟩) pn gc) := b16.cell.trans stock_head.1
  have g6 : ∀ j, W6.cell? ⟨g, j, none⟩ = w3.cell? ⟨g, j, none⟩ := fun j => ((s56.cell (by omega) (by omega)).trans (s45.cell (by omega) (fun e => e))).trans (s34.cell hg2 (by omega))
  have gp6 : W6.cell? ⟨g, p * 2 + 1, none⟩ = some (.slice (some ⟨kb, ko, none⟩) kn kc) := by rw [g6, ← s34.cell hg2 (by omega)]; exact hgp
  have gf6 : W6.frozen? ⟨g, p * 2 + 1, none⟩ = false := by
    rw [s56.froz (by omega) (by omega), s45.froz (by omega) (fun e => e), s34.froz hg2 (by omega)]; exact hgfr _
  obtain ⟨W7, e7⟩ : ∃ W, W6.setCell ⟨g, p * 2 + 1, none⟩ (.slice (some ⟨h, 0, none⟩) kn hc) = W := ⟨_, rfl⟩
  have s67 : SameBut (fun i => i = g) W6 W7 := by rw [← e7]; exact SameBut.setCell (M := fun i => i = g) (SameBut.refl _ W6) (.inl rfl) _
  have hsz6 := s56.size
  have hsz7 := s67.size
  have b17 := b16.same s67 (by omega)
  have r0 : W7.cell? ⟨w.heap.size, 0, none⟩ = some (.slice (some ⟨g, 0, none⟩) pn gc) := b17.cell.trans stock_head.1
  have r1 : W7.cell? ⟨w.heap.size, 1, none⟩ = some (.slice sa sn sc) := b17.cell.trans stock_head.2
  have s07 : SameBut (fun _ => False) w W7 := ((s04.trans s45).shift s56 (fun i h => .inr (by omega))).shift s67 (fun i h => .inr (by omega))
  have hold : ∀ b o, b < B → W7.cell? ⟨b, o, none⟩ = w.cell? ⟨b, o, none⟩ := fun b o hb => s07.cell (by omega) (fun e => e)
  have g7 : ∀ j, W7.cell? ⟨g, j, none⟩ = if j = p * 2 + 1 then some (.slice (some ⟨h, 0, none⟩) kn hc) else w3.cell? ⟨g, j, none⟩ := fun j => by
    rw [← e7, cell_set _ _ (by rw [gp6]; rfl), g6]
  have gw3 : ∀ j, j < pn * 2 → w3.cell? ⟨g, j, none⟩ = w.cell? ⟨pb, po + j, none⟩ := fun j hj => by rw [hgcell j hj, s02'.out.cell (by omega) (fun e => e)]
  have hbook : BookAt W7.heap.size W7 (some ⟨g, 0, none⟩) pn sa sn (lookedB x p k t) := by
    refine ⟨⟨?_, by omega, fun i hi => ⟨g, 0, rfl, by omega, fun i hi => ?_⟩⟩, hx.parts.keep (by omega) hold⟩
    · unfold lookedB; simp [hpn]
    · obtain ⟨v, hv, g0, g1, gI⟩ := hpc i hi
      rw [Nat.zero_add]
      by_cases e : i = p
      · subst e
        rw [looked_same (by omega)]
        refine ⟨_, ⟨some ⟨h, 0, none⟩, kn, hc, rfl, ?_⟩, ?_, ?_, gI⟩
        · refine ⟨by simp [hkn2], by omega, fun j hj => ⟨h, 0, rfl, by omega, fun j hj => ?_⟩⟩
          rw [Nat.zero_add]
          obtain ⟨x1, x2⟩ := hh6 j hj
          obtain ⟨_, _, i1, i2⟩ := hkc j hj
          refine ⟨(s67.cell (by omega) (by omega)).trans x1, (s67.cell (by omega) (by omega)).trans x2, ?_⟩
          by_cases e2 : j = k
          · subst e2; rw [gp_set_same (by omega)]; exact ⟨hI, hI⟩
          · rw [gp_set_other e2]; exact ⟨i1, i2⟩
        · rw [g7, if_neg (by omega), gw3 _ (by omega)]; exact g0
        · rw [g7, if_pos rfl]
      · rw [looked_other e]
        refine ⟨v, hv.keep (by omega) hold, ?_, ?_, gI⟩
        · rw [g7, if_neg (by omega), gw3 _ (by omega)]; exact g0
        · rw [g7, if_neg (by omega), gw3 _ (by omega)]; exact g1
  have b27 : Blk W7 (w.heap.size + 1) (stockRow none 0 0 none 0 0 (fun _ _ => false)) := (((b23.same s34 (by omega)).same s45 (fun e => e)).same s56 (by omega)).same s67 (by omega)
  have hcut := cutsOf_any (B := W7.heap.size) (pc := gc) (sc := sc) (p := p) (w := W7) (Nat.le_refl _) hbook hok2 hp
  rw [← hm'.out] at hcut
  have hfin := Lib.hid (And.intro b17 (And.intro b27 s07))
  clear hbook gw3 g7 hold b27 b17 s07 s67 b16 b15 b14 b13 b23 b1 b2 g6 hh6 hhc2 hksome hkcell s56 s45 s04 s34 hgcell hhcell hgfr hhfr m0 f0 e4 n0 hgp hpc hkc hx hks
  go_wp2_with (fail)
  refine hcut.mono ?_
  rintro e w8 ⟨rfl, hb8⟩
  obtain ⟨b17, b27, s07⟩ := hfin.out
  have s78 : SameBut (fun _ => False) W7 w8 := SameBut.of_below hb8 (Nat.le_refl _)
  have s08 := s07.trans s78
  have hp3 : (p : Int) < 3 := by omega
  obtain ⟨w9, hst, b19, s89⟩ := stock_part_store (b17.same s78 (fun e => e)) (k := p) (by omega) m
  have b29 := (b27.same s78 (fun e => e)).same s89 (by omega)
  have hld := stock_load b19
  obtain ⟨w10, hst2, b20, s910, _⟩ := stock_store (pa := some ⟨g, 0, none⟩) (pn := pn) (pc := gc) (sa := sa) (sn := sn) (sc := sc) (f := updF f p m) b29 stock_size
  have s09 := s08.shift s89 (fun i h => .inr (by omega))
  have s010 := s09.shift s910 (fun i h => .inr (by omega))
  obtain ⟨S9, hS9⟩ : ∃ S9, S9 = stockRow (some ⟨g, 0, none⟩) pn gc sa sn sc (updF f p m) := ⟨_, rfl⟩
  rw [← hS9] at hld hst2
  have hS9' := Lib.hid hS9
  have hfin2 := Lib.hid (And.intro b20 s010)
  clear hS9 hfin b17 b27 s07 s78 s08 b19 s89 b29 b20 s910 s09 s010 hcut
  go_wp2_with (fail)
  refine bodyPost_ret (v := .agg S9) ?_ rfl ⟨some ⟨g, 0, none⟩, gc, by rw [hS9'.out], hfin2.out.2.toBelow (Nat.le_refl _) (fun _ h => h.elim)⟩
  rw [hS9'.out]
  exact results_stock rfl _ rfl hfin2.out.1
end Go.Proofs.Ytbbolibkheelmaa
namespace Go.Proofs.Ytbbolibkheelmaa
open Go.RowKit Go.Shelf

attribute [local go_sem] Oper.semAt_some

/-- How many parts can be cut once a knot is found at an inch. -/
def foundN (x : Book) (f : Nat → Nat → Bool) (p k : Nat) (t : Int) : Int := mostN (stockCut (updF f p (cutsM (lookedB x p k t) p)) (2 ^ x.planks.length - 1) x.planks.length)
def worstU (x : Book) (f : Nat → Nat → Bool) (p k : Nat) : Nat → Int
  | 0 => x.parts.length
  | j + 1 => min (worstU x f p k j) (foundN x f p k ((gp (gw x.planks p).knots k).1 + j))
def worstN (x : Book) (f : Nat → Nat → Bool) (p k : Nat) : Int := worstU x f p k ((gp (gw x.planks p).knots k).2 - (gp (gw x.planks p).knots k).1 + 1).toNat

set_option maxRecDepth 100000 in
set_option maxHeartbeats 2000000 in
theorem worst_any {B : Nat} {pa sa : Option Addr} {pn pc sn sc p k : Nat} {f : Nat → Nat → Bool} {x : Book} {w : World} (hB : B ≤ w.heap.size) (hx : BookAt B w pa pn sa sn x) (hok : bookOk x = true) (hp : p < pn)
    (hk : k < (gw x.planks p).knots.length) :
    Calls Try.prog 88 #[.agg (stockRow pa pn pc sa sn sc f), .int .i64 p, .int .i64 k] w fun e w' => e = .returned (.int .i64 (worstN x f p k)) ∧ Below w.heap.size w w' := by
  have hpn := hx.planks.len
  have hsn := hx.parts.len
  have hG := good_of hok
  have hpn3 : pn ≤ 3 := by have := hG.planks; omega
  have hwd := hG.wood p (by omega)
  have hkn := hG.knot p (by omega) k hk
  obtain ⟨pb, po, rfl, hpB, hpc⟩ := hx.planks.get p hp
  obtain ⟨kv, hkv, kc0, kc1, kI⟩ := hpc p hp
  clear hpc
  obtain ⟨ka, kn, kc, rfl, hks⟩ := hkv
  have hkn2 := hks.len
  obtain ⟨kb, ko, rfl, hkB, hkc⟩ := hks.get k (by omega)
  obtain ⟨c0, c1, i0, i1⟩ := hkc k (by omega)
  clear hkc hks
  obtain ⟨S, hS⟩ : ∃ S, S = stockRow (some ⟨pb, po, none⟩) pn pc sa sn sc f := ⟨_, rfl⟩
  obtain ⟨lo, hlo⟩ : ∃ lo, lo = (gp (gw x.planks p).knots k).1 := ⟨_, rfl⟩
  obtain ⟨hi, hhi⟩ : ∃ hi, hi = (gp (gw x.planks p).knots k).2 := ⟨_, rfl⟩
  have hlohi : lo ≤ hi ∧ 0 ≤ lo ∧ hi ≤ 16 := by rw [hlo, hhi]; unfold Knot at hkn; exact ⟨hkn.2.1, hkn.1, by omega⟩
  rw [← hlo] at c0
  rw [← hhi] at c1
  obtain ⟨V1, hV1⟩ : ∃ V, V = w.alloc (.cells S 112) := ⟨_, rfl⟩
  obtain ⟨b1, s1, z1⟩ := alloc_step hV1
  have e1 := hV1.symm
  rw [hS] at b1
  have q0 : V1.cell? ⟨w.heap.size, 0, none⟩ = some (.slice (some ⟨pb, po, none⟩) pn pc) := b1.cell.trans stock_head.1
  have q1 : V1.cell? ⟨w.heap.size, 1, none⟩ = some (.slice sa sn sc) := b1.cell.trans stock_head.2
  have q2 : V1.cell? ⟨pb, po + p * 2 + 1, none⟩ = some (.slice (some ⟨kb, ko, none⟩) kn kc) := (s1.cell (by omega) (fun e => e)).trans kc1
  have q3 : V1.cell? ⟨kb, ko + k * 2, none⟩ = some (.int .i64 lo) := (s1.cell (by omega) (fun e => e)).trans c0
  have q4 : V1.cell? ⟨kb, ko + k * 2 + 1, none⟩ = some (.int .i64 hi) := (s1.cell (by omega) (fun e => e)).trans c1
  obtain ⟨V2, hV2⟩ : ∃ V, V = V1.alloc (.cells #[.int .i64 lo, .int .i64 hi] 60) := ⟨_, rfl⟩
  obtain ⟨b2, s2, z2⟩ := alloc_step hV2
  have e2 := hV2.symm
  have b12 := b1.same s2 (fun e => e)
  have s02 := s1.trans s2
  rw [z1] at b2
  have q5 : V2.cell? ⟨w.heap.size + 1, 0, none⟩ = some (.int .i64 lo) := b2.cell
  have hz2 : V2.heap.size = w.heap.size + 2 := by rw [z2, z1]
  have hz2' := Lib.hid hz2
  clear hz2
  rw [← hS]
  obtain ⟨R, hR⟩ : ∃ R, R = worstN x f p k := ⟨_, rfl⟩
  rw [← hR]
  have hR' := Lib.hid hR
  have hS' := Lib.hid hS
  have hall := Lib.hid (And.intro b12 (And.intro b2 (And.intro s02 (And.intro hlo (And.intro hhi hx)))))
  have hpi : (p : Int) < pn := by omega
  have hki : (k : Int) < kn := by omega
  clear hR hS b12 b2 s02 b1 s1 s2 hV1 hV2 hlo hhi hx kc0 kc1 c0 c1 z2
  go_enter Try.func88, Try.ntmps88
  go_wp2_with (fail)
  clear q0 q1 q2 q3 q4 q5 e1 e2
  obtain ⟨N, hN⟩ : ∃ N : Nat, (N : Int) = hi - lo + 1 := ⟨(hi - lo + 1).toNat, by omega⟩
  go_loopw [7, 9] (fun v i wr => ∃ j : Nat, j ≤ N ∧ i = .int .i64 (lo + j) ∧ v = .int .i64 (worstU x f p k j) ∧ SameBut (fun _ => False) V2 wr) (fun _ i _ => (hi + 1 - intOf i).toNat)
  case atStart => exact ⟨0, by omega, by simp, by unfold worstU; rw [hsn], SameBut.refl _ _⟩
  case round =>
    obtain ⟨j, hj, rfl, rfl, hsb⟩ := hrel
    obtain ⟨b12, b2, s02, hlo, hhi, hx⟩ := hall.out
    have hz2 := hz2'.out
    have hszr := hsb.size
    have b2r := b2.same hsb (fun e => e)
    have q6 : wr.cell? ⟨w.heap.size + 1, 1, none⟩ = some (.int .i64 hi) := b2r.cell
    have s0r := s02.trans hsb
    by_cases hlt : j < N
    · have hld := stock_load (b12.same hsb (fun e => e))
      rw [← hS'.out] at hld
      have hxr := hx.keep (Nat.le_refl B) (fun b o hb => s0r.cell (b := b) (o := o) (by omega) (fun e => e))
      have hlook := looked_any (B := B) (pc := pc) (sc := sc) (f := f) (t := lo + j) (w := wr) (by omega) hxr hok hp hk (by rw [← hlo]; omega) (by rw [← hhi]; omega)
      rw [← hS'.out] at hlook
      obtain ⟨W, hW⟩ : ∃ W, W = worstU x f p k j := ⟨_, rfl⟩
      rw [← hW]
      have hstep : worstU x f p k (j + 1) = min W (foundN x f p k (lo + j)) := by rw [hW, hlo]; rfl
      have hle : lo + (j : Int) ≤ hi := by omega
      have hs0r := Lib.hid hsb
      clear hW hlo hhi b12 b2 s02 b2r s0r hsb hx hxr
      have hstep' := Lib.hid hstep
      clear hstep
      go_wp2_with (fail)
      refine hlook.mono ?_
      rintro e w4 ⟨qa, qc, rfl, hb4⟩
      obtain ⟨S2, hS2⟩ : ∃ S2, S2 = stockRow qa pn qc sa sn sc (updF f p (cutsM (lookedB x p k (lo + j)) p)) := ⟨_, rfl⟩
      have hcuts := allCuts_any (pa := qa) (pc := qc) (sa := sa) (sn := sn) (sc := sc) (f := updF f p (cutsM (lookedB x p k (lo + j)) p)) (w := w4) hpn3
      rw [← hS2] at hcuts ⊢
      obtain ⟨C, hC⟩ : ∃ C, C = stockCut (updF f p (cutsM (lookedB x p k (lo + j)) p)) (2 ^ pn - 1) pn := ⟨_, rfl⟩
      rw [← hC] at hcuts
      have hfd : foundN x f p k (lo + j) = mostN C := by unfold foundN; rw [hpn, hC]
      rw [hfd] at hstep'
      clear hS2 hC hfd hlook
      obtain ⟨m, hm⟩ : ∃ m, m = mostN C := ⟨_, rfl⟩
      have hmost := fun w => most_any (m := C) (w := w)
      rw [← hm] at hmost hstep'
      clear hm
      go_wp2_with (first | (go_at_call 77; refine hcuts.mono ?_; rintro e w5 ⟨rfl, hb5⟩) | (go_at_call 114; refine (hmost _).mono ?_; rintro e w6 ⟨rfl, hb6⟩))
      go_roundw
      case rel =>
        refine ⟨j + 1, by omega, ?_, ?_, ((hs0r.out.trans (SameBut.of_below hb4 (Nat.le_refl _))).trans (SameBut.of_below hb5 (Nat.le_refl _))).trans (SameBut.of_below hb6 (Nat.le_refl _))⟩
        · rw [show lo + (j : Int) + 1 = lo + ((j + 1 : Nat) : Int) by omega]
        · rw [hstep'.out]
          congr 1
          rw [Int.min_def]
          split <;> split <;> omega
      case measure => simp [intOf]; omega
    · obtain rfl : j = N := by omega
      have hgt : hi < lo + (j : Int) := by omega
      clear hlo hhi hx
      go_wp2_with (fail)
      go_ret
      refine ⟨?_, (s02.trans hsb).toBelow (Nat.le_refl _) (fun _ h => h.elim)⟩
      rw [hR'.out]
      unfold worstN
      rw [← hall.out.2.2.2.1, ← hall.out.2.2.2.2.1, ← hN]
      simp only [Int.toNat_natCast]
      rfl
end Go.Proofs.Ytbbolibkheelmaa
namespace Go.Proofs.Ytbbolibkheelmaa
open Go.RowKit Go.Shelf

attribute [local go_sem] Oper.semAt_some

def lookIn (x : Book) (f : Nat → Nat → Bool) (i : Nat) (st : Option (List Int × Int)) : Nat → Option (List Int × Int)
  | 0 => st
  | j + 1 => offerL moreB (lookIn x f i st j) [(i : Int), (j : Int)] (worstN x f i j)
def lookOut (x : Book) (f : Nat → Nat → Bool) : Nat → Option (List Int × Int)
  | 0 => none
  | i + 1 => lookIn x f i (lookOut x f i) (gw x.planks i).knots.length
def lookO : Option (List Int × Int) → Int × Int × Int
  | none => (0, 0, 4)
  | some (xs, _) => (gi xs 0, gi xs 1, 0)
def lookR (x : Book) : Int × Int × Int := if bookOk x = true then lookO (lookOut x (stockF x) x.planks.length) else (0, 0, 10)

def TwoL (st : Option (List Int × Int)) : Prop := ∀ xs c, st = some (xs, c) → xs.length = 2
theorem two_offer {st : Option (List Int × Int)} (h : TwoL st) (a b c : Int) : TwoL (offerL moreB st [a, b] c) := by
  intro xs cx e
  cases st with
  | none => cases e; rfl
  | some p =>
    obtain ⟨ys, cy⟩ := p
    have e' : (if moreB [a, b] c ys cy then some ([a, b], c) else some (ys, cy)) = some (xs, cx) := e
    split at e'
    · cases e'; rfl
    · cases e'; exact h _ _ rfl
theorem two_in {x : Book} {f : Nat → Nat → Bool} {i : Nat} {st : Option (List Int × Int)} (h : TwoL st) : ∀ j, TwoL (lookIn x f i st j)
  | 0 => h
  | j + 1 => two_offer (two_in h j) _ _ _
theorem two_out {x : Book} {f : Nat → Nat → Bool} : ∀ i, TwoL (lookOut x f i)
  | 0 => fun xs c e => by cases e
  | i + 1 => two_in (two_out i) _

set_option maxRecDepth 100000 in
set_option maxHeartbeats 4000000 in
theorem Look_any {B : Nat} {pa sa : Option Addr} {pn pc sn sc : Nat} {x : Book} {w : World} (hB : B ≤ w.heap.size) (hx : BookAt B w pa pn sa sn x) :
    Calls Try.prog 32 #[.agg #[.slice pa pn pc, .slice sa sn sc]] w fun e w' => e = .returned (.tuple #[.int .i64 (lookR x).1, .int .i64 (lookR x).2.1, .int .i64 (lookR x).2.2]) ∧ Below w.heap.size w w' := by
  have hpn := hx.planks.len
  have hsn := hx.parts.len
  obtain ⟨V1, hV1⟩ : ∃ V, V = w.alloc (.cells #[.slice pa pn pc, .slice sa sn sc] 25) := ⟨_, rfl⟩
  obtain ⟨b1, s1, z1⟩ := alloc_step hV1
  have hx1 := hx.keep (Nat.le_refl _) (fun b o hb => s1.cell (b := b) (o := o) (by omega) (fun e => e))
  have hchk := Check_any (pc := pc) (sc := sc) (w := V1) (by omega) hx1
  have h' := Lib.hid (And.intro b1 (And.intro (s1.toBelow (B := w.heap.size) (Nat.le_refl _) (fun _ h => h.elim)) (And.intro hx1 z1)))
  clear b1 s1 hx1 z1 hx
  rcases Bool.eq_false_or_eq_true (bookOk x) with hb | hb
  case inr =>
    rw [hb, show errOf false = 10 from rfl] at hchk
    have hR : lookR x = (0, 0, 10) := by unfold lookR; rw [if_neg (by rw [hb]; simp)]
    rw [hR]
    clear hR hb
    subst hV1
    go_enter Try.func32, Try.ntmps32
    go_wp2_with (go_at_call 18; refine hchk.mono ?_; rintro e w2 ⟨rfl, hb2⟩)
    refine bodyPost_ret (results_tmp3 rfl _ _ _) rfl ?_
    exact ⟨rfl, h'.out.2.1.trans (hb2.mono h'.out.2.1.size)⟩
  case inl =>
    rw [hb, show errOf true = 0 from rfl] at hchk
    obtain ⟨f, hf⟩ : ∃ f, f = stockF x := ⟨_, rfl⟩
    have hR : lookR x = lookO (lookOut x f pn) := by unfold lookR; rw [if_pos hb, hpn, hf]
    obtain ⟨R, hRR⟩ : ∃ R, R = lookR x := ⟨_, rfl⟩
    rw [← hRR]
    rw [hR] at hRR
    have hR' := Lib.hid hRR
    have hok := Lib.hid hb
    have hpn3 : pn ≤ 3 := by have := (good_of hb).planks; omega
    have hf' := Lib.hid hf
    clear hR hRR hb hf
    subst hV1
    go_enter Try.func32, Try.ntmps32
    go_wp2_with (first | (go_at_call 18; refine hchk.mono ?_; rintro e w2 ⟨rfl, hb2⟩; have bk2 := h'.out.1.below hb2 (by rw [h'.out.2.2.2]; omega); have q0 : w2.cell? ⟨w.heap.size, 0, none⟩ = some (.slice pa pn pc) := bk2.cell; have q1 : w2.cell? ⟨w.heap.size, 1, none⟩ = some (.slice sa sn sc) := bk2.cell; have hx2 := Lib.hid (h'.out.2.2.1.keep (Nat.le_refl _) (fun b o hb => bcells hb2 b o (by rw [h'.out.2.2.2]; omega))); have hbw := h'.out.2.1.trans (hb2.mono h'.out.2.1.size); have hsz2 := hb2.size; rw [h'.out.2.2.2] at hsz2; have l0 : w.heap.size < w2.heap.size := (by omega); clear hb2))
    refine (newStock_any (B := B) (by omega) hx2.out hok.out).mono ?_
    rintro e w3 ⟨rfl, hb3⟩
    rw [← hf'.out]
    have hsz3 := hb3.size
    have bk3 := bk2.below hb3 l0
    obtain ⟨V4, hst, c4, s4, z4⟩ := stock_new w3 pa pn pc sa sn sc f
    have e0 : V4.cell? ⟨w.heap.size, 0, none⟩ = some (.slice pa pn pc) := (bk3.same s4 (fun e => e)).cell
    have m0 : w.heap.size < V4.heap.size := by omega
    have m1 : w.heap.size < w3.heap.size + 1 := by omega
    have m2 : w.heap.size < w3.heap.size + 1 + 1 := by omega
    clear q0 q1
    obtain ⟨S, hS⟩ : ∃ S, S = stockRow pa pn pc sa sn sc f := ⟨_, rfl⟩
    rw [← hS] at hst c4 ⊢
    have hS' := Lib.hid hS
    clear hS
    go_wp2_with (fail)
    obtain ⟨V5, hV5⟩ : ∃ V, V = V4.alloc (.cells #[.func (.func 75) #[] #[], .slice none 0 0, .int .i64 0, .bool false] 107) := ⟨_, rfl⟩
    have hC5 : ChAt V5 (w3.heap.size + 1) 75 none := by rw [hV5, ← z4]; exact Blk.new V4 _ _
    have s5 : SameBut (fun _ => False) V4 V5 := by rw [hV5]; exact (SameBut.refl _ V4).alloc _
    have z5 : V5.heap.size = w3.heap.size + 2 := by rw [hV5, World.size_alloc]; omega
    rw [← hV5]
    have c5 := c4.same s5 (fun e => e)
    have bk5 := (bk3.same s4 (fun e => e)).same s5 (fun e => e)
    have s25 : SameBut (fun _ => False) w2 V5 := ((SameBut.of_below hb3 (Nat.le_refl _)).trans s4).trans s5
    have hb5 : Below w.heap.size w V5 := hbw.trans (s25.toBelow (by omega) (fun _ h => h.elim))
    have hx5 := Lib.hid (hx2.out.keep (Nat.le_refl B) (fun b o hb => s25.cell (b := b) (o := o) (by omega) (fun e => e)))
    have z5' := Lib.hid z5
    clear hV5 hst e0 s4 s5 m0 m1 m2 z4 z5 bk3 bk2 c4 hb3 hchk hx2 hbw s25
    go_loopw [21] (fun i wr => ∃ k : Nat, k ≤ pn ∧ i = .int .i64 k ∧ ChAt wr (w3.heap.size + 1) 75 (lookOut x f k) ∧ SameBut (fun i => i = w3.heap.size + 1) V5 wr) (fun i _ => (pn - intOf i).toNat)
    case atStart => exact ⟨0, by omega, rfl, hC5, SameBut.refl _ _⟩
    case round =>
      obtain ⟨i, hi, rfl, hCh, hsb⟩ := hrel
      clear hC5
      have hz5 := z5'.out
      have hszr := hsb.size
      have bkk := bk5.same hsb (by omega)
      by_cases hlt : i < pn
      · obtain ⟨pb, po, rfl, hpB, hpc⟩ := hx5.out.planks.get i hlt
        obtain ⟨kv, hkv, kc0, kc1, kI⟩ := hpc i hlt
        obtain ⟨ka, kn, kc, rfl, hks⟩ := hkv
        have hkn := hks.len
        have hkn3 : kn ≤ 3 := by have := ((good_of hok.out).wood i (by omega)).2.2; omega
        have r0 : wr.cell? ⟨w.heap.size, 0, none⟩ = some (.slice (some ⟨pb, po, none⟩) pn pc) := bkk.cell
        have r1 : wr.cell? ⟨pb, po + i * 2 + 1, none⟩ = some (.slice ka kn kc) := (hsb.cell (by omega) (by omega)).trans kc1
        have hipn : (i : Int) < pn := by omega
        clear hpc kc0 kc1 kI hks
        go_wp2_with (fail)
        obtain ⟨wo, hwo⟩ : ∃ wo : World, wo = wr := ⟨_, rfl⟩
        rw [← hwo] at hsb hszr bkk r0 r1 hCh ⊢
        clear hwo
        clear r0 r1 bkk
        go_loopw [31] (fun v wr => ∃ j : Nat, j ≤ kn ∧ v = .int .i64 j ∧ ChAt wr (w3.heap.size + 1) 75 (lookIn x f i (lookOut x f i) j) ∧ SameBut (fun i => i = w3.heap.size + 1) V5 wr) (fun v _ => (kn - intOf v).toNat)
        case atStart => exact ⟨0, by omega, rfl, hCh, hsb⟩
        case round =>
          obtain ⟨j, hj, rfl, hCh2, hsb2⟩ := hrel
          clear hCh hsb hszr
          have hszr := hsb2.size
          by_cases hjl : j < kn
          · obtain ⟨W6, e6⟩ : ∃ W, wr.alloc (.cells #[.int .i64 i, .int .i64 j] 3) = W := ⟨_, rfl⟩
            obtain ⟨b6, s6, z6⟩ := alloc_step e6.symm
            have c6 := (c5.same hsb2 (by omega)).same s6 (fun e => e)
            have sb6 : SameBut (fun i => i = w3.heap.size + 1) V5 W6 := hsb2.trans (s6.mono (fun _ h => h.elim))
            rw [hS'.out] at c6
            have hld := stock_load c6
            rw [← hS'.out] at hld
            have hworst := worst_any (B := B) (pc := pc) (sc := sc) (f := f) (p := i) (k := j) (w := W6) (by omega) (hx5.out.keep (Nat.le_refl B) (fun b o hb => sb6.cell (b := b) (o := o) (by omega) (by omega))) hok.out hlt (by omega)
            obtain ⟨T, hT⟩ : ∃ T, T = worstN x f i j := ⟨_, rfl⟩
            rw [← hS'.out, ← hT] at hworst
            have hT' := Lib.hid hT
            have hCh6 := hCh2.same s6 (fun i => .inl (fun e => e))
            have hints : IntsOff (w3.heap.size + 1) W6 (some ⟨wr.heap.size, 0, none⟩) 2 [(i : Int), (j : Int)] := by
              refine ⟨⟨rfl, by omega, fun q hq => ⟨wr.heap.size, 0, rfl, by omega, fun q hq => ?_⟩⟩, fun b hb => by cases hb; show wr.heap.size ≠ w3.heap.size + 1; omega⟩
              rcases (by omega : q = 0 ∨ q = 1) with rfl | rfl
              · exact ⟨b6.cell, by unfold I64 gi; simp; omega⟩
              · exact ⟨b6.cell, by unfold I64 gi; simp; omega⟩
            have hall := Lib.hid (And.intro hints (And.intro hCh6 sb6))
            clear hT c6 b6 s6 hints hCh6 sb6
            go_wp2_with (fail)
            refine hworst.mono ?_
            rintro e w7 ⟨rfl, hb7⟩
            obtain ⟨hints, hCh6, sb6⟩ := hall.out
            have s67 : SameBut (fun _ => False) W6 w7 := SameBut.of_below hb7 (Nat.le_refl _)
            have hoff := offer_any (cy := T) more_ok (hCh6.same s67 (fun i => .inl (fun e => e))) (hints.keep s67 (fun _ h => h.elim)) (Nat.le_refl 2)
            have hall2 := Lib.hid (sb6.trans (s67.mono (fun _ h => h.elim)))
            clear hints hCh6 sb6 hall s67 hld hworst hb7 e6
            go_wp2_with (go_at_call 78; refine hoff.mono ?_; rintro e w8 ⟨rfl, hC8, hs8⟩)
            go_roundw
            case rel =>
              refine ⟨j + 1, by omega, rfl, ?_, hall2.out.trans hs8⟩
              show ChAt w8 _ _ (offerL moreB (lookIn x f i (lookOut x f i) j) [(i : Int), (j : Int)] (worstN x f i j))
              rw [← hT'.out]
              exact hC8
            case measure => simp [intOf]; omega
          · obtain rfl : j = kn := by omega
            go_wp2_with (fail)
            go_roundw
            case rel =>
              refine ⟨i + 1, by omega, rfl, ?_, hsb2⟩
              show ChAt wr _ _ (lookIn x f i (lookOut x f i) (gw x.planks i).knots.length)
              rw [hkn]; exact hCh2
            case measure => simp [intOf]; omega
      · obtain rfl : i = pn := by omega
        have hbwr : Below w.heap.size w wr := hb5.trans ((hsb.mono (fun i (h : i = w3.heap.size + 1) => (by show w.heap.size ≤ i; omega))).toBelow (by omega) (fun _ h => h))
        have hb5' := Lib.hid hbwr
        have htwo := two_out (x := x) (f := f) i
        clear hbwr bkk
        obtain ⟨st, hst⟩ : ∃ st, st = lookOut x f i := ⟨_, rfl⟩
        rw [← hst] at hCh hR' htwo
        clear hst
        cases st with
        | none =>
          have m3 : wr.cell? ⟨w3.heap.size + 1, 3, none⟩ = some (.bool false) := Blk.cell hCh
          go_wp2_with (fail)
          refine bodyPost_ret (results_tmp3 rfl _ _ _) rfl ?_
          rw [hR'.out]
          exact ⟨rfl, hb5'.out⟩
        | some p =>
          obtain ⟨xs, cx⟩ := p
          obtain ⟨a, n, c, hnc, hk, hi⟩ := hCh
          have hn2 : n = 2 := by rw [← hi.1.len]; exact htwo xs cx rfl
          subst hn2
          obtain ⟨gb, go, rfl, hgB, hgc⟩ := hi.1.get 0 (by omega)
          have g0 := (hgc 0 (by omega)).1
          have g1 := (hgc 1 (by omega)).1
          have m1 : wr.cell? ⟨w3.heap.size + 1, 1, none⟩ = some (.slice (some ⟨gb, go, none⟩) 2 c) := hk.cell
          have m3 : wr.cell? ⟨w3.heap.size + 1, 3, none⟩ = some (.bool true) := hk.cell
          clear hgc hk
          go_wp2_with (fail)
          have hO := open_wide
          have hF := hO.fn
          have hd := hO.depth
          have hS0 : SameBut (fun _ => False) wr wr.drew := (SameBut.refl _ _).drew
          have hgc1 : wr.cell? ⟨gb, go + 1, none⟩ = some (.int .i64 (gi xs 1)) := g1
          have hgc0 : wr.cell? ⟨gb, go, none⟩ = some (.int .i64 (gi xs 0)) := g0
          have hread : ∀ w', SameBut (fun _ => False) wr w' → w'.cell? ⟨w3.heap.size + 1, 1, none⟩ = some (.slice (some ⟨gb, go, none⟩) 2 c) ∧ w'.cell? ⟨gb, go, none⟩ = some (.int .i64 (gi xs 0)) ∧ w'.cell? ⟨gb, go + 1, none⟩ = some (.int .i64 (gi xs 1)) := fun w' h =>
            ⟨(h.cell (by omega) (fun e => e)).trans m1, (h.cell hgB (fun e => e)).trans hgc0, (h.cell hgB (fun e => e)).trans hgc1⟩
          clear g0 g1 m1 m3 hgc0 hgc1
          refine region_planW (fun w' => SameBut (fun _ => False) wr w') [(0, true), (1, true), (2, true), (3, true), (4, true), (5, true), (6, true), (7, true), (8, true), (9, true), (10, true), (11, true), (12, true)] (by kernel_rfl) (by kernel_rfl) (by kernel_rfl) (by decide) (by kernel_rfl) ?_
          iterate 13
            (refine plan_take ?_ rfl hS0 (by rfl) ?_ ?_
             rotate_left
             · intro w' hw'
               obtain ⟨q1, q2, q3⟩ := hread w' hw'
               go_simp
               with_reducible rfl
             simp only [Act.put, List.setIfInBounds_toArray, List.set_cons_zero, List.set_cons_succ])
          unfold planW okN
          go_wp2_with (fail)
          refine bodyPost_ret (results_tmp3 rfl _ _ _) rfl ?_
          rw [hR'.out]
          exact ⟨rfl, below_drewN hb5'.out 1⟩
end Go.Proofs.Ytbbolibkheelmaa
namespace Go.Proofs.Ytbbolibkheelmaa
open Go.RowKit Go.Shelf

def ownB : Book := ⟨[⟨12, [(3, 4)]⟩, ⟨8, [(6, 6)]⟩], [⟨5, [0, 4], false⟩, ⟨4, [1], true⟩, ⟨4, [0], true⟩]⟩
def aloneB : Book := ⟨[⟨8, [(6, 6)]⟩], [⟨5, [0, 4], false⟩, ⟨4, [1], true⟩, ⟨4, [0], true⟩]⟩
def hiddenB : Book := ⟨[⟨9, [(2, 6)]⟩], [⟨5, [0, 4], false⟩, ⟨4, [0, 3], false⟩]⟩
theorem own_can : canR ownB 0 0 4 = (1, 0) := by kernel_rfl
theorem own_spots : spotsL ownB 0 0 = [1, 2, 5, 6, 7] ∧ askE ownB 0 [0] = 0 := ⟨by kernel_rfl, by kernel_rfl⟩
theorem own_lay : layR ownB 0 [0, 1] = ([1, 6], 0) := by kernel_rfl
theorem alone_most : mostR aloneB = ([1, 2], 0) := by kernel_rfl
end Go.Proofs.Ytbbolibkheelmaa
