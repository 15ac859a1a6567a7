/- Walks: PlankKnows. -/
import Derived.Test.YtilbkmogmlcpaaaPtn06
import Derived.Test.YtilbkmogmlcpaaaPtn08
import Derived.Test.YtilbkmogmlcpaaaPtn09
import Derived.Deep.DeepCutAuto
import Derived.Deep.CutBlock
namespace Go.Proofs.Ytilbkmogmlcpaaa
open Go.RowKit Go.Shelf

/-- Some elements behind an empty slice of one's own. -/
theorem grow_lit {w : World} {m a c b o e sl size bytes : Nat} {z : Value} {news : List Value} (hinfo : (Try.prog.info? e).map (fun i => (i.zero, i.size, i.bytes)) = some (some z, size, bytes)) (hu : Try.prog.underlying sl = some (.slice e))
    (hz : z.cells.size = size) (h0 : 0 < size) (hby : bytes ≤ 1000) (ha : w.heap[a]? = some (.cells #[] e (0, 0))) (hl : news.length = m * size) (hc : ∀ j u, news[j]? = some u → w.cell? ⟨b, o + j, none⟩ = some u) (h1 : ∀ u ∈ news, u.oneCell' = true) (hm : 0 < m) (hn : m ≤ 1000) :
    ∃ (g c' : Nat) (cur : Array Value) (w' : World), (appendS #[sl, sl] sl #[.slice (some ⟨a, 0, none⟩) 0 0, .slice (some ⟨b, o, none⟩) m c]).run Try.prog w = .ok (.slice (some ⟨g, 0, none⟩) m c') w' ∧
      (g = a ∨ g = w.heap.size) ∧ g < w'.heap.size ∧ Blk w' g cur ∧ (∀ (k : Nat) (u : Value), news[k]? = some u → cur[k]? = some u) ∧ SameBut (fun k => k = a) w w' := by
  obtain ⟨i0, hi, hz0, hz1, hz2⟩ := info_parts hinfo
  have hal := (Array.getElem?_eq_some_iff.1 ha).1
  have hown : w.ownsRow a e size (.slice (some ⟨a, 0, none⟩) 0 0) 0 [] := ⟨by simp, .inr ⟨a, 0, #[], rfl, Nat.le_refl _, ha, Nat.le_refl _, by unfold maxLen; omega, by simp, by simp⟩⟩
  obtain ⟨v', w7, hap, hown7, hgr7, _, hat⟩ := run_append_own_at (P := Try.prog) (w := w) a sl sl e i0 z size bytes hu hi hz0 hz1 hz2 hz h0 (.slice (some ⟨a, 0, none⟩) 0 0) _ _ hown ⟨b, o, none⟩ m c news hl
    (fun j u hj => by rw [add_at]; exact hc j u hj)
    h1 (by unfold maxLen; omega) (by have : (0 + m) * bytes ≤ 1000 * 1000 := Nat.mul_le_mul (by omega) hby
                                     omega) (by omega)
  rw [Nat.zero_add, List.nil_append] at hown7
  obtain ⟨g, c', cur, rfl, _, hg2, _, hgk, hcur⟩ := own_blk hown7 hm
  refine ⟨g, c', cur, w7, hap, ?_, hg2, hgk, hcur, same_grown hgr7 (fun k h => by simpa [Value.ownBlock] using h.symm)⟩
  rcases hat with h | h
  · left; simpa [Value.ownBlock] using h
  · right; simpa [Value.ownBlock] using h

theorem three_cases {j : Nat} {P : Nat → Prop} (h : j < 3) (h0 : P 0) (h1 : P 1) (h2 : P 2) : P j := by
  rcases (by omega : j = 0 ∨ j = 1 ∨ j = 2) with rfl | rfl | rfl <;> assumption
/-- Rows that hold what a book's planks, and parts, say. -/
theorem woods_row {B : Nat} {w : World} {y : Book} {g n : Nat} {cur : Array Value} {K : Nat → Value} (hg : Blk w g cur) (hl : y.planks.length = n) (hn : n ≤ 1000) (hB : B ≤ w.heap.size)
    (h : ∀ j, j < n → KnotsV B w (K j) (gw y.planks j) ∧ I64 (gw y.planks j).long ∧ cur[j * 2]? = some (.int .i64 (gw y.planks j).long) ∧ cur[j * 2 + 1]? = some (K j)) : WoodsAt w.heap.size w (some ⟨g, 0, none⟩) n y.planks :=
  ⟨hl, by omega, fun i hi => ⟨g, 0, rfl, hg.lt, fun j hj => by
    obtain ⟨h1, h2, h3, h4⟩ := h j hj
    refine ⟨K j, h1.keep hB (fun _ _ _ => rfl), ?_, ?_, h2⟩
    · rw [Nat.zero_add]; exact hg.cell.trans h3
    · rw [Nat.zero_add]; exact hg.cell.trans h4⟩⟩
theorem shapes_row {B : Nat} {w : World} {y : Book} {g n : Nat} {cur : Array Value} {K : Nat → Value} (hg : Blk w g cur) (hl : y.parts.length = n) (hn : n ≤ 1000) (hB : B ≤ w.heap.size)
    (h : ∀ j, j < n → JointsV B w (K j) (gs y.parts j) ∧ I64 (gs y.parts j).long ∧ cur[j * 3]? = some (.int .i64 (gs y.parts j).long) ∧ cur[j * 3 + 1]? = some (K j) ∧ cur[j * 3 + 2]? = some (.bool (gs y.parts j).turns)) : ShapesAt w.heap.size w (some ⟨g, 0, none⟩) n y.parts :=
  ⟨hl, by omega, fun i hi => ⟨g, 0, rfl, hg.lt, fun j hj => by
    obtain ⟨h1, h2, h3, h4, h5⟩ := h j hj
    refine ⟨K j, h1.keep hB (fun _ _ _ => rfl), ?_, ?_, ?_, h2⟩
    · rw [Nat.zero_add]; exact hg.cell.trans h3
    · rw [Nat.zero_add]; exact hg.cell.trans h4
    · rw [Nat.zero_add]; exact hg.cell.trans h5⟩⟩

section
variable {B B' X : Nat} {w w' : World} {a sa : Option Addr} {n sn : Nat}
theorem IntsAt.but {xs : List Int} (h : IntsAt B w a n xs) (hB : B ≤ B') (hX : ∀ o v, w.cell? ⟨X, o, none⟩ = some (.int .i64 v) → False) (hk : ∀ b o, b < B → b ≠ X → w'.cell? ⟨b, o, none⟩ = w.cell? ⟨b, o, none⟩) : IntsAt B' w' a n xs :=
  ⟨h.len, h.small, fun i hi => let ⟨b, o, e, hb, hc⟩ := h.get i hi
    have hne : b ≠ X := fun e => hX (o + i) _ (e ▸ (hc i hi).1)
    ⟨b, o, e, by omega, fun j hj => ⟨(hk b _ hb hne).trans (hc j hj).1, (hc j hj).2⟩⟩⟩
theorem SpansAt.but {xs : List (Int × Int)} (h : SpansAt B w a n xs) (hB : B ≤ B') (hX : ∀ o v, w.cell? ⟨X, o, none⟩ = some (.int .i64 v) → False) (hk : ∀ b o, b < B → b ≠ X → w'.cell? ⟨b, o, none⟩ = w.cell? ⟨b, o, none⟩) : SpansAt B' w' a n xs :=
  ⟨h.len, h.small, fun i hi => let ⟨b, o, e, hb, hc⟩ := h.get i hi
    have hne : b ≠ X := fun e => hX (o + i * 2) _ (e ▸ (hc i hi).1)
    ⟨b, o, e, by omega, fun j hj => let ⟨h1, h2, h3⟩ := hc j hj; ⟨(hk b _ hb hne).trans h1, (hk b _ hb hne).trans h2, h3⟩⟩⟩
theorem WoodsAt.but {xs : List Wood} (h : WoodsAt B w a n xs) (hB : B ≤ B') (hX : ∀ o v, w.cell? ⟨X, o, none⟩ = some (.int .i64 v) → False) (hk : ∀ b o, b < B → b ≠ X → w'.cell? ⟨b, o, none⟩ = w.cell? ⟨b, o, none⟩) : WoodsAt B' w' a n xs :=
  ⟨h.len, h.small, fun i hi => let ⟨b, o, e, hb, hc⟩ := h.get i hi
    have hne : b ≠ X := fun e => let ⟨_, _, h1, _⟩ := hc i hi; hX (o + i * 2) _ (e ▸ h1)
    ⟨b, o, e, by omega, fun j hj => let ⟨v, ⟨ka, kn, kc, ke, hks⟩, h1, h2, h3⟩ := hc j hj; ⟨v, ⟨ka, kn, kc, ke, hks.but hB hX hk⟩, (hk b _ hb hne).trans h1, (hk b _ hb hne).trans h2, h3⟩⟩⟩
theorem ShapesAt.but {xs : List Shape} (h : ShapesAt B w a n xs) (hB : B ≤ B') (hX : ∀ o v, w.cell? ⟨X, o, none⟩ = some (.int .i64 v) → False) (hk : ∀ b o, b < B → b ≠ X → w'.cell? ⟨b, o, none⟩ = w.cell? ⟨b, o, none⟩) : ShapesAt B' w' a n xs :=
  ⟨h.len, h.small, fun i hi => let ⟨b, o, e, hb, hc⟩ := h.get i hi
    have hne : b ≠ X := fun e => let ⟨_, _, h1, _⟩ := hc i hi; hX (o + i * 3) _ (e ▸ h1)
    ⟨b, o, e, by omega, fun j hj => let ⟨v, ⟨ka, kn, kc, ke, hks⟩, h1, h2, h3, h4⟩ := hc j hj; ⟨v, ⟨ka, kn, kc, ke, hks.but hB hX hk⟩, (hk b _ hb hne).trans h1, (hk b _ hb hne).trans h2, (hk b _ hb hne).trans h3, h4⟩⟩⟩
theorem BookAt.but {b : Book} (h : BookAt B w a n sa sn b) (hB : B ≤ B') (hX : ∀ o v, w.cell? ⟨X, o, none⟩ = some (.int .i64 v) → False) (hk : ∀ b o, b < B → b ≠ X → w'.cell? ⟨b, o, none⟩ = w.cell? ⟨b, o, none⟩) : BookAt B' w' a n sa sn b :=
  ⟨h.planks.but hB hX hk, h.parts.but hB hX hk⟩
end
theorem two_slices {w : World} {X : Nat} {a b : Option Addr} {n c m d : Nat} (h : Blk w X #[.slice a n c, .slice b m d]) : ∀ (o : Nat) (v : Int), w.cell? ⟨X, o, none⟩ = some (.int .i64 v) → False := fun o v e => by
  rw [h.cell] at e
  match o, e with
  | 0, e => simp at e
  | 1, e => simp at e
  | o + 2, e => simp at e

attribute [local go_sem ↓] append_alias

set_option maxRecDepth 100000 in
set_option maxHeartbeats 4000000 in
theorem knows_law {B : Nat} {pa sa : Option Addr} {pn pc sn sc : Nat} {x : Book} {n0 n1 n2 n3 : Int} {w : World} (hB : B ≤ w.heap.size) (hx : BookAt B w pa pn sa sn x) :
    Calls Try.prog 13 #[.agg #[.slice pa pn pc, .slice sa sn sc], .agg #[.int .i64 n0, .int .i64 n1, .int .i64 n2, .int .i64 n3]] w fun e w' => e = .returned (.bool true) ∧ Below w.heap.size w w' := by
  have hpn := Lib.hid hx.planks.len
  have hsn := Lib.hid hx.parts.len
  have hps := hx.planks.small
  have hss := hx.parts.small
  obtain ⟨w0, hw0⟩ : ∃ w0, w0 = (w.alloc (.cells #[.slice pa pn pc, .slice sa sn sc] 25)).alloc (.cells #[.int .i64 n0, .int .i64 n1, .int .i64 n2, .int .i64 n3] 44) := ⟨_, rfl⟩
  have hbw0 : Below w.heap.size w w0 := by rw [hw0]; exact ((Below.refl _ _).alloc (Nat.le_refl _) _).alloc (by simp) _
  have hk : Blk w0 w.heap.size #[.slice pa pn pc, .slice sa sn sc] := by rw [hw0]; exact (Blk.new w _ _).alloc _
  have hn : Blk w0 (w.heap.size + 1) #[.int .i64 n0, .int .i64 n1, .int .i64 n2, .int .i64 n3] := by
    rw [hw0]
    have := Blk.new (w.alloc (.cells #[.slice pa pn pc, .slice sa sn sc] 25)) #[.int .i64 n0, .int .i64 n1, .int .i64 n2, .int .i64 n3] 44
    rw [World.size_alloc] at this
    exact this
  have l0 : w.heap.size + 1 < w0.heap.size := hn.lt
  have hx0 := Lib.hid (hx.keep (w' := w0) (Nat.le_refl _) (fun b o h => bcells hbw0 b o (by omega)))
  have hBw : B ≤ w0.heap.size := by omega
  clear hx
  have q0 : w0.cell? ⟨w.heap.size, 0, none⟩ = some (.slice pa pn pc) := hk.cell
  have q1 : w0.cell? ⟨w.heap.size, 1, none⟩ = some (.slice sa sn sc) := hk.cell
  go_enter Try.func13, Try.ntmps13
  replace hw0 := hw0.symm
  go_wp2_with fail
  clear hw0
  refine (sound_any (B := B) hBw hx0.out).mono ?_
  rintro e w1 ⟨rfl, hb1⟩
  clear q0 q1
  replace hk := hk.below hb1 hk.lt
  replace hn := hn.below hb1 hn.lt
  replace hx0 := Lib.hid (hx0.out.keep (w' := w1) (Nat.le_refl _) (fun b o h => bcells hb1 b o (by omega)))
  replace hBw : B ≤ w1.heap.size := Nat.le_trans hBw hb1.size
  have hbw1 := hbw0.trans (hb1.mono hbw0.size)
  clear hbw0 hb1
  rcases Bool.eq_false_or_eq_true (bookOk x) with hb | hb
  case inr =>
    rw [hb]
    clear hb
    go_wp2_with fail
    refine (sawn_any _).mono ?_
    rintro e w3 ⟨rfl, hb3⟩
    go_wp2_with fail
    go_ret
    exact ⟨rfl, hbw1.trans (hb3.mono hbw1.size)⟩
  rw [hb]
  have hG := Lib.hid (good_of hb)
  have hb' := Lib.hid hb
  have hp1 := hG.out.planks
  have hp2 := hG.out.parts
  rw [hpn.out] at hp1
  rw [hsn.out] at hp2
  obtain ⟨p1, p2⟩ := hp1
  obtain ⟨s1, s2⟩ := hp2
  have r0 := rnd_range (n := n0) (m := pn) (by omega)
  have r1 := rnd_range (n := n1) (m := sn) (by omega)
  obtain ⟨i, hi⟩ : ∃ i : Nat, rnd n0 pn = i := ⟨(rnd n0 pn).toNat, by omega⟩
  obtain ⟨p, hp⟩ : ∃ p : Nat, rnd n1 sn = p := ⟨(rnd n1 sn).toNat, by omega⟩
  have hip : i < pn := by omega
  have hps2 : p < sn := by omega
  clear r0 r1 hb
  have q0 : w1.cell? ⟨w.heap.size, 0, none⟩ = some (.slice pa pn pc) := hk.cell
  have q1 : w1.cell? ⟨w.heap.size, 1, none⟩ = some (.slice sa sn sc) := hk.cell
  have m0 : w1.cell? ⟨w.heap.size + 1, 0, none⟩ = some (.int .i64 n0) := hn.cell
  have m1 : w1.cell? ⟨w.heap.size + 1, 1, none⟩ = some (.int .i64 n1) := hn.cell
  go_upto_region 3 with fail
  go_cut [5, 6] (fun s5 s6 wx => s5 = .int .i64 (i : Int) ∧ s6 = .int .i64 (p : Int) ∧ Below w1.heap.size w1 wx)
  case first =>
    go_quiet ((go_at_call 35; exact Calls.quiet_of_same (Round_same _ (by unfold I64; omega))))
    rw [hi, hp]
    go_wp2_with fail
    go_meet
    exact ⟨rfl, rfl, below_drewN (Below.refl _ _) _⟩
  case rest =>
  obtain ⟨rfl, rfl, hb2⟩ := hcut
  clear q0 q1 m0 m1 hi hp
  obtain ⟨w2, hw2⟩ : ∃ w2, w2 = wc := ⟨_, rfl⟩
  rw [← hw2] at hb2 ⊢
  clear hw2
  replace hk := hk.below hb2 hk.lt
  replace hn := hn.below hb2 hn.lt
  replace hx0 := Lib.hid (hx0.out.keep (w' := w2) (Nat.le_refl _) (fun b o h => bcells hb2 b o (by omega)))
  replace hBw : B ≤ w2.heap.size := Nat.le_trans hBw hb2.size
  have hbw2 := hbw1.trans (hb2.mono hbw1.size)
  clear hbw1 hb2
  have l2 := hn.lt
  have q0 : w2.cell? ⟨w.heap.size, 0, none⟩ = some (.slice pa pn pc) := hk.cell
  have q1 : w2.cell? ⟨w.heap.size, 1, none⟩ = some (.slice sa sn sc) := hk.cell
  go_upto_region 4 with fail
  go_cut [7] (fun s wx => s = .pointer (some ⟨w2.heap.size, 0, none⟩) ∧ Blk wx w2.heap.size #[.slice pa pn pc, .slice sa sn sc] ∧ Below w2.heap.size w2 wx)
  case first =>
    go_wp2_with fail
    go_meet
    exact ⟨rfl, Blk.new w2 _ _, (Below.refl _ _).alloc (Nat.le_refl _) _⟩
  case rest =>
  obtain ⟨rfl, hX, hb3⟩ := hcut
  obtain ⟨w3, hw3⟩ : ∃ w3, w3 = wc := ⟨_, rfl⟩
  rw [← hw3] at hX hb3 ⊢
  clear hw3
  have hk3 := hk.below hb3 hk.lt
  have hn3 := hn.below hb3 hn.lt
  have hx3 := hx0.out.keep (w' := w3) (Nat.le_refl _) (fun b o h => bcells hb3 b o (by omega))
  have hXl := hX.lt
  have hz3 := hb3.size
  clear q0 q1
  obtain ⟨pb, po, kv, rfl, hpB, hkv⟩ := woods_cells hx3.planks (by omega)
  obtain ⟨sb, so, jv, rfl, hsB, hjv⟩ := shapes_cells hx3.parts (by omega)
  have hkv' := Lib.hid hkv
  have hjv' := Lib.hid hjv
  clear hkv hjv hx3
  go_upto_region 5 with fail
  go_cut [7] (fun s wx => s = .pointer (some ⟨w2.heap.size, 0, none⟩) ∧ ∃ (g1 c1 g2 c2 : Nat) (cur1 cur2 : Array Value), g1 ≠ g2 ∧ w3.heap.size ≤ g1 ∧ w3.heap.size ≤ g2 ∧ Blk wx w2.heap.size #[.slice (some ⟨g1, 0, none⟩) pn c1, .slice (some ⟨g2, 0, none⟩) sn c2] ∧ Blk wx g1 cur1 ∧ Blk wx g2 cur2 ∧
    (∀ (j : Nat) (u : Value), ((List.range pn).flatMap (woodC x kv))[j]? = some u → cur1[j]? = some u) ∧ (∀ (j : Nat) (u : Value), ((List.range sn).flatMap (shapeC x jv))[j]? = some u → cur2[j]? = some u) ∧ SameBut (fun b => b = w2.heap.size ∨ w3.heap.size ≤ b) w3 wx)
  case first =>
    have hO := open_wide
    have hF := hO.fn
    have hd := hO.depth
    have hF0 : SameBut (fun b => b = w2.heap.size ∨ w3.heap.size ≤ b) w3 w3.drew := (SameBut.refl _ _).drew
    have hread : ∀ w', SameBut (fun b => b = w2.heap.size ∨ w3.heap.size ≤ b) w3 w' → w'.cell? ⟨w.heap.size, 0, none⟩ = some (.slice (some ⟨pb, po, none⟩) pn pc) ∧ w'.cell? ⟨w.heap.size, 1, none⟩ = some (.slice (some ⟨sb, so, none⟩) sn sc) := fun w' h =>
      ⟨(hk3.same h (by omega)).cell, (hk3.same h (by omega)).cell⟩
    have hX0 := hX.drew
    have hsrc1 : ∀ j, j < pn → ∀ l, l < 2 → w3.drew.cell? ⟨pb, po + (j * 2 + l), none⟩ = (woodC x kv j)[l]? := fun j hj l hl => by
      have hkvj := hkv'.out j hj
      rw [← Nat.add_assoc]
      exact two_cases (P := fun l => w3.cell? ⟨pb, po + j * 2 + l, none⟩ = (woodC x kv j)[l]?) hl hkvj.2.1 hkvj.2.2.1
    have hsrc2 : ∀ j, j < sn → ∀ l, l < 3 → w3.drew.cell? ⟨sb, so + (j * 3 + l), none⟩ = (shapeC x jv j)[l]? := fun j hj l hl => by
      have hjvj := hjv'.out j hj
      rw [← Nat.add_assoc]
      exact three_cases (P := fun l => w3.cell? ⟨sb, so + j * 3 + l, none⟩ = (shapeC x jv j)[l]?) hl hjvj.2.1 hjvj.2.2.1 hjvj.2.2.2.1
    refine region_treeW (fun w' => SameBut (fun b => b = w2.heap.size ∨ w3.heap.size ≤ b) w3 w') (.tk 1 (.tk 2 (.tk 5 (.tk 6 (.fk 0 4 (.fk 3 4 (.tk 8 (.on 4 (.on 7 (.on 9 (.tk 10 (.on 11 .fin)))))) (.on 3 (.tk 8 (.on 7 (.on 9 (.tk 10 (.on 11 .fin))))))) (.on 0 (.on 3 (.tk 8 (.on 7 (.on 9 (.tk 10 (.on 11 .fin)))))))))))) (by kernel_rfl) (by kernel_rfl) (by kernel_rfl) (by decide) (by kernel_rfl) ?_
    obtain ⟨wd, hwd⟩ : ∃ wd, wd = w3.drew := ⟨_, rfl⟩
    rw [← hwd] at hF0 hX0 hsrc1 hsrc2 ⊢
    have hzd := hF0.size
    have lpb : pb < wd.heap.size := by omega
    have lsb : sb < wd.heap.size := by omega
    have lX : w2.heap.size < wd.heap.size := by omega
    have hone1 : ∀ u ∈ (List.range pn).flatMap (woodC x kv), u.oneCell' = true := fun u hu => by
      rw [List.mem_flatMap] at hu
      obtain ⟨j, hj, hu⟩ := hu
      obtain ⟨⟨ja, jn, jc, je, _⟩, _⟩ := hkv'.out j (List.mem_range.1 hj)
      unfold woodC at hu
      rw [je] at hu
      simp at hu
      rcases hu with rfl | rfl <;> rfl
    have hone2 : ∀ u ∈ (List.range sn).flatMap (shapeC x jv), u.oneCell' = true := fun u hu => by
      rw [List.mem_flatMap] at hu
      obtain ⟨j, hj, hu⟩ := hu
      obtain ⟨⟨ja, jn, jc, je, _⟩, _⟩ := hjv'.out j (List.mem_range.1 hj)
      unfold shapeC at hu
      rw [je] at hu
      simp at hu
      rcases hu with rfl | rfl | rfl <;> rfl
    have hF0' : SameBut (fun b => wd.heap.size ≤ b) wd wd := SameBut.refl _ _
    have hall := Lib.hid (And.intro hsrc1 (And.intro hsrc2 (And.intro hone1 hone2)))
    clear hwd hsrc1 hsrc2 hone1 hone2
    iterate 4
      (refine tree_take ?_ rfl hF0 (by rfl) ?_ ?_
       rotate_left
       · intro w' hw'
         obtain ⟨q1, q2⟩ := hread w' hw'
         go_simp
         with_reducible rfl
       simp only [Act.put, List.setIfInBounds_toArray, List.set_cons_zero, List.set_cons_succ])
    refine ⟨?_, ?_⟩
    · -- 0 first
      refine tree_on rfl (by rfl) (fun K hK => ?_)
      go_simp
      refine hK _ _ (hF0.alloc _) ?_
      clear hK K
      obtain ⟨v1, ev1⟩ : ∃ W, W = wd.alloc (.cells #[] 48) := ⟨_, rfl⟩
      have Sv1 := hF0.alloc (.cells #[] 48)
      have Dv1 := hF0'.alloc (.cells #[] 48)
      have ha_v1 : v1.heap[wd.heap.size]? = some (.cells #[] 48 (0, 0)) := by rw [ev1]; exact heap_alloc_new _ _
      have Xv1 := hX0.alloc (.cells #[] 48)
      have lv1 : wd.heap.size < v1.heap.size := by rw [ev1]; simp
      rw [← ev1] at Sv1 Dv1 Xv1 ⊢
      clear ev1
      refine ⟨?_, ?_⟩
      · as_aux_lemma => -- 0 3 4 7
        obtain ⟨g1, cg1, curg1, v2, hapv2, geg1, glg1, gkg1, gcg1, gsg1⟩ := grow_lit (b := pb) (o := po) (m := pn) (c := pc) (news := (List.range pn).flatMap (woodC x kv)) woodInfo woodsUnder rfl (by decide) (by decide) ha_v1 (flat_len (fun _ => rfl)) (flat_cell (m := 2) (fun _ => rfl) (by decide) (fun j hj l hl => (Dv1.cell (by omega) (by omega)).trans (hall.out.1 j hj l hl))) hall.out.2.2.1 (by omega) (by omega)
        have gcg1' := Lib.hid gcg1
        have zv2 := gsg1.size
        have Sv2 := Sv1.trans (gsg1.mono (fun b h => (show b = w2.heap.size ∨ w3.heap.size ≤ b by omega)))
        have Dv2 := Dv1.trans (gsg1.mono (fun b h => (show wd.heap.size ≤ b by omega)))
        have Xv2 := Xv1.same gsg1 (by omega)
        clear gcg1 gsg1
        refine tree_on rfl (by rfl) (fun K hK => ?_)
        go_simp
        refine hK _ _ Sv2 ?_
        clear hK K hapv2
        iterate 1
          (refine tree_take ?_ rfl Sv2 (by rfl) ?_ ?_
           rotate_left
           · intro w' hw'
             go_simp
             with_reducible rfl
           simp only [Act.put, List.setIfInBounds_toArray, List.set_cons_zero, List.set_cons_succ])
        refine tree_one rfl (by rfl) (fun K hK => ?_)
        go_simp
        refine hK _ _ (Sv2.alloc _) ?_
        clear hK K
        obtain ⟨v3, ev3⟩ : ∃ W, W = v2.alloc (.cells #[] 50) := ⟨_, rfl⟩
        have Sv3 := Sv2.alloc (.cells #[] 50)
        have Dv3 := Dv2.alloc (.cells #[] 50)
        have hb_v3 : v3.heap[v2.heap.size]? = some (.cells #[] 50 (0, 0)) := by rw [ev3]; exact heap_alloc_new _ _
        have Xv3 := Xv2.alloc (.cells #[] 50)
        have lv3 : v2.heap.size < v3.heap.size := by rw [ev3]; simp
        have Gv3 := gkg1.alloc (.cells #[] 50)
        rw [← ev3] at Sv3 Dv3 Xv3 Gv3 ⊢
        clear ev3
        obtain ⟨g2, cg2, curg2, v4, hapv4, geg2, glg2, gkg2, gcg2, gsg2⟩ := grow_lit (b := sb) (o := so) (m := sn) (c := sc) (news := (List.range sn).flatMap (shapeC x jv)) shapeInfo shapesUnder rfl (by decide) (by decide) hb_v3 (flat_len (fun _ => rfl)) (flat_cell (m := 3) (fun _ => rfl) (by decide) (fun j hj l hl => (Dv3.cell (by omega) (by omega)).trans (hall.out.2.1 j hj l hl))) hall.out.2.2.2 (by omega) (by omega)
        have gcg2' := Lib.hid gcg2
        have zv4 := gsg2.size
        have Sv4 := Sv3.trans (gsg2.mono (fun b h => (show b = w2.heap.size ∨ w3.heap.size ≤ b by omega)))
        have Dv4 := Dv3.trans (gsg2.mono (fun b h => (show wd.heap.size ≤ b by omega)))
        have Xv4 := Xv3.same gsg2 (by omega)
        have Gv4 := Gv3.same gsg2 (by omega)
        clear gcg2 gsg2
        refine tree_one rfl (by rfl) (fun K hK => ?_)
        go_simp
        refine hK _ _ Sv4 ?_
        clear hK K hapv4
        have x0 : v4.cell? ⟨w2.heap.size, 0, none⟩ = some (.slice (some ⟨pb, po, none⟩) pn pc) := Xv4.cell
        have x1 : v4.cell? ⟨w2.heap.size, 1, none⟩ = some (.slice (some ⟨sb, so, none⟩) sn sc) := Xv4.cell
        have f0 : v4.frozen? ⟨w2.heap.size, 0, none⟩ = false := Xv4.frozen
        have f1 : v4.frozen? ⟨w2.heap.size, 1, none⟩ = false := Xv4.frozen
        refine tree_one rfl (by rfl) (fun K hK => ?_)
        go_simp
        have SS := Sv4.setCell (M := (fun b => b = w2.heap.size ∨ w3.heap.size ≤ b)) (a := ⟨w2.heap.size, 0, none⟩) (.inl (.inl rfl)) (.slice (some ⟨g1, 0, none⟩) pn cg1)
        refine hK _ _ SS ?_
        clear hK K
        iterate 1
          (refine tree_take ?_ rfl SS (by rfl) ?_ ?_
           rotate_left
           · intro w' hw'
             go_simp
             with_reducible rfl
           simp only [Act.put, List.setIfInBounds_toArray, List.set_cons_zero, List.set_cons_succ])
        refine tree_one rfl (by rfl) (fun K hK => ?_)
        go_simp
        have SS2 := SS.setCell (M := (fun b => b = w2.heap.size ∨ w3.heap.size ≤ b)) (a := ⟨w2.heap.size, 1, none⟩) (.inl (.inl rfl)) (.slice (some ⟨g2, 0, none⟩) sn cg2)
        refine hK _ _ SS2 ?_
        clear hK K
        unfold wT okN
        go_wp2_with fail
        go_meet
        exact ⟨rfl, g1, cg1, g2, cg2, curg1, curg2, by omega, by omega, by omega, (Xv4.setAt (i := 0) (.slice (some ⟨g1, 0, none⟩) pn cg1)).setAt (i := 1) (.slice (some ⟨g2, 0, none⟩) sn cg2), (Gv4.setOther (by omega) _).setOther (by omega) _, (gkg2.setOther (by omega) _).setOther (by omega) _, gcg1'.out, gcg2'.out, SS2⟩
      · as_aux_lemma => -- 0 4 3 7
        refine tree_on rfl (by rfl) (fun K hK => ?_)
        go_simp
        refine hK _ _ (Sv1.alloc _) ?_
        clear hK K
        obtain ⟨v2, ev2⟩ : ∃ W, W = v1.alloc (.cells #[] 50) := ⟨_, rfl⟩
        have Sv2 := Sv1.alloc (.cells #[] 50)
        have Dv2 := Dv1.alloc (.cells #[] 50)
        have hb_v2 : v2.heap[v1.heap.size]? = some (.cells #[] 50 (0, 0)) := by rw [ev2]; exact heap_alloc_new _ _
        have Xv2 := Xv1.alloc (.cells #[] 50)
        have lv2 : v1.heap.size < v2.heap.size := by rw [ev2]; simp
        have ha_v2 : v2.heap[wd.heap.size]? = some (.cells #[] 48 (0, 0)) := by rw [ev2]; exact (((SameBut.refl (fun _ => False) v1).alloc _).block _ (by omega) (fun e => e)).trans ha_v1
        rw [← ev2] at Sv2 Dv2 Xv2 ⊢
        clear ev2
        obtain ⟨g1, cg1, curg1, v3, hapv3, geg1, glg1, gkg1, gcg1, gsg1⟩ := grow_lit (b := pb) (o := po) (m := pn) (c := pc) (news := (List.range pn).flatMap (woodC x kv)) woodInfo woodsUnder rfl (by decide) (by decide) ha_v2 (flat_len (fun _ => rfl)) (flat_cell (m := 2) (fun _ => rfl) (by decide) (fun j hj l hl => (Dv2.cell (by omega) (by omega)).trans (hall.out.1 j hj l hl))) hall.out.2.2.1 (by omega) (by omega)
        have gcg1' := Lib.hid gcg1
        have zv3 := gsg1.size
        have Sv3 := Sv2.trans (gsg1.mono (fun b h => (show b = w2.heap.size ∨ w3.heap.size ≤ b by omega)))
        have Dv3 := Dv2.trans (gsg1.mono (fun b h => (show wd.heap.size ≤ b by omega)))
        have Xv3 := Xv2.same gsg1 (by omega)
        have hb_v3 : v3.heap[v1.heap.size]? = some (.cells #[] 50 (0, 0)) := by rw [gsg1.block _ (by omega) (by omega)]; exact hb_v2
        clear gcg1 gsg1
        refine tree_one rfl (by rfl) (fun K hK => ?_)
        go_simp
        refine hK _ _ Sv3 ?_
        clear hK K hapv3
        iterate 1
          (refine tree_take ?_ rfl Sv3 (by rfl) ?_ ?_
           rotate_left
           · intro w' hw'
             go_simp
             with_reducible rfl
           simp only [Act.put, List.setIfInBounds_toArray, List.set_cons_zero, List.set_cons_succ])
        obtain ⟨g2, cg2, curg2, v4, hapv4, geg2, glg2, gkg2, gcg2, gsg2⟩ := grow_lit (b := sb) (o := so) (m := sn) (c := sc) (news := (List.range sn).flatMap (shapeC x jv)) shapeInfo shapesUnder rfl (by decide) (by decide) hb_v3 (flat_len (fun _ => rfl)) (flat_cell (m := 3) (fun _ => rfl) (by decide) (fun j hj l hl => (Dv3.cell (by omega) (by omega)).trans (hall.out.2.1 j hj l hl))) hall.out.2.2.2 (by omega) (by omega)
        have gcg2' := Lib.hid gcg2
        have zv4 := gsg2.size
        have Sv4 := Sv3.trans (gsg2.mono (fun b h => (show b = w2.heap.size ∨ w3.heap.size ≤ b by omega)))
        have Dv4 := Dv3.trans (gsg2.mono (fun b h => (show wd.heap.size ≤ b by omega)))
        have Xv4 := Xv3.same gsg2 (by omega)
        have Gv4 := gkg1.same gsg2 (by omega)
        clear gcg2 gsg2
        refine tree_one rfl (by rfl) (fun K hK => ?_)
        go_simp
        refine hK _ _ Sv4 ?_
        clear hK K hapv4
        have x0 : v4.cell? ⟨w2.heap.size, 0, none⟩ = some (.slice (some ⟨pb, po, none⟩) pn pc) := Xv4.cell
        have x1 : v4.cell? ⟨w2.heap.size, 1, none⟩ = some (.slice (some ⟨sb, so, none⟩) sn sc) := Xv4.cell
        have f0 : v4.frozen? ⟨w2.heap.size, 0, none⟩ = false := Xv4.frozen
        have f1 : v4.frozen? ⟨w2.heap.size, 1, none⟩ = false := Xv4.frozen
        refine tree_one rfl (by rfl) (fun K hK => ?_)
        go_simp
        have SS := Sv4.setCell (M := (fun b => b = w2.heap.size ∨ w3.heap.size ≤ b)) (a := ⟨w2.heap.size, 0, none⟩) (.inl (.inl rfl)) (.slice (some ⟨g1, 0, none⟩) pn cg1)
        refine hK _ _ SS ?_
        clear hK K
        iterate 1
          (refine tree_take ?_ rfl SS (by rfl) ?_ ?_
           rotate_left
           · intro w' hw'
             go_simp
             with_reducible rfl
           simp only [Act.put, List.setIfInBounds_toArray, List.set_cons_zero, List.set_cons_succ])
        refine tree_one rfl (by rfl) (fun K hK => ?_)
        go_simp
        have SS2 := SS.setCell (M := (fun b => b = w2.heap.size ∨ w3.heap.size ≤ b)) (a := ⟨w2.heap.size, 1, none⟩) (.inl (.inl rfl)) (.slice (some ⟨g2, 0, none⟩) sn cg2)
        refine hK _ _ SS2 ?_
        clear hK K
        unfold wT okN
        go_wp2_with fail
        go_meet
        exact ⟨rfl, g1, cg1, g2, cg2, curg1, curg2, by omega, by omega, by omega, (Xv4.setAt (i := 0) (.slice (some ⟨g1, 0, none⟩) pn cg1)).setAt (i := 1) (.slice (some ⟨g2, 0, none⟩) sn cg2), (Gv4.setOther (by omega) _).setOther (by omega) _, (gkg2.setOther (by omega) _).setOther (by omega) _, gcg1'.out, gcg2'.out, SS2⟩
    · as_aux_lemma => -- 4 0 3 7
      refine tree_on rfl (by rfl) (fun K hK => ?_)
      go_simp
      refine hK _ _ (hF0.alloc _) ?_
      clear hK K
      obtain ⟨v1, ev1⟩ : ∃ W, W = wd.alloc (.cells #[] 50) := ⟨_, rfl⟩
      have Sv1 := hF0.alloc (.cells #[] 50)
      have Dv1 := hF0'.alloc (.cells #[] 50)
      have hb_v1 : v1.heap[wd.heap.size]? = some (.cells #[] 50 (0, 0)) := by rw [ev1]; exact heap_alloc_new _ _
      have Xv1 := hX0.alloc (.cells #[] 50)
      have lv1 : wd.heap.size < v1.heap.size := by rw [ev1]; simp
      rw [← ev1] at Sv1 Dv1 Xv1 ⊢
      clear ev1
      refine tree_one rfl (by rfl) (fun K hK => ?_)
      go_simp
      refine hK _ _ (Sv1.alloc _) ?_
      clear hK K
      obtain ⟨v2, ev2⟩ : ∃ W, W = v1.alloc (.cells #[] 48) := ⟨_, rfl⟩
      have Sv2 := Sv1.alloc (.cells #[] 48)
      have Dv2 := Dv1.alloc (.cells #[] 48)
      have ha_v2 : v2.heap[v1.heap.size]? = some (.cells #[] 48 (0, 0)) := by rw [ev2]; exact heap_alloc_new _ _
      have Xv2 := Xv1.alloc (.cells #[] 48)
      have lv2 : v1.heap.size < v2.heap.size := by rw [ev2]; simp
      have hb_v2 : v2.heap[wd.heap.size]? = some (.cells #[] 50 (0, 0)) := by rw [ev2]; exact (((SameBut.refl (fun _ => False) v1).alloc _).block _ (by omega) (fun e => e)).trans hb_v1
      rw [← ev2] at Sv2 Dv2 Xv2 ⊢
      clear ev2
      obtain ⟨g1, cg1, curg1, v3, hapv3, geg1, glg1, gkg1, gcg1, gsg1⟩ := grow_lit (b := pb) (o := po) (m := pn) (c := pc) (news := (List.range pn).flatMap (woodC x kv)) woodInfo woodsUnder rfl (by decide) (by decide) ha_v2 (flat_len (fun _ => rfl)) (flat_cell (m := 2) (fun _ => rfl) (by decide) (fun j hj l hl => (Dv2.cell (by omega) (by omega)).trans (hall.out.1 j hj l hl))) hall.out.2.2.1 (by omega) (by omega)
      have gcg1' := Lib.hid gcg1
      have zv3 := gsg1.size
      have Sv3 := Sv2.trans (gsg1.mono (fun b h => (show b = w2.heap.size ∨ w3.heap.size ≤ b by omega)))
      have Dv3 := Dv2.trans (gsg1.mono (fun b h => (show wd.heap.size ≤ b by omega)))
      have Xv3 := Xv2.same gsg1 (by omega)
      have hb_v3 : v3.heap[wd.heap.size]? = some (.cells #[] 50 (0, 0)) := by rw [gsg1.block _ (by omega) (by omega)]; exact hb_v2
      clear gcg1 gsg1
      refine tree_one rfl (by rfl) (fun K hK => ?_)
      go_simp
      refine hK _ _ Sv3 ?_
      clear hK K hapv3
      iterate 1
        (refine tree_take ?_ rfl Sv3 (by rfl) ?_ ?_
         rotate_left
         · intro w' hw'
           go_simp
           with_reducible rfl
         simp only [Act.put, List.setIfInBounds_toArray, List.set_cons_zero, List.set_cons_succ])
      obtain ⟨g2, cg2, curg2, v4, hapv4, geg2, glg2, gkg2, gcg2, gsg2⟩ := grow_lit (b := sb) (o := so) (m := sn) (c := sc) (news := (List.range sn).flatMap (shapeC x jv)) shapeInfo shapesUnder rfl (by decide) (by decide) hb_v3 (flat_len (fun _ => rfl)) (flat_cell (m := 3) (fun _ => rfl) (by decide) (fun j hj l hl => (Dv3.cell (by omega) (by omega)).trans (hall.out.2.1 j hj l hl))) hall.out.2.2.2 (by omega) (by omega)
      have gcg2' := Lib.hid gcg2
      have zv4 := gsg2.size
      have Sv4 := Sv3.trans (gsg2.mono (fun b h => (show b = w2.heap.size ∨ w3.heap.size ≤ b by omega)))
      have Dv4 := Dv3.trans (gsg2.mono (fun b h => (show wd.heap.size ≤ b by omega)))
      have Xv4 := Xv3.same gsg2 (by omega)
      have Gv4 := gkg1.same gsg2 (by omega)
      clear gcg2 gsg2
      refine tree_one rfl (by rfl) (fun K hK => ?_)
      go_simp
      refine hK _ _ Sv4 ?_
      clear hK K hapv4
      have x0 : v4.cell? ⟨w2.heap.size, 0, none⟩ = some (.slice (some ⟨pb, po, none⟩) pn pc) := Xv4.cell
      have x1 : v4.cell? ⟨w2.heap.size, 1, none⟩ = some (.slice (some ⟨sb, so, none⟩) sn sc) := Xv4.cell
      have f0 : v4.frozen? ⟨w2.heap.size, 0, none⟩ = false := Xv4.frozen
      have f1 : v4.frozen? ⟨w2.heap.size, 1, none⟩ = false := Xv4.frozen
      refine tree_one rfl (by rfl) (fun K hK => ?_)
      go_simp
      have SS := Sv4.setCell (M := (fun b => b = w2.heap.size ∨ w3.heap.size ≤ b)) (a := ⟨w2.heap.size, 0, none⟩) (.inl (.inl rfl)) (.slice (some ⟨g1, 0, none⟩) pn cg1)
      refine hK _ _ SS ?_
      clear hK K
      iterate 1
        (refine tree_take ?_ rfl SS (by rfl) ?_ ?_
         rotate_left
         · intro w' hw'
           go_simp
           with_reducible rfl
         simp only [Act.put, List.setIfInBounds_toArray, List.set_cons_zero, List.set_cons_succ])
      refine tree_one rfl (by rfl) (fun K hK => ?_)
      go_simp
      have SS2 := SS.setCell (M := (fun b => b = w2.heap.size ∨ w3.heap.size ≤ b)) (a := ⟨w2.heap.size, 1, none⟩) (.inl (.inl rfl)) (.slice (some ⟨g2, 0, none⟩) sn cg2)
      refine hK _ _ SS2 ?_
      clear hK K
      unfold wT okN
      go_wp2_with fail
      go_meet
      exact ⟨rfl, g1, cg1, g2, cg2, curg1, curg2, by omega, by omega, by omega, (Xv4.setAt (i := 0) (.slice (some ⟨g1, 0, none⟩) pn cg1)).setAt (i := 1) (.slice (some ⟨g2, 0, none⟩) sn cg2), (Gv4.setOther (by omega) _).setOther (by omega) _, (gkg2.setOther (by omega) _).setOther (by omega) _, gcg1'.out, gcg2'.out, SS2⟩
  case rest =>
  obtain ⟨rfl, g1, c1, g2, c2, cur1, cur2, hne, hg1, hg2, hX4, hG1, hG2, hcur1, hcur2, hs4⟩ := hcut
  obtain ⟨w4, hw4⟩ : ∃ w4, w4 = wc := ⟨_, rfl⟩
  rw [← hw4] at hX4 hG1 hG2 hs4 ⊢
  clear hw4
  have hz4 := hs4.size
  have hn4 := hn3.same hs4 (by omega)
  have hk4 := hk3.same hs4 (by omega)
  have hX4l := hX4.lt
  have hG1l := hG1.lt
  have hG2l := hG2.lt
  have hs24 : SameBut (fun b => w2.heap.size ≤ b) w2 w4 := (SameBut.of_below (M := fun b => w2.heap.size ≤ b) hb3 (Nat.le_refl _)).trans (hs4.mono (fun b h => by omega))
  have hcw : Hid (∀ j, j < pn → KnotsV B w4 (kv j) (gw x.planks j) ∧ I64 (gw x.planks j).long ∧ cur1[j * 2]? = some (.int .i64 (gw x.planks j).long) ∧ cur1[j * 2 + 1]? = some (kv j)) := Lib.hid (fun j hj => by
    obtain ⟨k1, _, _, k4⟩ := hkv'.out j hj
    have e : ∀ l, l < 2 → ((List.range pn).flatMap (woodC x kv))[j * 2 + l]? = (woodC x kv j)[l]? := fun l hl => by
      rw [flat_get (L := List.range pn) (f := woodC x kv) (m := 2) (fun _ => rfl) (by simpa using hj) hl, List.getElem_range]
    exact ⟨k1.keep (Nat.le_refl _) (fun b o h => hs4.cell (by omega) (by omega)), k4, hcur1 _ _ (e 0 (by decide)), hcur1 _ _ (e 1 (by decide))⟩)
  have hcs : Hid (∀ j, j < sn → JointsV B w4 (jv j) (gs x.parts j) ∧ I64 (gs x.parts j).long ∧ cur2[j * 3]? = some (.int .i64 (gs x.parts j).long) ∧ cur2[j * 3 + 1]? = some (jv j) ∧ cur2[j * 3 + 2]? = some (.bool (gs x.parts j).turns)) := Lib.hid (fun j hj => by
    obtain ⟨k1, _, _, _, k5⟩ := hjv'.out j hj
    have e : ∀ l, l < 3 → ((List.range sn).flatMap (shapeC x jv))[j * 3 + l]? = (shapeC x jv j)[l]? := fun l hl => by
      rw [flat_get (L := List.range sn) (f := shapeC x jv) (m := 3) (fun _ => rfl) (by simpa using hj) hl, List.getElem_range]
    exact ⟨k1.keep (Nat.le_refl _) (fun b o h => hs4.cell (by omega) (by omega)), k5, hcur2 _ _ (e 0 (by decide)), hcur2 _ _ (e 1 (by decide)), hcur2 _ _ (e 2 (by decide))⟩)
  have hx4 := Lib.hid (hx0.out.keep (w' := w4) (Nat.le_refl _) (fun b o h => (hs4.cell (by omega) (by omega)).trans (bcells hb3 b o (by omega))))
  have hbook4 : Hid (BookAt w4.heap.size w4 (some ⟨g1, 0, none⟩) pn (some ⟨g2, 0, none⟩) sn x) := Lib.hid ⟨woods_row (B := B) hG1 hpn.out (by omega) (by omega) hcw.out, shapes_row (B := B) hG2 hsn.out (by omega) (by omega) hcs.out⟩
  have hBw4 : B ≤ w4.heap.size := by omega
  have hxi : i < x.planks.length := by rw [hpn.out]; exact hip
  have hxp : p < x.parts.length := by rw [hsn.out]; exact hps2
  have m2 : w4.cell? ⟨w.heap.size + 1, 2, none⟩ = some (.int .i64 n2) := hn4.cell
  have r2 := rnd_range (n := n2) (m := 3) (by omega)
  obtain ⟨r, hr⟩ : ∃ r, rnd n2 3 = r := ⟨_, rfl⟩
  rw [hr] at r2
  have hr' := Lib.hid hr
  clear hcur1 hcur2 hr
  go_upto_block 0 with (go_at_call 35; refine (Round_any (n := n2) (m := 3) _ (by unfold I64; omega)).mono ?_; rintro e w5 ⟨rfl, rfl⟩; rw [hr'.out])
  clear m2
  go_cut [7] (fun s wx => s = .pointer (some ⟨w2.heap.size, 0, none⟩) ∧ ∃ (y : Book) (qa ta : Option Addr) (qn qc tn tc : Nat), Blk wx w2.heap.size #[.slice qa qn qc, .slice ta tn tc] ∧ BookAt wx.heap.size wx qa qn ta tn y ∧ Easier x y ∧ bookOk y = true ∧ SameBut (fun b => w2.heap.size ≤ b) w2 wx)
  case first =>
    have hsame : Hid (∃ (y : Book) (qa ta : Option Addr) (qn qc tn tc : Nat), Blk w4 w2.heap.size #[.slice qa qn qc, .slice ta tn tc] ∧ BookAt w4.heap.size w4 qa qn ta tn y ∧ Easier x y ∧ bookOk y = true ∧ SameBut (fun b => w2.heap.size ≤ b) w2 w4) := Lib.hid ⟨x, _, _, _, _, _, _, hX4, hbook4.out, ⟨rfl, rfl, fun _ _ _ _ _ h => h, fun _ => rfl⟩, hb'.out, hs24⟩
    obtain ⟨⟨ka, kn, kc, kve, hks⟩, kI, _, _⟩ := hcw.out i hip
    obtain ⟨⟨ja, jn, jc, jve, hjs⟩, jI, _, _, _⟩ := hcs.out p hps2
    have hkl := Lib.hid hks.len
    have hjl := Lib.hid hjs.len
    have hkn3 : kn ≤ 3 := by rw [← hks.len]; exact (hG.out.wood i hxi).2.2
    have hjn3 : jn ≤ 3 := by rw [← hjs.len]; exact (hG.out.shape p hxp).2.2
    have hks' := Lib.hid hks
    have hjs' := Lib.hid hjs
    have hkve := Lib.hid kve
    have hjve := Lib.hid jve
    obtain ⟨L, hL⟩ : ∃ L, L = (gw x.planks i).long := ⟨_, rfl⟩
    have hL1 : 1 ≤ L ∧ L ≤ 16 := by rw [hL]; have := hG.out.wood i hxi; omega
    obtain ⟨hL1, hL2⟩ := hL1
    have hL' := Lib.hid hL
    have hii : (i : Int) < pn := by omega
    have hpi : (p : Int) < sn := by omega
    have lpb : pb < w3.heap.size := by omega
    have lsb : sb < w3.heap.size := by omega
    have k0 := (hs4.cell (b := pb) (o := po + i * 2) lpb (by omega)).trans (hkv'.out i hip).2.1
    have k1 := (hs4.cell (b := pb) (o := po + i * 2 + 1) lpb (by omega)).trans (hkv'.out i hip).2.2.1
    have j1 := (hs4.cell (b := sb) (o := so + p * 3 + 1) lsb (by omega)).trans (hjv'.out p hps2).2.2.1
    rw [← hL] at k0
    rw [kve] at k1
    rw [jve] at j1
    have k0' := Lib.hid k0
    have k1' := Lib.hid k1
    have j1' := Lib.hid j1
    have q0 : w4.cell? ⟨w.heap.size, 0, none⟩ = some (.slice (some ⟨pb, po, none⟩) pn pc) := hk4.cell
    have q1 : w4.cell? ⟨w.heap.size, 1, none⟩ = some (.slice (some ⟨sb, so, none⟩) sn sc) := hk4.cell
    clear hks hjs kve jve hL
    have hr3 : r = 0 ∨ r = 1 ∨ r = 2 := by omega
    clear r2 hr'
    rcases hr3 with rfl | rfl | rfl
    · as_aux_lemma => -- more is known of a knot
      by_cases hkn0 : kn = 0
      · subst hkn0
        go_wp2_with fail
        go_meet
        exact ⟨rfl, hsame.out⟩
      have hkp : (0 : Int) < kn := by omega
      have r3 := rnd_range (n := n3) (m := kn) (by omega)
      obtain ⟨k, hkk⟩ : ∃ k : Nat, rnd n3 kn = k := ⟨(rnd n3 kn).toNat, by omega⟩
      have hkkn : k < kn := by omega
      have hkk' := Lib.hid hkk
      have hknI : Hid (I64 (kn : Int)) := Lib.hid (by unfold I64; omega)
      clear r3 hkk
      go_upto_region 11 with fail
      clear k0 k1 j1 q0 q1 hkp
      go_cut [8] (fun s wx => s = .int .i64 (k : Int) ∧ Below w4.heap.size w4 wx)
      case first =>
        have hO := open_wide
        have hF := hO.fn
        have hd := hO.depth
        have hS0 : SameBut (fun _ => False) w4 w4.drew := (SameBut.refl _ _).drew
        have hread : ∀ w', SameBut (fun _ => False) w4 w' → w'.cell? ⟨w.heap.size, 0, none⟩ = some (.slice (some ⟨pb, po, none⟩) pn pc) ∧ w'.cell? ⟨w.heap.size + 1, 3, none⟩ = some (.int .i64 n3) ∧ w'.cell? ⟨pb, po + i * 2 + 1, none⟩ = some (.slice ka kn kc) := fun w' h =>
          ⟨(hk4.same h (fun e => e)).cell, (hn4.same h (fun e => e)).cell, (h.cell (by omega) (fun e => e)).trans k1'.out⟩
        refine region_planW (fun w' => SameBut (fun _ => False) w4 w') [(0, true), (1, true), (2, true), (3, true), (4, true), (5, true), (6, true), (7, true), (8, true), (9, false), (10, true)] (by kernel_rfl) (by kernel_rfl) (by kernel_rfl) (by decide) (by kernel_rfl) ?_
        iterate 9
          (refine plan_take ?_ rfl hS0 (by rfl) ?_ ?_
           rotate_left
           · intro w' hw'
             obtain ⟨q1, q2, q3⟩ := hread w' hw'
             go_simp
             with_reducible rfl
           simp only [Act.put, List.setIfInBounds_toArray, List.set_cons_zero, List.set_cons_succ])
        refine plan_one rfl (by rfl) (fun K hK => ?_)
        go_simp
        refine (hO.calls (Round_any (n := n3) (m := (kn : Int)) _ hknI.out)).mono ?_
        rintro e w5 ⟨rfl, rfl⟩
        rw [hkk'.out]
        refine hK _ _ hS0 ?_
        clear hK K
        iterate 1
          (refine plan_take ?_ rfl hS0 (by rfl) ?_ ?_
           rotate_left
           · intro w' hw'
             go_simp
             with_reducible rfl
           simp only [Act.put, List.setIfInBounds_toArray, List.set_cons_zero, List.set_cons_succ])
        unfold planW okN
        go_wp2_with fail
        go_meet
        exact ⟨rfl, hS0.toBelow (Nat.le_refl _) (fun _ h => h.elim)⟩
      case rest =>
      obtain ⟨rfl, hb5⟩ := hcut
      obtain ⟨w5, hw5⟩ : ∃ w5, w5 = wc := ⟨_, rfl⟩
      rw [← hw5] at hb5 ⊢
      clear hw5
      have hz5 := hb5.size
      have hk5 := hk4.below hb5 hk4.lt
      have hn5 := hn4.below hb5 hn4.lt
      have hX5 := hX4.below hb5 hX4.lt
      obtain ⟨kb, ko, rfl, hkB, hkc⟩ := hks'.out.get k hkkn
      obtain ⟨d0, d1, _, _⟩ := hkc k hkkn
      obtain ⟨lo, hlo⟩ : ∃ lo, lo = (gp (gw x.planks i).knots k).1 := ⟨_, rfl⟩
      obtain ⟨hi, hhi⟩ : ∃ hi, hi = (gp (gw x.planks i).knots k).2 := ⟨_, rfl⟩
      have hknot := hG.out.knot i hxi k (by rw [hkl.out]; exact hkkn)
      unfold Knot at hknot
      rw [← hlo, ← hhi] at hknot
      rw [← hlo] at d0
      rw [← hhi] at d1
      obtain ⟨h0, h1, h2⟩ := hknot
      obtain ⟨T, hT⟩ : ∃ T, T = lo + rnd n3 (hi - lo + 1) := ⟨_, rfl⟩
      have hTr : lo ≤ T ∧ T ≤ hi := by rw [hT]; have := rnd_range (n := n3) (m := hi - lo + 1) (by omega); omega
      obtain ⟨hT1, hT2⟩ := hTr
      have hT' := Lib.hid hT
      have hlo' := Lib.hid hlo
      have hhi' := Lib.hid hhi
      have hki : (k : Int) < kn := by omega
      clear hkc hlo hhi hT
      go_upto_region 12 with fail
      have hO := open_wide
      have hF := hO.fn
      have hd := hO.depth
      have hS0 : SameBut (fun b => b = w2.heap.size) w5 w5.drew := (SameBut.refl _ _).drew
      have hread : ∀ w', SameBut (fun b => b = w2.heap.size) w5 w' → w'.cell? ⟨w.heap.size, 0, none⟩ = some (.slice (some ⟨pb, po, none⟩) pn pc) ∧ w'.cell? ⟨w.heap.size, 1, none⟩ = some (.slice (some ⟨sb, so, none⟩) sn sc) ∧ w'.cell? ⟨w.heap.size + 1, 3, none⟩ = some (.int .i64 n3) ∧ w'.cell? ⟨pb, po + i * 2 + 1, none⟩ = some (.slice (some ⟨kb, ko, none⟩) kn kc) ∧ w'.cell? ⟨kb, ko + k * 2, none⟩ = some (.int .i64 lo) ∧ w'.cell? ⟨kb, ko + k * 2 + 1, none⟩ = some (.int .i64 hi) := fun w' h =>
        ⟨(hk5.same h (by omega)).cell, (hk5.same h (by omega)).cell, (hn5.same h (by omega)).cell, ((h.cell (by omega) (by omega)).trans (bcells hb5 _ _ (by omega))).trans k1'.out, ((h.cell (by omega) (by omega)).trans (bcells hb5 _ _ (by omega))).trans d0, ((h.cell (by omega) (by omega)).trans (bcells hb5 _ _ (by omega))).trans d1⟩
      have d0' := Lib.hid d0
      have d1' := Lib.hid d1
      clear d0 d1
      refine region_planW (fun w' => SameBut (fun b => b = w2.heap.size) w5 w') [(0, true), (1, true), (2, true), (3, true), (4, true), (5, true), (6, true), (7, true), (8, true), (9, true), (10, true), (11, true), (12, true), (13, true), (14, false), (15, false), (16, false)] (by kernel_rfl) (by kernel_rfl) (by kernel_rfl) (by decide) (by kernel_rfl) ?_
      iterate 14
        (refine plan_take ?_ rfl hS0 (by rfl) ?_ ?_
         rotate_left
         · intro w' hw'
           obtain ⟨q1, q2, q3, q4, q5, q6⟩ := hread w' hw'
           go_simp
           with_reducible rfl
         simp only [Act.put, List.setIfInBounds_toArray, List.set_cons_zero, List.set_cons_succ])
      refine plan_one rfl (by rfl) (fun K hK => ?_)
      go_simp
      refine (hO.calls (Any_any (m := n3) _ h0 h1 (by omega))).mono ?_
      rintro e w6 ⟨rfl, hb6⟩
      rw [← hT'.out]
      have hS6 : SameBut (fun b => b = w2.heap.size) w5 w6 := hS0.below hb6
      have hD6 : SameBut (fun _ => False) w5 w6 := ((SameBut.refl (fun _ => False) w5).drew).below hb6
      refine hK _ _ hS6 ?_
      clear hK K hb6
      refine plan_one rfl (by rfl) (fun K hK => ?_)
      go_simp
      refine (hO.calls (known_any (B := B) (t := T) (by have := hD6.size; omega) (hx4.out.keep (Nat.le_refl _) (fun b o h => (hD6.cell (by omega) (fun e => e)).trans (bcells hb5 b o (by omega)))) (by omega) hip (by rw [hkl.out]; exact hkkn) (by rw [hkl.out]; omega) (by unfold I64; omega))).mono ?_
      rintro e w7 ⟨qa, qn, qc, rfl, hy, hb7⟩
      have hS7 : SameBut (fun b => b = w2.heap.size) w5 w7 := hS6.below hb7
      have hD7 : SameBut (fun _ => False) w5 w7 := hD6.below hb7
      refine hK _ _ hS7 ?_
      clear hK K hb7
      have hX7 := hX5.same hD7 (fun e => e)
      have x0 : w7.cell? ⟨w2.heap.size, 0, none⟩ = some (.slice (some ⟨g1, 0, none⟩) pn c1) := hX7.cell
      have x1 : w7.cell? ⟨w2.heap.size, 1, none⟩ = some (.slice (some ⟨g2, 0, none⟩) sn c2) := hX7.cell
      have f0 : w7.frozen? ⟨w2.heap.size, 0, none⟩ = false := hX7.frozen
      have f1 : w7.frozen? ⟨w2.heap.size, 1, none⟩ = false := hX7.frozen
      refine plan_one rfl (by rfl) (fun K hK => ?_)
      go_simp
      have SS := (hS7.setCell (M := fun b => b = w2.heap.size) (a := ⟨w2.heap.size, 0, none⟩) (.inl rfl) (.slice qa qn qc)).setCell (M := fun b => b = w2.heap.size) (a := ⟨w2.heap.size, 1, none⟩) (.inl rfl) (.slice (some ⟨sb, so, none⟩) sn sc)
      have SX := ((SameBut.refl (fun b => b = w2.heap.size) w7).setCell (M := fun b => b = w2.heap.size) (a := ⟨w2.heap.size, 0, none⟩) (.inl rfl) (.slice qa qn qc)).setCell (M := fun b => b = w2.heap.size) (a := ⟨w2.heap.size, 1, none⟩) (.inl rfl) (.slice (some ⟨sb, so, none⟩) sn sc)
      refine hK _ _ SS ?_
      clear hK K
      unfold planW okN
      go_wp2_with fail
      go_meet
      refine ⟨rfl, lookedB x i k T, qa, some ⟨sb, so, none⟩, qn, qc, sn, sc, (hX7.setAt (i := 0) _).setAt (i := 1) _, hy.but (by simp) (two_slices hX7) (fun b o hb hne => SX.cell hb hne), easier_looked hxi (by rw [hkl.out]; exact hkkn) (by rw [← hlo'.out]; exact hT1) (by rw [← hhi'.out]; exact hT2), looked_ok hb'.out hxi (by rw [hkl.out]; exact hkkn) (by rw [← hlo'.out]; exact hT1) (by rw [← hhi'.out]; exact hT2), ?_⟩
      exact (hs24.trans (SameBut.of_below hb5 (by omega))).trans (SS.mono (fun b h => by omega))
    · as_aux_lemma => -- the plank is longer
      have r3 := rnd_range (n := n3) (m := 3) (by omega)
      obtain ⟨u, hu⟩ : ∃ u, rnd n3 3 = u := ⟨_, rfl⟩
      rw [hu] at r3
      obtain ⟨u0, u1⟩ := r3
      have hu' := Lib.hid hu
      clear hu
      go_upto_region 14 with fail
      clear k0 k1 j1 q0 q1
      have hO := open_wide
      have hF := hO.fn
      have hd := hO.depth
      have hS0 : SameBut (fun b => b = g1) w4 w4.drew := (SameBut.refl _ _).drew
      have hread : ∀ w', SameBut (fun b => b = g1) w4 w' → w'.cell? ⟨w.heap.size, 0, none⟩ = some (.slice (some ⟨pb, po, none⟩) pn pc) ∧ w'.cell? ⟨w2.heap.size, 0, none⟩ = some (.slice (some ⟨g1, 0, none⟩) pn c1) ∧ w'.cell? ⟨w.heap.size + 1, 3, none⟩ = some (.int .i64 n3) ∧ w'.cell? ⟨pb, po + i * 2, none⟩ = some (.int .i64 L) := fun w' h =>
        ⟨(hk4.same h (by omega)).cell, (hX4.same h (by omega)).cell, (hn4.same h (by omega)).cell, (h.cell (by omega) (by omega)).trans k0'.out⟩
      have e1 : IntKind.i64.wrap (L + 1) = L + 1 := IntWalk.i64_in _ (by omega)
      have e2 : IntKind.i64.wrap (L + 1 + u) = L + 1 + u := IntWalk.i64_in _ (by omega)
      refine region_planW (fun w' => SameBut (fun b => b = g1) w4 w') [(0, true), (1, true), (2, true), (3, true), (4, true), (5, true), (6, true), (7, true), (8, true), (9, true), (10, true), (11, true), (12, false), (13, true), (14, true), (15, true), (16, true), (17, false)] (by kernel_rfl) (by kernel_rfl) (by kernel_rfl) (by decide) (by kernel_rfl) ?_
      have hG5 := hG1.drew
      have hX5 := hX4.drew
      have hD5 : SameBut (fun _ => False) w4 w4.drew := (SameBut.refl _ _).drew
      obtain ⟨wd, hwd⟩ : ∃ wd, wd = w4.drew := ⟨_, rfl⟩
      rw [← hwd] at hS0 hG5 hX5 hD5 ⊢
      clear hwd
      iterate 12
        (refine plan_take ?_ rfl hS0 (by rfl) ?_ ?_
         rotate_left
         · intro w' hw'
           obtain ⟨q1, q2, q3, q4⟩ := hread w' hw'
           go_simp
           with_reducible rfl
         simp only [Act.put, List.setIfInBounds_toArray, List.set_cons_zero, List.set_cons_succ])
      refine plan_one rfl (by rfl) (fun K hK => ?_)
      go_simp
      refine (hO.calls (Round_any (n := n3) (m := 3) _ (by unfold I64; omega))).mono ?_
      rintro e w5 ⟨rfl, rfl⟩
      rw [hu'.out]
      refine hK _ _ hS0 ?_
      clear hK K
      iterate 1
        (refine plan_take ?_ rfl hS0 (by rfl) ?_ ?_
         rotate_left
         · intro w' hw'
           go_simp
           with_reducible rfl
         simp only [Act.put, List.setIfInBounds_toArray, List.set_cons_zero, List.set_cons_succ])
      obtain ⟨V, hV⟩ : ∃ V : Int, V = min 16 (L + 1 + u) := ⟨_, rfl⟩
      have hV1 : L ≤ V := by omega
      have hV2 : V ≤ 16 := by omega
      have hV' := Lib.hid hV
      clear hV
      refine plan_take (.int .i64 V) rfl hS0 (by rfl) ?_ ?_
      · intro w' hw'
        go_simp
        rw [hV'.out, Int.min_def]
        split <;> split <;> omega
      simp only [Act.put, List.setIfInBounds_toArray, List.set_cons_zero, List.set_cons_succ]
      iterate 2
        (refine plan_take ?_ rfl hS0 (by rfl) ?_ ?_
         rotate_left
         · intro w' hw'
           go_simp
           with_reducible rfl
         simp only [Act.put, List.setIfInBounds_toArray, List.set_cons_zero, List.set_cons_succ])
      have y0 : cur1[i * 2]? = some (.int .i64 L) := by rw [hL'.out]; exact (hcw.out i hip).2.2.1
      have x0 : wd.cell? ⟨g1, i * 2, none⟩ = some (.int .i64 L) := hG5.cell.trans y0
      have x1 : wd.cell? ⟨g1, 0 + i * 2, none⟩ = some (.int .i64 L) := by rw [Nat.zero_add]; exact x0
      have f0 : wd.frozen? ⟨g1, i * 2, none⟩ = false := hG5.frozen
      have f1 : wd.frozen? ⟨g1, 0 + i * 2, none⟩ = false := hG5.frozen
      have zd := hD5.size
      clear y0
      refine plan_one rfl (by rfl) (fun K hK => ?_)
      go_simp
      have SS := hS0.setCell (M := fun b => b = g1) (a := ⟨g1, i * 2, none⟩) (.inl rfl) (.int .i64 V)
      refine hK _ _ SS ?_
      clear hK K
      unfold planW okN
      go_wp2_with fail
      go_meet
      have hzs : w4.heap.size ≤ (wd.setCell ⟨g1, i * 2, none⟩ (.int .i64 V)).heap.size := by rw [World.size_setCell]; exact zd
      refine ⟨rfl, longB x i V, some ⟨g1, 0, none⟩, some ⟨g2, 0, none⟩, pn, c1, sn, c2, hX5.setOther (by omega) _, ⟨woods_row (B := B) (K := kv) (hG5.setAt (i := i * 2) (.int .i64 V)) (by unfold longB; simp [hpn.out]) (by omega) (by omega) (fun j hj => ?_), shapes_row (B := B) (K := jv) ((hG2.same hD5 (fun e => e)).setOther (by omega) _) hsn.out (by omega) (by omega) (fun j hj => ?_)⟩, easier_long hxi (by rw [← hL'.out]; exact hV1), long_ok hb'.out hxi (by rw [← hL'.out]; exact hV1) hV2, ?_⟩
      · obtain ⟨h1, h2, h3, h4⟩ := hcw.out j hj
        by_cases e : j = i
        · subst e
          rw [long_same hxi]
          exact ⟨h1.keep (Nat.le_refl _) (fun b o h => SS.cell (by omega) (by omega)), by show I64 V; unfold I64; omega, by rw [set_get h3, if_pos rfl], by rw [set_get h4, if_neg (by omega)]⟩
        · rw [long_other e]
          exact ⟨h1.keep (Nat.le_refl _) (fun b o h => SS.cell (by omega) (by omega)), h2, by rw [set_get h3, if_neg (by omega)], by rw [set_get h4, if_neg (by omega)]⟩
      · obtain ⟨h1, h2, h3, h4, h5⟩ := hcs.out j hj
        exact ⟨h1.keep (Nat.le_refl _) (fun b o h => SS.cell (by omega) (by omega)), h2, h3, h4, h5⟩
      · exact hs24.trans (SS.mono (fun b h => by omega))
    · as_aux_lemma => -- a part has a joint less
      by_cases hjn0 : jn = 0
      · subst hjn0
        go_wp2_with fail
        go_meet
        exact ⟨rfl, hsame.out⟩
      have hjp : (0 : Int) < jn := by omega
      have r3 := rnd_range (n := n3) (m := jn) (by omega)
      obtain ⟨v, hv⟩ : ∃ v : Nat, rnd n3 jn = v := ⟨(rnd n3 jn).toNat, by omega⟩
      have hvn : v < jn := by omega
      have hv' := Lib.hid hv
      have hjnI : Hid (I64 (jn : Int)) := Lib.hid (by unfold I64; omega)
      clear r3 hv
      go_upto_region 8 with fail
      clear k0 k1 j1 q0 q1 hjp
      have hO := open_wide
      have hF := hO.fn
      have hd := hO.depth
      have hS0 : SameBut (fun b => b = g2) w4 w4.drew := (SameBut.refl _ _).drew
      have hread : ∀ w', SameBut (fun b => b = g2) w4 w' → w'.cell? ⟨w.heap.size, 1, none⟩ = some (.slice (some ⟨sb, so, none⟩) sn sc) ∧ w'.cell? ⟨w2.heap.size, 1, none⟩ = some (.slice (some ⟨g2, 0, none⟩) sn c2) ∧ w'.cell? ⟨w.heap.size + 1, 3, none⟩ = some (.int .i64 n3) ∧ w'.cell? ⟨sb, so + p * 3 + 1, none⟩ = some (.slice ja jn jc) := fun w' h =>
        ⟨(hk4.same h (by omega)).cell, (hX4.same h (by omega)).cell, (hn4.same h (by omega)).cell, (h.cell (by omega) (by omega)).trans j1'.out⟩
      refine region_planW (fun w' => SameBut (fun b => b = g2) w4 w') [(0, true), (1, true), (2, true), (3, true), (4, true), (5, true), (6, true), (7, true), (8, true), (9, true), (10, true), (11, true), (12, true), (13, true), (14, true), (15, true), (16, true), (17, true), (18, false), (19, false), (20, true), (21, true), (22, false)] (by kernel_rfl) (by kernel_rfl) (by kernel_rfl) (by decide) (by kernel_rfl) ?_
      have hD5 : SameBut (fun _ => False) w4 w4.drew := (SameBut.refl _ _).drew
      obtain ⟨wd, hwd⟩ : ∃ wd, wd = w4.drew := ⟨_, rfl⟩
      rw [← hwd] at hS0 hD5 ⊢
      clear hwd
      have zd := hD5.size
      iterate 18
        (refine plan_take ?_ rfl hS0 (by rfl) ?_ ?_
         rotate_left
         · intro w' hw'
           obtain ⟨q1, q2, q3, q4⟩ := hread w' hw'
           go_simp
           with_reducible rfl
         simp only [Act.put, List.setIfInBounds_toArray, List.set_cons_zero, List.set_cons_succ])
      refine plan_one rfl (by rfl) (fun K hK => ?_)
      go_simp
      refine (hO.calls (Round_any (n := n3) (m := (jn : Int)) _ hjnI.out)).mono ?_
      rintro e w5 ⟨rfl, rfl⟩
      rw [hv'.out]
      refine hK _ _ hS0 ?_
      clear hK K
      refine plan_one rfl (by rfl) (fun K hK => ?_)
      go_simp
      refine (hO.calls (Cut_cap (B := B) (p := v) (by omega) (hjs'.out.keep (w' := wd) (Nat.le_refl _) (fun b o h => hD5.cell (by omega) (fun e => e))) (by omega))).mono ?_
      rintro e w6 ⟨ca, cm, cc, rfl, hcut, hb6, hnew⟩
      have hS6 : SameBut (fun b => b = g2) w4 w6 := hS0.below hb6
      have hD6 : SameBut (fun _ => False) w4 w6 := hD5.below hb6
      refine hK _ _ hS6 ?_
      clear hK K
      iterate 2
        (refine plan_take ?_ rfl hS6 (by rfl) ?_ ?_
         rotate_left
         · intro w' hw'
           go_simp
           with_reducible rfl
         simp only [Act.put, List.setIfInBounds_toArray, List.set_cons_zero, List.set_cons_succ])
      have hG6 := hG2.same hD6 (fun e => e)
      have hX6 := hX4.same hD6 (fun e => e)
      have hH6 := hG1.same hD6 (fun e => e)
      have y0 : cur2[p * 3 + 1]? = some (.slice ja jn jc) := by rw [← hjve.out]; exact (hcs.out p hps2).2.2.2.1
      have x0 : w6.cell? ⟨g2, p * 3 + 1, none⟩ = some (.slice ja jn jc) := hG6.cell.trans y0
      have x1 : w6.cell? ⟨g2, 0 + p * 3 + 1, none⟩ = some (.slice ja jn jc) := by rw [Nat.zero_add]; exact x0
      have f0 : w6.frozen? ⟨g2, p * 3 + 1, none⟩ = false := hG6.frozen
      have f1 : w6.frozen? ⟨g2, 0 + p * 3 + 1, none⟩ = false := hG6.frozen
      have z6 := hD6.size
      have hcut' := Lib.hid hcut
      clear y0 hcut
      refine plan_one rfl (by rfl) (fun K hK => ?_)
      go_simp
      have SS := hS6.setCell (M := fun b => b = g2) (a := ⟨g2, p * 3 + 1, none⟩) (.inl rfl) (.slice ca cm cc)
      have SX := (SameBut.refl (fun b => b = g2) w6).setCell (M := fun b => b = g2) (a := ⟨g2, p * 3 + 1, none⟩) (.inl rfl) (.slice ca cm cc)
      refine hK _ _ SS ?_
      clear hK K
      unfold planW okN
      go_wp2_with fail
      go_meet
      have hzs : w6.heap.size ≤ (w6.setCell ⟨g2, p * 3 + 1, none⟩ (.slice ca cm cc)).heap.size := by rw [World.size_setCell]; exact Nat.le_refl _
      refine ⟨rfl, jointB x p v, some ⟨g1, 0, none⟩, some ⟨g2, 0, none⟩, pn, c1, sn, c2, hX6.setOther (by omega) _, ⟨woods_row (B := B) (K := kv) (hH6.setOther (by omega) _) hpn.out (by omega) (by omega) (fun j hj => ?_), shapes_row (B := w6.heap.size) (K := fun j => if j = p then .slice ca cm cc else jv j) (hG6.setAt (i := p * 3 + 1) (.slice ca cm cc)) (by unfold jointB; simp [hsn.out]) (by omega) hzs (fun j hj => ?_)⟩, easier_joint hxp, joint_ok hb'.out hxp, ?_⟩
      · obtain ⟨h1, h2, h3, h4⟩ := hcw.out j hj
        exact ⟨h1.keep (Nat.le_refl _) (fun b o h => SS.cell (by omega) (by omega)), h2, h3, h4⟩
      · obtain ⟨h1, h2, h3, h4, h5⟩ := hcs.out j hj
        by_cases e : j = p
        · subst e
          rw [joint_same hxp, if_pos rfl]
          refine ⟨⟨ca, cm, cc, rfl, ?_⟩, h2, by rw [set_get h3, if_neg (by omega)], by rw [set_get h4, if_pos rfl], by rw [set_get h5, if_neg (by omega)]⟩
          have hc := hcut'.out
          rw [← hjl.out] at hc
          refine ⟨hc.len, hc.small, fun l hl => ?_⟩
          obtain ⟨b, o, e, hbb, hcc⟩ := hc.get l hl
          have hb1 := hnew _ e
          exact ⟨b, o, e, hbb, fun l hl => ⟨(SX.cell hbb (by show ¬ b = g2; have h9 : wd.heap.size ≤ b := hb1; omega)).trans (hcc l hl).1, (hcc l hl).2⟩⟩
        · rw [joint_other e, if_neg e]
          exact ⟨h1.keep (by omega) (fun b o h => SS.cell (by omega) (by omega)), h2, by rw [set_get h3, if_neg (by omega)], by rw [set_get h4, if_neg (by omega)], by rw [set_get h5, if_neg (by omega)]⟩
      · exact hs24.trans (SS.mono (fun b h => by omega))
  case rest =>
  as_aux_lemma =>
  obtain ⟨rfl, y, qa, ta, qn, qc, tn, tc, hXy, hy, hE, hyok, hs5⟩ := hcut
  obtain ⟨w5, hw5⟩ : ∃ w5, w5 = wc := ⟨_, rfl⟩
  rw [← hw5] at hXy hy hs5 ⊢
  clear hw5
  have hz5 := hs5.size
  have hbw5 : Below w.heap.size w w5 := hbw2.trans (hs5.toBelow (by omega) (fun b h => by omega))
  have hk5 := hk.same hs5 (by omega)
  have hx5 := Lib.hid (hx0.out.keep (w' := w5) (Nat.le_refl _) (fun b o h => hs5.cell (by omega) (by omega)))
  have hB5 : B ≤ w5.heap.size := by omega
  have hy5 := Lib.hid hy
  have hyi : i < y.planks.length := by rw [hE.pl]; exact hxi
  have hyp : p < y.parts.length := by rw [hE.pa]; exact hxp
  have hask := Lib.hid (ask_zero hb'.out hxi hxp)
  have hasky := Lib.hid (ask_zero hyok hyi hyp)
  have hmost := Lib.hid (hE.most hb'.out hyok)
  have hfew := Lib.hid (hE.fewest hb'.out hyok)
  have hsub : Hid (∀ t, t ∈ spotsL x i p → t ∈ spotsL y i p) := Lib.hid (fun t h => hE.spots hb'.out hyok hxi hxp h)
  have hpI : I64 (p : Int) := by unfold I64; omega
  clear hX4 hG1 hG2 hs4 hn4 hk4 hX4l hG1l hG2l hs24 hcw hcs hx4 hbook4 hBw4 hkv' hjv' hne hg1 hg2 hy hn hn3 hk3 hX hXl hs5 hE hyok
  obtain ⟨bk, hbk⟩ : ∃ bk : Nat, bk = w.heap.size := ⟨_, rfl⟩
  obtain ⟨bX, hbX⟩ : ∃ bX : Nat, bX = w2.heap.size := ⟨_, rfl⟩
  have lk5 := hk5.lt
  have lX5 := hXy.lt
  have q0 : w5.cell? ⟨w.heap.size, 0, none⟩ = some (.slice (some ⟨pb, po, none⟩) pn pc) := hk5.cell
  have q1 : w5.cell? ⟨w.heap.size, 1, none⟩ = some (.slice (some ⟨sb, so, none⟩) sn sc) := hk5.cell
  go_wp2_with fail
  refine (Spots_any (B := B) (i := i) (j := p) hB5 hx5.out hpI).mono ?_
  rintro e w6 ⟨_, rfl, ⟨va, vn, vc, rfl, hv⟩, hb6⟩
  rw [hask.out]
  clear q0 q1
  have hz6 := hb6.size
  have hk6 := hk5.below hb6 lk5
  have hX6 := hXy.below hb6 lX5
  have hx6 := Lib.hid (hx5.out.keep (w' := w6) (Nat.le_refl _) (fun b o h => bcells hb6 b o (by omega)))
  have hy6 := Lib.hid (hy5.out.keep (w' := w6) hz6 (fun b o h => bcells hb6 b o h))
  have hv6 := Lib.hid hv
  have hbw6 := hbw5.trans (hb6.mono hbw5.size)
  have x0 : w6.cell? ⟨w2.heap.size, 0, none⟩ = some (.slice qa qn qc) := hX6.cell
  have x1 : w6.cell? ⟨w2.heap.size, 1, none⟩ = some (.slice ta tn tc) := hX6.cell
  clear hv hb6 hk5 hXy hx5 hy5 hbw5
  go_wp2_with fail
  refine (Spots_any (B := w6.heap.size) (i := i) (j := p) (Nat.le_refl _) hy6.out hpI).mono ?_
  rintro e w7 ⟨_, rfl, ⟨ua, un, uc, rfl, hu⟩, hb7⟩
  rw [hasky.out]
  clear x0 x1
  have hz7 := hb7.size
  have hk7 := hk6.below hb7 hk6.lt
  have hX7 := hX6.below hb7 hX6.lt
  have hx7 := Lib.hid (hx6.out.keep (w' := w7) (Nat.le_refl _) (fun b o h => bcells hb7 b o (by omega)))
  have hy7 := Lib.hid (hy6.out.keep (w' := w7) hz7 (fun b o h => bcells hb7 b o h))
  have hv7 := Lib.hid (hv6.out.keep (w' := w7) hz7 (fun b o h => bcells hb7 b o h))
  have hu7 := Lib.hid hu
  have hbw7 := hbw6.trans (hb7.mono hbw6.size)
  have hvl := Lib.hid hv7.out.len
  have hvs := hv7.out.small
  clear hu hb7 hk6 hX6 hx6 hy6 hv6 hbw6
  go_wp2_with fail
  go_loopw [13] (fun v wr => ∃ k : Nat, k ≤ vn ∧ v = .int .i64 k ∧ Quiet w7 wr) (fun v _ => vn - (intOf v).toNat)
  case atStart => exact ⟨0, by omega, rfl, Quiet.refl _⟩
  case round =>
    obtain ⟨k, hk', rfl, hq⟩ := hrel
    obtain ⟨q, rfl⟩ := hq
    by_cases hlt : k < vn
    · obtain ⟨vb, vo, rfl, hvB, hvc⟩ := hv7.out.get k hlt
      have g1 := (hvc k hlt).1
      have hki : (k : Int) < vn := by omega
      obtain ⟨T, hT⟩ : ∃ T, T = gi (spotsL x i p) k := ⟨_, rfl⟩
      rw [← hT] at g1
      have hfind : 0 ≤ findI (spotsL y i p) T := by
        rw [find_mem]
        refine hsub.out T ?_
        rw [hT, gi_eq (by rw [hvl.out]; exact hlt)]
        exact List.getElem_mem _
      obtain ⟨F, hF⟩ : ∃ F, F = findI (spotsL y i p) T := ⟨_, rfl⟩
      rw [← hF] at hfind
      have hF' := Lib.hid hF
      have huq := Lib.hid (hu7.out.keep (w' := w7.drewN q) (Nat.le_refl _) (fun _ _ _ => rfl))
      clear hvc hT hF
      go_wp2_with (go_at_call 42; refine (Find_any (x := T) huq.out).mono ?_; rintro e w' ⟨rfl, q3, rfl⟩; rw [← hF'.out])
      go_roundw
      case rel => exact ⟨k + 1, by omega, by go_num, ⟨_, rfl⟩⟩
      case measure => simp [intOf]; omega
    · obtain rfl : k = vn := by omega
      have hb8 : Below w7.heap.size w7 (w7.drewN q) := below_drewN (Below.refl _ _) _
      obtain ⟨w8, hw8⟩ : ∃ w8, w8 = w7.drewN q := ⟨_, rfl⟩
      have hw8' := Lib.hid hw8
      have hk8 := hk7.below hb8 hk7.lt
      have hX8 := hX7.below hb8 hX7.lt
      have hx8 := hx7.out.keep (w' := w7.drewN q) (Nat.le_refl _) (fun b o h => rfl)
      have hy8 := hy7.out.keep (w' := w7.drewN q) (Nat.le_refl _) (fun b o h => rfl)
      have hbw8 := hbw7.trans (hb8.mono hbw7.size)
      have hz8 : w7.heap.size ≤ w8.heap.size := by rw [hw8]; exact Nat.le_refl _
      rw [← hw8] at hk8 hX8 hx8 hy8 hbw8 ⊢
      have hx8' := Lib.hid hx8
      have hy8' := Lib.hid hy8
      have q0 : w8.cell? ⟨w.heap.size, 0, none⟩ = some (.slice (some ⟨pb, po, none⟩) pn pc) := hk8.cell
      have q1 : w8.cell? ⟨w.heap.size, 1, none⟩ = some (.slice (some ⟨sb, so, none⟩) sn sc) := hk8.cell
      clear hw8 hw8' hx8 hy8 hb8 hk7 hX7 hx7 hy7 hbw7
      go_wp2_with fail
      refine (Most_any (B := B) (by omega) hx8'.out).mono ?_
      rintro e w9 ⟨a1, b1, d1, rfl, hm1, hb9⟩
      rw [hmost.out.2.1]
      clear q0 q1
      have hz9 := hb9.size
      have hk9 := hk8.below hb9 hk8.lt
      have hX9 := hX8.below hb9 hX8.lt
      have hx9 := Lib.hid (hx8'.out.keep (w' := w9) (Nat.le_refl _) (fun b o h => bcells hb9 b o (by omega)))
      have hy9 := Lib.hid (hy8'.out.keep (w' := w9) (Nat.le_refl _) (fun b o h => bcells hb9 b o (by omega)))
      have hbw9 := hbw8.trans (hb9.mono hbw8.size)
      have hm1l := Lib.hid hm1.len
      have x0 : w9.cell? ⟨w2.heap.size, 0, none⟩ = some (.slice qa qn qc) := hX9.cell
      have x1 : w9.cell? ⟨w2.heap.size, 1, none⟩ = some (.slice ta tn tc) := hX9.cell
      clear hm1 hb9 hk8 hX8 hx8' hy8' hbw8
      go_wp2_with fail
      refine (Most_any (B := w7.heap.size) (by omega) hy9.out).mono ?_
      rintro e w10 ⟨a2, b2, d2, rfl, hm2, hb10⟩
      rw [hmost.out.2.2]
      clear x0 x1
      have hz10 := hb10.size
      have hk10 := hk9.below hb10 hk9.lt
      have hX10 := hX9.below hb10 hX9.lt
      have hx10 := Lib.hid (hx9.out.keep (w' := w10) (Nat.le_refl _) (fun b o h => bcells hb10 b o (by omega)))
      have hy10 := Lib.hid (hy9.out.keep (w' := w10) (Nat.le_refl _) (fun b o h => bcells hb10 b o (by omega)))
      have hbw10 := hbw9.trans (hb10.mono hbw9.size)
      have hle : b1 ≤ b2 := by
        have h1 := hmost.out.1
        have h2 := hm1l.out
        have h3 := hm2.len
        omega
      have q0 : w10.cell? ⟨w.heap.size, 0, none⟩ = some (.slice (some ⟨pb, po, none⟩) pn pc) := hk10.cell
      have q1 : w10.cell? ⟨w.heap.size, 1, none⟩ = some (.slice (some ⟨sb, so, none⟩) sn sc) := hk10.cell
      clear hm2 hb10 hk9 hX9 hx9 hy9 hbw9 hm1l
      go_wp2_with fail
      refine (Fewest_any (B := B) (by omega) hx10.out).mono ?_
      rintro e w11 ⟨a3, b3, d3, rfl, hm3, hb11⟩
      clear q0 q1
      have hz11 := hb11.size
      have hX11 := hX10.below hb11 hX10.lt
      have hy11 := Lib.hid (hy10.out.keep (w' := w11) (Nat.le_refl _) (fun b o h => bcells hb11 b o (by omega)))
      have hbw11 := hbw10.trans (hb11.mono hbw10.size)
      have hm3l := Lib.hid hm3.len
      obtain ⟨G, hGe⟩ : ∃ G, G = (fewestR x).2 := ⟨_, rfl⟩
      obtain ⟨H, hHe⟩ : ∃ H, H = (fewestR y).2 := ⟨_, rfl⟩
      have hGH := Lib.hid (And.intro hGe hHe)
      rw [← hGe]
      clear hGe hHe
      have x0 : w11.cell? ⟨w2.heap.size, 0, none⟩ = some (.slice qa qn qc) := hX11.cell
      have x1 : w11.cell? ⟨w2.heap.size, 1, none⟩ = some (.slice ta tn tc) := hX11.cell
      clear hm3 hb11 hk10 hX10 hx10 hy10 hbw10
      go_wp2_with fail
      refine (Fewest_any (B := w7.heap.size) (by omega) hy11.out).mono ?_
      rintro e w12 ⟨a4, b4, d4, rfl, hm4, hb12⟩
      rw [← hGH.out.2]
      have hbw12 := hbw11.trans (hb12.mono hbw11.size)
      have hdec : (G = 0 ∧ H = 0 ∧ b4 ≤ b3) ∨ (G ≠ 0 ∧ (H = 0 ∨ H = 4)) := by
        rw [hGH.out.1, hGH.out.2]
        have h2 := hm3l.out
        have h3 := hm4.len
        rcases hfew.out with ⟨e1, e2, e3⟩ | ⟨e1, e2⟩
        · exact .inl ⟨e1, e2, by omega⟩
        · exact .inr ⟨e1, e2⟩
      clear x0 x1 hm4 hb12 hX11 hy11 hbw11 hGH hm3l
      have hle' : (b1 : Int) ≤ b2 := by omega
      rcases hdec with ⟨rfl, rfl, h4⟩ | ⟨h4, _⟩
      · have h5 : (b4 : Int) ≤ b3 := by omega
        go_wp2_with fail
        refine (sawn_any _).mono ?_
        rintro e w13 ⟨rfl, hb13⟩
        go_wp2_with fail
        go_ret
        exact ⟨rfl, hbw12.trans (hb13.mono hbw12.size)⟩
      · have h5 : (G != 0) = true := by simp [h4]
        clear h4
        go_wp2_with fail
        refine (sawn_any _).mono ?_
        rintro e w13 ⟨rfl, hb13⟩
        go_wp2_with fail
        go_ret
        exact ⟨rfl, hbw12.trans (hb13.mono hbw12.size)⟩
end Go.Proofs.Ytilbkmogmlcpaaa
