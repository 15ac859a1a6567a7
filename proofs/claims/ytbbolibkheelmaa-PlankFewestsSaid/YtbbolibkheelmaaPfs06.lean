/- Walks: a book of some of its planks, and some of its parts. Plain mathematics: a book of some of its planks and parts, and what can be cut in it. Walks: can all parts of a set be cut from the planks of another one? -/
import Derived.Test.YtbbolibkheelmaaPfs02
import Derived.Test.YtbbolibkheelmaaGa08
import Derived.Test.YtbbolibkheelmaaGa14
import Derived.Deep.DeepCutAuto
import Derived.Test.YtbbolibkheelmaaPfs05
namespace Go.Proofs.Ytbbolibkheelmaa
open Go.RowKit Go.Shelf

def subN (s n : Nat) : List Nat := (List.range n).filter (hasN s)
theorem subN_succ (s k : Nat) : subN s (k + 1) = subN s k ++ (if hasN s k = true then [k] else []) := by
  unfold subN
  rw [List.range_succ, List.filter_append]
  cases h : hasN s k <;> simp [h]
theorem subN_len (s k : Nat) : (subN s k).length ≤ k := by
  have := List.length_filter_le (hasN s) (List.range k)
  rwa [List.length_range] at this
theorem subN_mem {s k i : Nat} (h : i ∈ subN s k) : i < k ∧ hasN s i = true := by
  unfold subN at h
  rw [List.mem_filter, List.mem_range] at h
  exact h
/-- A book of some planks and some parts. -/
def onlyB (x : Book) (S s : Nat) : Book := ⟨(subN S x.planks.length).map (gw x.planks), (subN s x.parts.length).map (gs x.parts)⟩

theorem shapeInfo : (Try.prog.info? 50).map (fun i => (i.zero, i.size, i.bytes)) = some (some (.agg #[.int .i64 0, .slice none 0 0, .bool false]), 3, 40) := by kernel_rfl
theorem shapesUnder : Try.prog.underlying 23 = some (.slice 50) := by kernel_rfl

theorem flat_get {α : Type} {L : List Nat} {f : Nat → List α} {m : Nat} (hf : ∀ i, (f i).length = m) {i j : Nat} (hi : i < L.length) (hj : j < m) : (L.flatMap f)[i * m + j]? = (f L[i])[j]? := by
  induction L generalizing i with
  | nil => simp at hi
  | cons a L ih =>
    rw [List.flatMap_cons]
    cases i with
    | zero => rw [Nat.zero_mul, Nat.zero_add, List.getElem?_append_left (by rw [hf]; exact hj)]; rfl
    | succ i =>
      have h1 : (i + 1) * m + j = m + (i * m + j) := by rw [Nat.succ_mul]; omega
      rw [List.getElem?_append_right (by rw [hf, h1]; omega), hf, h1, Nat.add_sub_cancel_left, ih (by simpa using hi)]
      rfl
def woodC (x : Book) (kv : Nat → Value) (i : Nat) : List Value := [.int .i64 (gw x.planks i).long, kv i]
def shapeC (x : Book) (jv : Nat → Value) (i : Nat) : List Value := [.int .i64 (gs x.parts i).long, jv i, .bool (gs x.parts i).turns]

theorem add_at (b o i : Nat) : (⟨b, o, none⟩ : Addr).add i = ⟨b, o + i, none⟩ := by
  unfold Addr.add
  split
  · rename_i h; rw [h]; rfl
  · rfl
/-- One element more behind a slice of one's own. -/
theorem grow_row {w : World} {base n e sl size bytes : Nat} {z : Value} {va : Option Addr} {vn vc : Nat} {xs news : List Value} (hinfo : (Try.prog.info? e).map (fun i => (i.zero, i.size, i.bytes)) = some (some z, size, bytes)) (hu : Try.prog.underlying sl = some (.slice e))
    (hz : z.cells.size = size) (h0 : 0 < size) (hby : bytes ≤ 1000) (hown : w.ownsRow base e size (.slice va vn vc) n xs) (hl : news.length = size) (h1 : ∀ u ∈ news, u.oneCell' = true) (hn : n ≤ 1000) (hb : base ≤ w.heap.size) :
    ∃ v' w', (appendS #[sl, sl] sl #[.slice va vn vc, .slice (some ⟨w.heap.size, 0, none⟩) 1 1]).run Try.prog (w.alloc (.cells news.toArray e)) = .ok v' w' ∧
      w'.ownsRow base e size v' (n + 1) (xs ++ news) ∧ SameBut (fun i => base ≤ i) w w' := by
  obtain ⟨i0, hi, hz0, hz1, hz2⟩ := info_parts hinfo
  obtain ⟨v', w7, hap, hown7, hgr7, _, _⟩ := run_append_own_at (P := Try.prog) (w := w.alloc (.cells news.toArray e)) base sl sl e i0 z size bytes hu hi hz0 hz1 hz2 hz h0 (.slice va vn vc) _ _ (hown.alloc _) ⟨w.heap.size, 0, none⟩ 1 1 news (by rw [hl, Nat.one_mul])
    (fun j u hj => by
      have := (Blk.new w news.toArray e).cell (i := j)
      rw [add_at, Nat.zero_add, this]
      simpa using hj)
    h1 (by unfold maxLen; omega) (by have : (n + 1) * bytes ≤ 1001 * 1000 := Nat.mul_le_mul (by omega) hby
                                     omega) (by simp; omega)
  have hlt6 := hown.lt
  exact ⟨v', w7, hap, hown7, ((SameBut.refl _ w).alloc _).trans (same_grown hgr7 (fun k h => (hlt6 k h).1))⟩
theorem own_get {w : World} {base e size n : Nat} {v : Value} {xs : List Value} (h : w.ownsRow base e size v n xs) (hn : n ≤ 1000) :
    ∃ a c, v = .slice a n c ∧ ∀ i, i < n → ∃ g, a = some ⟨g, 0, none⟩ ∧ g < w.heap.size ∧ base ≤ g ∧ ∀ k u, xs[k]? = some u → w.cell? ⟨g, k, none⟩ = some u := by
  obtain ⟨h1, h2⟩ := h
  rcases h2 with ⟨rfl, rfl⟩ | ⟨g, cap, cur, rfl, hb, hg, hc, hm, hs, ht⟩
  · exact ⟨none, 0, rfl, fun i hi => absurd hi (by omega)⟩
  · refine ⟨some ⟨g, 0, none⟩, cap, rfl, fun i hi => ⟨g, rfl, (Array.getElem?_eq_some_iff.1 hg).1, hb, fun k u hk => ?_⟩⟩
    have hbl : Blk w g cur := ⟨_, hg⟩
    have hkl : k < n * size := by
      have := (List.getElem?_eq_some_iff.1 hk).1
      omega
    rw [hbl.cell, ← Array.getElem?_toList, ← List.getElem?_take_of_lt hkl, ht]
    exact hk
theorem woods_own {w : World} {base B : Nat} {x : Book} {kv : Nat → Value} {L : List Nat} {v : Value} (h : w.ownsRow base 48 2 v L.length (L.flatMap (woodC x kv))) (hl : L.length ≤ 1000) (hB : B ≤ w.heap.size)
    (hk : ∀ i ∈ L, KnotsV B w (kv i) (gw x.planks i) ∧ I64 (gw x.planks i).long) : ∃ a n c, v = .slice a n c ∧ WoodsAt w.heap.size w a n (L.map (gw x.planks)) := by
  obtain ⟨a, c, rfl, hg⟩ := own_get h hl
  refine ⟨a, _, c, rfl, ⟨by rw [List.length_map], by omega, fun i hi => ?_⟩⟩
  obtain ⟨g, rfl, hlt, _, hc⟩ := hg i hi
  refine ⟨g, 0, rfl, hlt, fun j hj => ?_⟩
  have e : gw (L.map (gw x.planks)) j = gw x.planks L[j] := by
    show (L.map (gw x.planks)).getD j _ = _
    rw [List.getD_eq_getElem?_getD, List.getElem?_map, List.getElem?_eq_getElem hj]; rfl
  obtain ⟨k1, k2⟩ := hk _ (List.getElem_mem hj)
  rw [e]
  refine ⟨kv L[j], k1.keep hB (fun _ _ _ => rfl), ?_, ?_, k2⟩
  · rw [Nat.zero_add]
    exact hc (j * 2) _ ((flat_get (m := 2) (fun _ => rfl) hj (j := 0) (by omega)).trans rfl)
  · rw [Nat.zero_add]
    exact hc (j * 2 + 1) _ ((flat_get (m := 2) (fun _ => rfl) hj (j := 1) (by omega)).trans rfl)
theorem shapes_own {w : World} {base B : Nat} {x : Book} {jv : Nat → Value} {L : List Nat} {v : Value} (h : w.ownsRow base 50 3 v L.length (L.flatMap (shapeC x jv))) (hl : L.length ≤ 1000) (hB : B ≤ w.heap.size)
    (hk : ∀ i ∈ L, JointsV B w (jv i) (gs x.parts i) ∧ I64 (gs x.parts i).long) : ∃ a n c, v = .slice a n c ∧ ShapesAt w.heap.size w a n (L.map (gs x.parts)) := by
  obtain ⟨a, c, rfl, hg⟩ := own_get h hl
  refine ⟨a, _, c, rfl, ⟨by rw [List.length_map], by omega, fun i hi => ?_⟩⟩
  obtain ⟨g, rfl, hlt, _, hc⟩ := hg i hi
  refine ⟨g, 0, rfl, hlt, fun j hj => ?_⟩
  have e : gs (L.map (gs x.parts)) j = gs x.parts L[j] := by
    show (L.map (gs x.parts)).getD j _ = _
    rw [List.getD_eq_getElem?_getD, List.getElem?_map, List.getElem?_eq_getElem hj]; rfl
  obtain ⟨k1, k2⟩ := hk _ (List.getElem_mem hj)
  rw [e]
  refine ⟨jv L[j], k1.keep hB (fun _ _ _ => rfl), ?_, ?_, ?_, k2⟩
  · rw [Nat.zero_add]
    exact hc (j * 3) _ ((flat_get (m := 3) (fun _ => rfl) hj (j := 0) (by omega)).trans rfl)
  · rw [Nat.zero_add]
    exact hc (j * 3 + 1) _ ((flat_get (m := 3) (fun _ => rfl) hj (j := 1) (by omega)).trans rfl)
  · rw [Nat.zero_add]
    exact hc (j * 3 + 2) _ ((flat_get (m := 3) (fun _ => rfl) hj (j := 2) (by omega)).trans rfl)

/-- The second cells of planks, of parts, one by one. -/
theorem woods_cells {B : Nat} {w : World} {a : Option Addr} {n : Nat} {x : Book} (h : WoodsAt B w a n x.planks) (h0 : 0 < n) : ∃ (b o : Nat) (kv : Nat → Value), a = some ⟨b, o, none⟩ ∧ b < B ∧ ∀ i, i < n → KnotsV B w (kv i) (gw x.planks i) ∧ w.cell? ⟨b, o + i * 2, none⟩ = some (.int .i64 (gw x.planks i).long) ∧ w.cell? ⟨b, o + i * 2 + 1, none⟩ = some (kv i) ∧ I64 (gw x.planks i).long := by
  obtain ⟨b, o, rfl, hb, hc⟩ := h.get 0 h0
  refine ⟨b, o, fun i => if hi : i < n then (hc i hi).choose else undef, rfl, hb, fun i hi => ?_⟩
  simp only [dif_pos hi]
  exact (hc i hi).choose_spec
theorem shapes_cells {B : Nat} {w : World} {a : Option Addr} {n : Nat} {x : Book} (h : ShapesAt B w a n x.parts) (h0 : 0 < n) : ∃ (b o : Nat) (jv : Nat → Value), a = some ⟨b, o, none⟩ ∧ b < B ∧ ∀ i, i < n → JointsV B w (jv i) (gs x.parts i) ∧ w.cell? ⟨b, o + i * 3, none⟩ = some (.int .i64 (gs x.parts i).long) ∧ w.cell? ⟨b, o + i * 3 + 1, none⟩ = some (jv i) ∧ w.cell? ⟨b, o + i * 3 + 2, none⟩ = some (.bool (gs x.parts i).turns) ∧ I64 (gs x.parts i).long := by
  obtain ⟨b, o, rfl, hb, hc⟩ := h.get 0 h0
  refine ⟨b, o, fun i => if hi : i < n then (hc i hi).choose else undef, rfl, hb, fun i hi => ?_⟩
  simp only [dif_pos hi]
  exact (hc i hi).choose_spec

attribute [local go_sem ↓] append_alias

set_option maxRecDepth 100000 in
set_option maxHeartbeats 4000000 in
theorem only_any {B : Nat} {pa sa : Option Addr} {pn pc sn sc S s : Nat} {x : Book} {w : World} (hB : B ≤ w.heap.size) (hx : BookAt B w pa pn sa sn x) (h1 : 0 < pn) (h2 : pn ≤ 5) (h3 : 0 < sn) (h4 : sn ≤ 5) (hS : S < 32) (hs32 : s < 32) :
    Calls Try.prog 91 #[.agg #[.slice pa pn pc, .slice sa sn sc], .int .i64 S, .int .i64 s] w fun e w' => ∃ qa qn qc ta tn tc, e = .returned (.agg #[.slice qa qn qc, .slice ta tn tc]) ∧ BookAt w'.heap.size w' qa qn ta tn (onlyB x S s) ∧ Below w.heap.size w w' := by
  have hpn := Lib.hid hx.planks.len
  have hsn := Lib.hid hx.parts.len
  obtain ⟨W0, hW0⟩ : ∃ W0, W0 = ((w.alloc (.cells #[.slice pa pn pc, .slice sa sn sc] 25)).alloc (.cells #[.slice none 0 0, .slice none 0 0] 25)).alloc (.cells #[.slice none 0 0, .slice none 0 0] 25) := ⟨_, rfl⟩
  have hb0 : Below w.heap.size w W0 := by rw [hW0]; exact (((Below.refl _ _).alloc (Nat.le_refl _) _).alloc (by simp) _).alloc (by simp; omega) _
  have hk0 : Blk W0 w.heap.size #[.slice pa pn pc, .slice sa sn sc] := by rw [hW0]; exact ((Blk.new w _ _).alloc _).alloc _
  have hr0 : Blk W0 (w.heap.size + 1) #[.slice none 0 0, .slice none 0 0] := by
    rw [hW0]
    have := Blk.new (w.alloc (.cells #[.slice pa pn pc, .slice sa sn sc] 25)) #[.slice none 0 0, .slice none 0 0] 25
    rw [World.size_alloc] at this
    exact this.alloc _
  have hX0 : Blk W0 (w.heap.size + 2) #[.slice none 0 0, .slice none 0 0] := by
    rw [hW0]
    have := Blk.new ((w.alloc (.cells #[.slice pa pn pc, .slice sa sn sc] 25)).alloc (.cells #[.slice none 0 0, .slice none 0 0] 25)) #[.slice none 0 0, .slice none 0 0] 25
    rw [World.size_alloc, World.size_alloc] at this
    exact this
  have hz0 : W0.heap.size = w.heap.size + 3 := by rw [hW0]; simp
  have hx0 := hx.keep (w' := W0) (Nat.le_refl _) (fun b o h => bcells hb0 b o (by omega))
  clear hx
  obtain ⟨pb, po, kv, rfl, hpB, hkv⟩ := woods_cells hx0.planks h1
  obtain ⟨sb, so, jv, rfl, hsB, hjv⟩ := shapes_cells hx0.parts h3
  have hkv' := Lib.hid hkv
  have hjv' := Lib.hid hjv
  clear hkv hjv hx0
  go_enter Try.func91, Try.ntmps91
  go_wp2_with (fail)
  rw [← hW0]
  clear hW0
  go_loopw [8] (fun v wr => ∃ (k : Nat) (va : Option Addr) (vn vc : Nat), k ≤ pn ∧ v = .int .i64 k ∧ Blk wr (w.heap.size + 2) #[.slice va vn vc, .slice none 0 0] ∧ wr.ownsRow (w.heap.size + 3) 48 2 (.slice va vn vc) (subN S k).length ((subN S k).flatMap (woodC x kv)) ∧ SameBut (fun b => w.heap.size + 2 ≤ b) W0 wr) (fun v _ => pn - (intOf v).toNat)
  case atStart => exact ⟨0, none, 0, 0, by omega, rfl, hX0, ⟨rfl, .inl ⟨rfl, rfl⟩⟩, SameBut.refl _ _⟩
  case round =>
    obtain ⟨k, va, vn, vc, hk, rfl, hX, hown, hs⟩ := hrel
    have hkr := hk0.same hs (by omega)
    have q0 : wr.cell? ⟨w.heap.size, 0, none⟩ = some (.slice (some ⟨pb, po, none⟩) pn pc) := hkr.cell
    have q1 : wr.cell? ⟨w.heap.size, 1, none⟩ = some (.slice (some ⟨sb, so, none⟩) sn sc) := hkr.cell
    have hzr := hs.size
    by_cases hlt : k < pn
    · have hki : (k : Int) < pn := by omega
      have dk : decide ((k : Int) < pn) = true := decide_eq_true hki
      have hsu := subN_succ S k
      have hsl := subN_len S k
      rcases Bool.eq_false_or_eq_true (hasN S k) with hh | hh
      · rw [if_pos hh] at hsu
        have hh' := Lib.hid hh
        have hsu' := Lib.hid hsu
        clear hh hsu
        go_wp2_with (go_at_call 90; refine (Of_any _ hS (by omega)).mono ?_; rintro e w' ⟨rfl, rfl⟩; rw [hh'.out])
        obtain ⟨k1, k2, k3, k4⟩ := hkv'.out k hlt
        obtain ⟨ka, kn, kc, ke, hks⟩ := k1
        have hke := Lib.hid ke
        rw [ke] at k3
        obtain ⟨L, hL⟩ : ∃ L, L = (gw x.planks k).long := ⟨_, rfl⟩
        rw [← hL] at k2
        have hL' := Lib.hid hL
        clear ke hks hL k4
        have hF0 : SameBut (fun b => w.heap.size + 3 ≤ b) wr wr.drew := (SameBut.refl _ _).drew
        have hread : ∀ w', SameBut (fun b => w.heap.size + 3 ≤ b) wr w' → w'.cell? ⟨w.heap.size, 0, none⟩ = some (.slice (some ⟨pb, po, none⟩) pn pc) ∧ w'.cell? ⟨w.heap.size + 2, 0, none⟩ = some (.slice va vn vc) ∧ w'.cell? ⟨pb, po + k * 2, none⟩ = some (.int .i64 L) ∧ w'.cell? ⟨pb, po + k * 2 + 1, none⟩ = some (.slice ka kn kc) := fun w' h =>
          ⟨(hkr.same h (by omega)).cell, (hX.same h (by omega)).cell, ((h.cell (by omega) (by omega)).trans (hs.cell (by omega) (by omega))).trans k2, ((h.cell (by omega) (by omega)).trans (hs.cell (by omega) (by omega))).trans k3⟩
        clear q0 q1 k2 k3
        have hO := open_wide
        have hF := hO.fn
        have hd := hO.depth
        refine region_planW (fun w' => SameBut (fun b => w.heap.size + 3 ≤ b) wr w') [(0, true), (1, true), (2, true), (3, true), (4, true), (5, true), (6, true), (7, false), (8, false), (9, true), (10, false)] (by kernel_rfl) (by kernel_rfl) (by kernel_rfl) (by decide) (by kernel_rfl) ?_
        have hown6 : wr.drew.ownsRow (w.heap.size + 3) 48 2 (.slice va vn vc) (subN S k).length ((subN S k).flatMap (woodC x kv)) := own_same hown ((SameBut.refl (fun _ => False) wr).drew) (fun _ _ h => h)
        obtain ⟨wd, hwd⟩ : ∃ wd, wd = wr.drew := ⟨_, rfl⟩
        rw [← hwd] at hF0 hown6 ⊢
        have hzd : wd.heap.size = wr.heap.size := by rw [hwd]; rfl
        have hzd2 : w.heap.size + 3 ≤ wd.heap.size := by omega
        clear hwd hzd
        iterate 7
          (refine plan_take ?_ rfl hF0 (by rfl) ?_ ?_
           rotate_left
           · intro w' hw'
             obtain ⟨q1, q2, q3, q4⟩ := hread w' hw'
             go_simp
             with_reducible rfl
           simp only [Act.put, List.setIfInBounds_toArray, List.set_cons_zero, List.set_cons_succ])
        refine plan_one rfl (by rfl) (fun K hK => ?_)
        go_simp
        refine hK _ _ (hF0.alloc _) ?_
        clear hK K
        obtain ⟨v', w7, hap, hown7, hs7⟩ := grow_row woodInfo woodsUnder rfl (by decide) (by decide) hown6 (news := [.int .i64 L, .slice ka kn kc]) rfl (fun u hu => by simp at hu; rcases hu with rfl | rfl <;> rfl) (by omega) hzd2
        have hS7 := hF0.trans hs7
        obtain ⟨ua, un, uc, hu⟩ := own_slice hown7
        subst hu
        have hown8 : Hid (w7.ownsRow (w.heap.size + 3) 48 2 (.slice ua un uc) (subN S (k + 1)).length ((subN S (k + 1)).flatMap (woodC x kv))) := Lib.hid (by
          rw [hsu'.out, List.length_append, List.flatMap_append]
          have e : woodC x kv k = [.int .i64 L, .slice ka kn kc] := by unfold woodC; rw [hke.out, hL'.out]
          show w7.ownsRow _ _ _ _ ((subN S k).length + 1) (_ ++ [k].flatMap (woodC x kv))
          rw [show [k].flatMap (woodC x kv) = woodC x kv k by simp, e]
          exact hown7)
        have hX7 := hX.same hS7 (by omega)
        have x0 : w7.cell? ⟨w.heap.size + 2, 0, none⟩ = some (.slice va vn vc) := hX7.cell
        have xf : w7.frozen? ⟨w.heap.size + 2, 0, none⟩ = false := hX7.frozen
        clear hown7 hown6
        refine plan_one rfl (by rfl) (fun K hK => ?_)
        go_simp
        refine hK _ _ hS7 ?_
        clear hK K hap
        iterate 1
          (refine plan_take ?_ rfl hS7 (by rfl) ?_ ?_
           rotate_left
           · intro w' hw'
             go_simp
             with_reducible rfl
           simp only [Act.put, List.setIfInBounds_toArray, List.set_cons_zero, List.set_cons_succ])
        refine plan_last (by kernel_rfl) rfl (by rfl) (fun K hK => ?_)
        go_simp
        refine hK _ _ ?_
        clear hK K
        unfold planW okN
        go_wp2_with fail
        go_roundw
        case rel => exact ⟨k + 1, ua, un, uc, by omega, by go_num, hX7.setAt (i := 0) (.slice ua un uc), own_same hown8.out ((SameBut.refl (fun b => b = w.heap.size + 2) w7).setCell (M := fun b => b = w.heap.size + 2) (.inl rfl) _) (fun g hg e => by have := (hown8.out.lt g hg).1; omega), (hs.trans (hS7.mono (fun b h => by omega))).setCell (M := fun b => w.heap.size + 2 ≤ b) (.inl (Nat.le_refl _)) _⟩
        case measure => simp [intOf]; omega
      · have hsu' : Hid (subN S (k + 1) = subN S k) := Lib.hid (by rw [hsu, if_neg (by rw [hh]; simp), List.append_nil])
        have hh' := Lib.hid hh
        clear hh hsu
        go_wp2_with (go_at_call 90; refine (Of_any _ hS (by omega)).mono ?_; rintro e w' ⟨rfl, rfl⟩; rw [hh'.out])
        go_roundw
        case rel => exact ⟨k + 1, va, vn, vc, by omega, by go_num, hX, by rw [hsu'.out]; exact hown, hs⟩
        case measure => simp [intOf]; omega
    · obtain rfl : k = pn := by omega
      have dk : decide ((k : Int) < k) = false := decide_eq_false (by omega)
      go_wp2_with (fail)
      obtain ⟨W1, hW1⟩ : ∃ W1, W1 = wr := ⟨_, rfl⟩
      rw [← hW1] at hX hown hs hkr hzr ⊢
      clear hW1 q0 q1 dk hX0
      have hr1 := hr0.same hs (by omega)
      go_loopw [9] (fun v wr => ∃ (j : Nat) (ta : Option Addr) (tn tc : Nat), j ≤ sn ∧ v = .int .i64 j ∧ Blk wr (w.heap.size + 2) #[.slice va vn vc, .slice ta tn tc] ∧ wr.ownsRow W1.heap.size 50 3 (.slice ta tn tc) (subN s j).length ((subN s j).flatMap (shapeC x jv)) ∧ SameBut (fun b => b = w.heap.size + 2 ∨ W1.heap.size ≤ b) W1 wr) (fun v _ => sn - (intOf v).toNat)
      case atStart => exact ⟨0, none, 0, 0, by omega, rfl, hX, ⟨rfl, .inl ⟨rfl, rfl⟩⟩, SameBut.refl _ _⟩
      case round =>
        obtain ⟨j, ta, tn, tc, hj, rfl, hY, hown2, hs2⟩ := hrel
        have hk2 := hkr.same hs2 (by omega)
        have q0 : wr.cell? ⟨w.heap.size, 0, none⟩ = some (.slice (some ⟨pb, po, none⟩) k pc) := hk2.cell
        have q1 : wr.cell? ⟨w.heap.size, 1, none⟩ = some (.slice (some ⟨sb, so, none⟩) sn sc) := hk2.cell
        have hz2 := hs2.size
        by_cases hlt2 : j < sn
        · have hji : (j : Int) < sn := by omega
          have dj : decide ((j : Int) < sn) = true := decide_eq_true hji
          have hsu := subN_succ s j
          have hsl := subN_len s j
          rcases Bool.eq_false_or_eq_true (hasN s j) with hh | hh
          · rw [if_pos hh] at hsu
            have hh' := Lib.hid hh
            have hsu' := Lib.hid hsu
            clear hh hsu
            go_wp2_with (go_at_call 90; refine (Of_any _ hs32 (by omega)).mono ?_; rintro e w' ⟨rfl, rfl⟩; rw [hh'.out])
            obtain ⟨k1, k2, k3, k4, k5⟩ := hjv'.out j hlt2
            obtain ⟨ka, kn, kc, ke, hks⟩ := k1
            have hke := Lib.hid ke
            rw [ke] at k3
            obtain ⟨L, hL⟩ : ∃ L, L = (gs x.parts j).long := ⟨_, rfl⟩
            obtain ⟨T, hT⟩ : ∃ T, T = (gs x.parts j).turns := ⟨_, rfl⟩
            rw [← hL] at k2
            rw [← hT] at k4
            have hL' := Lib.hid hL
            have hT' := Lib.hid hT
            clear ke hks hL hT k5
            have hF0 : SameBut (fun b => W1.heap.size ≤ b) wr wr.drew := (SameBut.refl _ _).drew
            have hss : SameBut (fun b => w.heap.size + 2 ≤ b) W0 wr := hs.trans (hs2.mono (fun b h => by omega))
            have hread : ∀ w', SameBut (fun b => W1.heap.size ≤ b) wr w' → w'.cell? ⟨w.heap.size, 1, none⟩ = some (.slice (some ⟨sb, so, none⟩) sn sc) ∧ w'.cell? ⟨w.heap.size + 2, 1, none⟩ = some (.slice ta tn tc) ∧ w'.cell? ⟨sb, so + j * 3, none⟩ = some (.int .i64 L) ∧ w'.cell? ⟨sb, so + j * 3 + 1, none⟩ = some (.slice ka kn kc) ∧ w'.cell? ⟨sb, so + j * 3 + 2, none⟩ = some (.bool T) := fun w' h =>
              ⟨(hk2.same h (by omega)).cell, (hY.same h (by omega)).cell, ((h.cell (by omega) (by omega)).trans (hss.cell (by omega) (by omega))).trans k2, ((h.cell (by omega) (by omega)).trans (hss.cell (by omega) (by omega))).trans k3, ((h.cell (by omega) (by omega)).trans (hss.cell (by omega) (by omega))).trans k4⟩
            clear q0 q1 k2 k3 k4
            have hO := open_wide
            have hF := hO.fn
            have hd := hO.depth
            refine region_planW (fun w' => SameBut (fun b => W1.heap.size ≤ b) wr w') [(0, true), (1, true), (2, true), (3, true), (4, true), (5, true), (6, true), (7, false), (8, false), (9, true), (10, false)] (by kernel_rfl) (by kernel_rfl) (by kernel_rfl) (by decide) (by kernel_rfl) ?_
            have hown6 : wr.drew.ownsRow W1.heap.size 50 3 (.slice ta tn tc) (subN s j).length ((subN s j).flatMap (shapeC x jv)) := own_same hown2 ((SameBut.refl (fun _ => False) wr).drew) (fun _ _ h => h)
            obtain ⟨wd, hwd⟩ : ∃ wd, wd = wr.drew := ⟨_, rfl⟩
            rw [← hwd] at hF0 hown6 ⊢
            have hzd : wd.heap.size = wr.heap.size := by rw [hwd]; rfl
            have hzd2 : W1.heap.size ≤ wd.heap.size := by omega
            clear hwd hzd
            iterate 7
              (refine plan_take ?_ rfl hF0 (by rfl) ?_ ?_
               rotate_left
               · intro w' hw'
                 obtain ⟨q1, q2, q3, q4, q5⟩ := hread w' hw'
                 go_simp
                 with_reducible rfl
               simp only [Act.put, List.setIfInBounds_toArray, List.set_cons_zero, List.set_cons_succ])
            refine plan_one rfl (by rfl) (fun K hK => ?_)
            go_simp
            refine hK _ _ (hF0.alloc _) ?_
            clear hK K
            obtain ⟨v', w7, hap, hown7, hs7⟩ := grow_row shapeInfo shapesUnder rfl (by decide) (by decide) hown6 (news := [.int .i64 L, .slice ka kn kc, .bool T]) rfl (fun u hu => by simp at hu; rcases hu with rfl | rfl | rfl <;> rfl) (by omega) hzd2
            have hS7 := hF0.trans hs7
            obtain ⟨ua, un, uc, hu⟩ := own_slice hown7
            subst hu
            have hown8 : Hid (w7.ownsRow W1.heap.size 50 3 (.slice ua un uc) (subN s (j + 1)).length ((subN s (j + 1)).flatMap (shapeC x jv))) := Lib.hid (by
              rw [hsu'.out, List.length_append, List.flatMap_append]
              have e : shapeC x jv j = [.int .i64 L, .slice ka kn kc, .bool T] := by unfold shapeC; rw [hke.out, hL'.out, hT'.out]
              show w7.ownsRow _ _ _ _ ((subN s j).length + 1) (_ ++ [j].flatMap (shapeC x jv))
              rw [show [j].flatMap (shapeC x jv) = shapeC x jv j by simp, e]
              exact hown7)
            have hY7 := hY.same hS7 (by omega)
            have x0 : w7.cell? ⟨w.heap.size + 2, 1, none⟩ = some (.slice ta tn tc) := hY7.cell
            have xf : w7.frozen? ⟨w.heap.size + 2, 1, none⟩ = false := hY7.frozen
            clear hown7 hown6
            refine plan_one rfl (by rfl) (fun K hK => ?_)
            go_simp
            refine hK _ _ hS7 ?_
            clear hK K hap
            iterate 1
              (refine plan_take ?_ rfl hS7 (by rfl) ?_ ?_
               rotate_left
               · intro w' hw'
                 go_simp
                 with_reducible rfl
               simp only [Act.put, List.setIfInBounds_toArray, List.set_cons_zero, List.set_cons_succ])
            refine plan_last (by kernel_rfl) rfl (by rfl) (fun K hK => ?_)
            go_simp
            refine hK _ _ ?_
            clear hK K
            unfold planW okN
            go_wp2_with fail
            go_roundw
            case rel => exact ⟨j + 1, ua, un, uc, by omega, by go_num, hY7.setAt (i := 1) (.slice ua un uc), own_same hown8.out ((SameBut.refl (fun b => b = w.heap.size + 2) w7).setCell (M := fun b => b = w.heap.size + 2) (.inl rfl) _) (fun g hg e => by have := (hown8.out.lt g hg).1; omega), (hs2.trans (hS7.mono (fun b h => .inr h))).setCell (M := fun b => b = w.heap.size + 2 ∨ W1.heap.size ≤ b) (.inl (.inl rfl)) _⟩
            case measure => simp [intOf]; omega
          · have hsu' : Hid (subN s (j + 1) = subN s j) := Lib.hid (by rw [hsu, if_neg (by rw [hh]; simp), List.append_nil])
            have hh' := Lib.hid hh
            clear hh hsu
            go_wp2_with (go_at_call 90; refine (Of_any _ hs32 (by omega)).mono ?_; rintro e w' ⟨rfl, rfl⟩; rw [hh'.out])
            go_roundw
            case rel => exact ⟨j + 1, ta, tn, tc, by omega, by go_num, hY, by rw [hsu'.out]; exact hown2, hs2⟩
            case measure => simp [intOf]; omega
        · obtain rfl : j = sn := by omega
          have dj : decide ((j : Int) < j) = false := decide_eq_false (by omega)
          have x0 : wr.cell? ⟨w.heap.size + 2, 0, none⟩ = some (.slice va vn vc) := hY.cell
          have x1 : wr.cell? ⟨w.heap.size + 2, 1, none⟩ = some (.slice ta tn tc) := hY.cell
          have hr2 := hr1.same hs2 (by omega)
          have r0 : wr.cell? ⟨w.heap.size + 1, 0, none⟩ = some (.slice none 0 0) := hr2.cell
          have r1 : wr.cell? ⟨w.heap.size + 1, 1, none⟩ = some (.slice none 0 0) := hr2.cell
          have f0 : wr.frozen? ⟨w.heap.size + 1, 0, none⟩ = false := hr2.frozen
          have f1 : wr.frozen? ⟨w.heap.size + 1, 1, none⟩ = false := hr2.frozen
          have hown1 := own_same hown hs2 (fun g hg e => by have := hown.lt g hg; omega)
          have hss : SameBut (fun b => w.heap.size + 2 ≤ b) W0 wr := hs.trans (hs2.mono (fun b h => by omega))
          have hbw : Below w.heap.size w wr := hb0.trans (hss.toBelow (by omega) (fun b h => by omega))
          have hfin : ∀ w9, SameBut (fun b => b = w.heap.size + 1) wr w9 → BookAt w9.heap.size w9 va vn ta tn (onlyB x S s) ∧ Below w.heap.size w w9 := by
            intro w9 h9
            have hz9 := h9.size
            have o1 := own_same hown1 h9 (fun g hg e => by have := (hown1.lt g hg).1; omega)
            have o2 := own_same hown2 h9 (fun g hg e => by have := (hown2.lt g hg).1; omega)
            obtain ⟨a1, n1, c1, e1, hw⟩ := woods_own (B := B) o1 (by have := subN_len S k; omega) (by omega) (fun i hi => by
              have hi := (subN_mem hi).1
              obtain ⟨k1, _, _, k4⟩ := hkv'.out i hi
              exact ⟨k1.keep (Nat.le_refl _) (fun b o h => (h9.cell (by omega) (by omega)).trans (hss.cell (by omega) (by omega))), k4⟩)
            obtain ⟨a2, n2, c2, e2, hw2⟩ := shapes_own (B := B) o2 (by have := subN_len s j; omega) (by omega) (fun i hi => by
              have hi := (subN_mem hi).1
              obtain ⟨k1, _, _, _, k5⟩ := hjv'.out i hi
              exact ⟨k1.keep (Nat.le_refl _) (fun b o h => (h9.cell (by omega) (by omega)).trans (hss.cell (by omega) (by omega))), k5⟩)
            cases e1
            cases e2
            refine ⟨⟨?_, ?_⟩, hbw.trans (h9.toBelow (by omega) (fun b h => by omega))⟩
            · unfold onlyB; rw [hpn.out]; exact hw
            · unfold onlyB; rw [hsn.out]; exact hw2
          have hfin' := Lib.hid hfin
          clear hfin
          go_wp2_with (fail)
          refine bodyPost_ret (v := .agg #[.slice va vn vc, .slice ta tn tc]) ?_ rfl ⟨va, vn, vc, ta, tn, tc, rfl, hfin'.out _ (((SameBut.refl _ wr).setCell (M := fun b => b = w.heap.size + 1) (.inl rfl) _).setCell (M := fun b => b = w.heap.size + 1) (.inl rfl) _)⟩
          simp [results, Try.results91, go_sem, r0, r1]
end Go.Proofs.Ytbbolibkheelmaa
namespace Go.Proofs.Ytbbolibkheelmaa
open Go.RowKit Go.Shelf

theorem gw_map {x : Book} {L : List Nat} {j : Nat} (hj : j < L.length) : gw (L.map (gw x.planks)) j = gw x.planks L[j] := by
  show (L.map (gw x.planks)).getD j _ = _
  rw [List.getD_eq_getElem?_getD, List.getElem?_map, List.getElem?_eq_getElem hj]; rfl
theorem gs_map {x : Book} {L : List Nat} {j : Nat} (hj : j < L.length) : gs (L.map (gs x.parts)) j = gs x.parts L[j] := by
  show (L.map (gs x.parts)).getD j _ = _
  rw [List.getD_eq_getElem?_getD, List.getElem?_map, List.getElem?_eq_getElem hj]; rfl
theorem subN_iff {s k i : Nat} : i ∈ subN s k ↔ i < k ∧ hasN s i = true := by
  unfold subN; rw [List.mem_filter, List.mem_range]
theorem subN_nodup (s k : Nat) : (subN s k).Nodup := (List.nodup_range).filter _
theorem nodup_inj {L : List Nat} (h : L.Nodup) {i j : Nat} (hi : i < L.length) (hj : j < L.length) (e : L[i] = L[j]) : i = j := by
  have hp := List.pairwise_iff_getElem.1 h
  rcases Nat.lt_trichotomy i j with h1 | h1 | h1
  · exact absurd e (hp i j hi hj h1)
  · exact h1
  · exact absurd e.symm (hp j i hj hi h1)
theorem idx_of {L : List Nat} {y : Nat} (h : y ∈ L) : ∃ j, ∃ hj : j < L.length, L[j] = y := List.mem_iff_getElem.1 h

section
variable {x : Book} {S s : Nat}
theorem only_ok (hb : bookOk x = true) (hS : S ≠ 0) (hS2 : S < 2 ^ x.planks.length) (hs : s ≠ 0) (hs2 : s < 2 ^ x.parts.length) : bookOk (onlyB x S s) = true := by
  have hne : ∀ {m n : Nat}, m ≠ 0 → m < 2 ^ n → 1 ≤ (subN m n).length := by
    intro m n hm hmn
    by_cases hx : ∃ p, hasN m p = true
    · obtain ⟨p, hp⟩ := hx
      have : p ∈ subN m n := subN_iff.2 ⟨has_lt hmn hp, hp⟩
      exact List.length_pos_of_mem this
    · exact absurd (set_ext fun p => by
        rw [has_zero]
        cases e : hasN m p with
        | false => rfl
        | true => exact absurd ⟨p, e⟩ hx) hm
  have hG := good_of hb
  have l1 := subN_len S x.planks.length
  have l2 := subN_len s x.parts.length
  have e1 : (onlyB x S s).planks.length = (subN S x.planks.length).length := by unfold onlyB; rw [List.length_map]
  have e2 : (onlyB x S s).parts.length = (subN s x.parts.length).length := by unfold onlyB; rw [List.length_map]
  have n1 := hne hS hS2
  have n2 := hne hs hs2
  unfold bookOk at hb
  simp only [Bool.and_eq_true, allB_iff] at hb
  refine bookOk_good (by omega) (by have := hG.planks; omega) (by omega) (by have := hG.parts; omega) ?_ ?_
  · rw [allB_iff]
    intro i hi
    rw [e1] at hi
    show woodOk (gw ((subN S x.planks.length).map (gw x.planks)) i) = true
    rw [gw_map hi]
    exact hb.1.2 _ (subN_mem (List.getElem_mem hi)).1
  · rw [allB_iff]
    intro i hi
    rw [e2] at hi
    show shapeOk (gs ((subN s x.parts.length).map (gs x.parts)) i) = true
    rw [gs_map hi]
    exact hb.2 _ (subN_mem (List.getElem_mem hi)).1
theorem spot_only {i j : Nat} {t : Int} (hi : i < (subN S x.planks.length).length) (hj : j < (subN s x.parts.length).length) : Spot (onlyB x S s) i j t ↔ Spot x (subN S x.planks.length)[i] (subN s x.parts.length)[j] t := by
  unfold Spot
  show (0 ≤ t ∧ t ≤ (gw ((subN S x.planks.length).map (gw x.planks)) i).long - (gs ((subN s x.parts.length).map (gs x.parts)) j).long ∧ ansOf (gw ((subN S x.planks.length).map (gw x.planks)) i) (gs ((subN s x.parts.length).map (gs x.parts)) j) t.toNat = 2) ↔ _
  rw [gw_map hi, gs_map hj]
theorem plen_only {j : Nat} (hj : j < (subN s x.parts.length).length) : plen (onlyB x S s) j = plen x (subN s x.parts.length)[j] := by
  unfold plen
  show (gs ((subN s x.parts.length).map (gs x.parts)) j).long = _
  rw [gs_map hj]
theorem only_pack (hs2 : s < 2 ^ x.parts.length) : AllP (onlyB x S s) ↔ Pack x (fun i => hasN S i = true) (fun p => hasN s p = true) := by
  have e1 : (onlyB x S s).planks.length = (subN S x.planks.length).length := by unfold onlyB; rw [List.length_map]
  have e2 : (onlyB x S s).parts.length = (subN s x.parts.length).length := by unfold onlyB; rw [List.length_map]
  constructor
  · rintro ⟨g, a, h1, h2⟩
    have hidx : ∀ p, hasN s p = true → ∃ j, ∃ hj : j < (subN s x.parts.length).length, (subN s x.parts.length)[j] = p := fun p hp => idx_of (subN_iff.2 ⟨has_lt hs2 hp, hp⟩)
    have hix : ∀ p, hasN s p = true → ∃ hj : (subN s x.parts.length).idxOf p < (subN s x.parts.length).length, (subN s x.parts.length)[(subN s x.parts.length).idxOf p] = p := fun p hp => by
      have hm : p ∈ subN s x.parts.length := subN_iff.2 ⟨has_lt hs2 hp, hp⟩
      have hl := List.idxOf_lt_length_iff.2 hm
      exact ⟨hl, List.getElem_idxOf hl⟩
    refine ⟨fun p => (subN S x.planks.length).getD (g ((subN s x.parts.length).idxOf p)) 0, fun p => a ((subN s x.parts.length).idxOf p), fun p hp => ?_, fun p q hp hq hpq e => ?_⟩
    · obtain ⟨hj, ej⟩ := hix p hp
      obtain ⟨c1, _, c3⟩ := h1 _ (by rw [e2]; exact hj)
      rw [e1] at c1
      rw [spot_only c1 hj, ej] at c3
      have hm := subN_mem (List.getElem_mem c1)
      have hg : (subN S x.planks.length).getD (g ((subN s x.parts.length).idxOf p)) 0 = (subN S x.planks.length)[g ((subN s x.parts.length).idxOf p)] := by
        rw [List.getD_eq_getElem?_getD, List.getElem?_eq_getElem c1]; rfl
      show (subN S x.planks.length).getD (g ((subN s x.parts.length).idxOf p)) 0 < _ ∧ hasN S ((subN S x.planks.length).getD (g ((subN s x.parts.length).idxOf p)) 0) = true ∧ Spot x ((subN S x.planks.length).getD (g ((subN s x.parts.length).idxOf p)) 0) p _
      rw [hg]
      exact ⟨hm.1, hm.2, c3⟩
    · obtain ⟨hj, ej⟩ := hix p hp
      obtain ⟨hk, ek⟩ := hix q hq
      obtain ⟨c1, _, _⟩ := h1 _ (by rw [e2]; exact hj)
      obtain ⟨d1, _, _⟩ := h1 _ (by rw [e2]; exact hk)
      rw [e1] at c1 d1
      have hgp : (subN S x.planks.length).getD (g ((subN s x.parts.length).idxOf p)) 0 = (subN S x.planks.length)[g ((subN s x.parts.length).idxOf p)] := by
        rw [List.getD_eq_getElem?_getD, List.getElem?_eq_getElem c1]; rfl
      have hgq : (subN S x.planks.length).getD (g ((subN s x.parts.length).idxOf q)) 0 = (subN S x.planks.length)[g ((subN s x.parts.length).idxOf q)] := by
        rw [List.getD_eq_getElem?_getD, List.getElem?_eq_getElem d1]; rfl
      simp only at e
      rw [hgp, hgq] at e
      have eg := nodup_inj (subN_nodup _ _) c1 d1 e
      have hne : (subN s x.parts.length).idxOf p ≠ (subN s x.parts.length).idxOf q := fun h => hpq (by
        have : (subN s x.parts.length)[(subN s x.parts.length).idxOf p] = (subN s x.parts.length)[(subN s x.parts.length).idxOf q] := by simp only [h]
        rw [ej, ek] at this
        exact this)
      have h3 := h2 _ _ (by rw [e2]; exact hj) (by rw [e2]; exact hk) hne eg
      unfold Apart at h3 ⊢
      rw [plen_only hj, plen_only hk, ej, ek] at h3
      exact h3
  · rintro ⟨g, a, h1, h2⟩
    have hp : ∀ j (hj : j < (subN s x.parts.length).length), hasN s (subN s x.parts.length)[j] = true := fun j hj => (subN_mem (List.getElem_mem hj)).2
    have hgd : ∀ j (hj : j < (subN s x.parts.length).length), (subN s x.parts.length).getD j 0 = (subN s x.parts.length)[j] := fun j hj => by
      rw [List.getD_eq_getElem?_getD, List.getElem?_eq_getElem hj]; rfl
    refine ⟨fun j => (subN S x.planks.length).idxOf (g ((subN s x.parts.length).getD j 0)), fun j => a ((subN s x.parts.length).getD j 0), fun j hj => ?_, fun j k hj hk hjk e => ?_⟩
    · rw [e2] at hj
      obtain ⟨c1, c2, c3⟩ := h1 _ (hp j hj)
      have hm : g (subN s x.parts.length)[j] ∈ subN S x.planks.length := subN_iff.2 ⟨c1, c2⟩
      have hl := List.idxOf_lt_length_iff.2 hm
      show (subN S x.planks.length).idxOf (g ((subN s x.parts.length).getD j 0)) < _ ∧ True ∧ Spot _ ((subN S x.planks.length).idxOf (g ((subN s x.parts.length).getD j 0))) j (a ((subN s x.parts.length).getD j 0))
      rw [hgd j hj]
      refine ⟨by rw [e1]; exact hl, trivial, ?_⟩
      rw [spot_only hl hj, List.getElem_idxOf hl]
      exact c3
    · rw [e2] at hj hk
      obtain ⟨c1, c2, _⟩ := h1 _ (hp j hj)
      obtain ⟨d1, d2, _⟩ := h1 _ (hp k hk)
      have hl := List.idxOf_lt_length_iff.2 (subN_iff.2 ⟨c1, c2⟩ : g (subN s x.parts.length)[j] ∈ subN S x.planks.length)
      have hl2 := List.idxOf_lt_length_iff.2 (subN_iff.2 ⟨d1, d2⟩ : g (subN s x.parts.length)[k] ∈ subN S x.planks.length)
      simp only at e
      rw [hgd j hj, hgd k hk] at e
      have eg : g (subN s x.parts.length)[j] = g (subN s x.parts.length)[k] := by
        have h1 := List.getElem_idxOf hl
        have h2 := List.getElem_idxOf hl2
        rw [← h1, ← h2]
        simp only [e]
      have hne : (subN s x.parts.length)[j] ≠ (subN s x.parts.length)[k] := fun h => hjk (nodup_inj (subN_nodup _ _) hj hk h)
      have h3 := h2 _ _ (hp j hj) (hp k hk) hne eg
      unfold Apart at h3 ⊢
      rw [plen_only hj, plen_only hk]
      simp only
      rw [hgd j hj, hgd k hk]
      exact h3
end
/-- What 'enough' tells. -/
def enoughR (x : Book) (S s : Nat) : Bool × Bool :=
  if s = 0 ∨ S = 0 then (decide (s = 0), true) else (decide ((fewestR (onlyB x S s)).2 = 0), decide ((fewestR (onlyB x S s)).2 = 0) || decide ((fewestR (onlyB x S s)).2 = 4))
theorem enough_is {x : Book} {S s : Nat} (hb : bookOk x = true) (hS : S < 2 ^ x.planks.length) (hs : s < 2 ^ x.parts.length) : (enoughR x S s).2 = true ∧ ((enoughR x S s).1 = true ↔ Pack x (fun i => hasN S i = true) (fun p => hasN s p = true)) := by
  unfold enoughR
  by_cases h : s = 0 ∨ S = 0
  · rw [if_pos h]
    refine ⟨rfl, ?_⟩
    rw [decide_eq_true_eq]
    constructor
    · rintro rfl
      exact Pack.none fun p h => by rw [has_zero] at h; cases h
    · rintro ⟨g, a, h1, _⟩
      rcases h with h | h
      · exact h
      · refine set_ext fun p => ?_
        rw [has_zero]
        cases e : hasN s p with
        | false => rfl
        | true =>
          have := (h1 p e).2.1
          rw [h, has_zero] at this; cases this
  · rw [if_neg h]
    have hok := only_ok hb (fun e => h (.inr e)) hS (fun e => h (.inl e)) hs
    rw [← only_pack hs]
    rcases fewest_is hok with ⟨h1, h2⟩ | ⟨T, _, h1, h2⟩
    · rw [h1]
      exact ⟨rfl, by simp [h2]⟩
    · rw [h1]
      exact ⟨rfl, by simp [h2]⟩
end Go.Proofs.Ytbbolibkheelmaa
namespace Go.Proofs.Ytbbolibkheelmaa
open Go.RowKit Go.Shelf

set_option maxRecDepth 100000 in
set_option maxHeartbeats 4000000 in
theorem enough_any {B : Nat} {pa sa : Option Addr} {pn pc sn sc S s : Nat} {x : Book} {w : World} (hB : B ≤ w.heap.size) (hx : BookAt B w pa pn sa sn x) (hb : bookOk x = true) (hS : S < 2 ^ x.planks.length) (hs : s < 2 ^ x.parts.length) :
    Calls Try.prog 46 #[.agg #[.slice pa pn pc, .slice sa sn sc], .int .i64 S, .int .i64 s] w fun e w' => e = .returned (.tuple #[.bool (enoughR x S s).1, .bool true]) ∧ Below w.heap.size w w' := by
  have hG := good_of hb
  have hpn := hx.planks.len
  have hsn := hx.parts.len
  have hp := hG.planks
  have hq := hG.parts
  have hS32 : S < 32 := by have := pow_le32 (n := x.planks.length) (by omega); omega
  have hs32 := lt32 hb hs
  obtain ⟨e1, e2⟩ := enough_is hb hS hs
  obtain ⟨R, hR⟩ : ∃ R, R = (enoughR x S s).1 := ⟨_, rfl⟩
  rw [← hR]
  obtain ⟨W0, hW0⟩ : ∃ W0, W0 = w.alloc (.cells #[.slice pa pn pc, .slice sa sn sc] 25) := ⟨_, rfl⟩
  have hb0 : Below w.heap.size w W0 := by rw [hW0]; exact (Below.refl _ _).alloc (Nat.le_refl _) _
  have hk0 : Blk W0 w.heap.size #[.slice pa pn pc, .slice sa sn sc] := by rw [hW0]; exact Blk.new w _ _
  have l0 : w.heap.size < W0.heap.size := hk0.lt
  have hx0 := Lib.hid (hx.keep (w' := W0) (Nat.le_refl _) (fun b o h => bcells hb0 b o (by omega)))
  have q0 : W0.cell? ⟨w.heap.size, 0, none⟩ = some (.slice pa pn pc) := hk0.cell
  have q1 : W0.cell? ⟨w.heap.size, 1, none⟩ = some (.slice sa sn sc) := hk0.cell
  have hpn1 : 0 < pn := by omega
  have hpn5 : pn ≤ 5 := by omega
  have hsn1 : 0 < sn := by omega
  have hsn5 : sn ≤ 5 := by omega
  clear hx hpn hsn hp hq hG
  unfold enoughR at hR e1
  by_cases h0 : s = 0 ∨ S = 0
  · rw [if_pos h0] at hR
    have hR' := Lib.hid hR
    clear hR e1 e2
    go_enter Try.func46, Try.ntmps46
    replace hW0 := hW0.symm
    by_cases h1 : s = 0
    · have h2 : ((s : Int) == 0) = true := by simp [h1]
      have h3 : Hid (R = true) := Lib.hid (by rw [hR'.out]; exact decide_eq_true h1)
      clear h0 h1
      go_wp2_with fail
      go_ret2
      exact ⟨by rw [h3.out]; rfl, hb0⟩
    · have h2 : ((s : Int) == 0) = false := by simp [h1]
      have h4 : ((S : Int) == 0) = true := by simp [h0.resolve_left h1]
      have h3 : Hid (R = false) := Lib.hid (by rw [hR'.out]; exact decide_eq_false h1)
      clear h0 h1
      go_wp2_with fail
      go_ret2
      exact ⟨by rw [h3.out]; rfl, hb0⟩
  · rw [if_neg h0] at hR e1
    have h2 : ((s : Int) == 0) = false := by simp; omega
    have h4 : ((S : Int) == 0) = false := by simp; omega
    obtain ⟨E, hE⟩ : ∃ E, E = (fewestR (onlyB x S s)).2 := ⟨_, rfl⟩
    rw [← hE] at hR e1
    have hE' := Lib.hid hE
    have h5 : (E = 0 ∧ R = true) ∨ (E = 4 ∧ R = false) := by
      rw [Bool.or_eq_true, decide_eq_true_eq, decide_eq_true_eq] at e1
      rcases e1 with e | e
      · exact .inl ⟨e, by rw [hR]; exact decide_eq_true e⟩
      · exact .inr ⟨e, by rw [hR, e]; rfl⟩
    clear h0 hR e1 e2 hE
    go_enter Try.func46, Try.ntmps46
    replace hW0 := hW0.symm
    go_wp2_with fail
    clear hW0
    refine (only_any (B := B) (by omega) hx0.out hpn1 hpn5 hsn1 hsn5 hS32 hs32).mono ?_
    rintro e w1 ⟨qa, qn, qc, ta, tn, tc, rfl, hy, hb1⟩
    have hbw1 := hb0.trans (hb1.mono hb0.size)
    clear q0 q1
    go_wp2_with fail
    refine (Fewest_any (Nat.le_refl _) hy).mono ?_
    rintro e w2 ⟨ra, rn, rc, rfl, hl, hb2⟩
    rw [← hE'.out]
    have hbw2 := hbw1.trans (hb2.mono hbw1.size)
    clear hl hb2
    rcases h5 with ⟨rfl, rfl⟩ | ⟨rfl, rfl⟩
    · go_wp2_with fail
      go_ret2
      exact ⟨rfl, hbw2⟩
    · go_wp2_with fail
      go_ret2
      exact ⟨rfl, hbw2⟩
end Go.Proofs.Ytbbolibkheelmaa
