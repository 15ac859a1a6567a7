/- The given book, opened: from its reading to the readings that the contracts ask. What comes in, opened; closed facts of the program. Walks: the laws' own small helpers. Walks: is there a book, and is it as small as it can be? Has a part no joint at one of some knots? -/
import Derived.Test.YtbbolibkheelmaaRows
import Derived.Test.YtbbolibkheelmaaGa01
import Derived.ProofKit
import Derived.OpenShut
import Derived.ChangeOld
import Derived.Below
import Derived.SizedLaws
import Derived.Deep.Slices
import Derived.Deep.Fields
import Derived.ChangeSame
import Derived.Lib.SmallJoins
import Derived.WalkKit
import Derived.Test.YtbbolibkheelmaaGa15
namespace Go.Proofs.Ytbbolibkheelmaa
open Go.RowKit Go.ChangeShapes Go.WideShapes Go.Deep

/-- All weights of a datum are within the form's reach. -/
def Sized {H : Type} (t : TypeId) (d : DataW H) : Prop := ∀ n ∈ d.weights Try.prog t, n ≤ reachBytes

section
variable {H : Type}
theorem sized_agg {t : TypeId} {fs : Array Field} {ds : List (DataW H)} (hu : Try.prog.underlying t = some (.struct fs)) (h : Sized t (.agg ds)) {j : Nat} {f : Field} {d : DataW H} (hf : fs[j]? = some f) (hd : ds[j]? = some d) : Sized f.type d := by
  intro n hn
  refine h n ?_
  simp only [DataW.weights, hu]
  exact DataW.weights_mem_each (by simp [hf]) hd n hn
theorem sized_all {e : TypeId} : ∀ {ds : List (DataW H)} {d : DataW H}, d ∈ ds → ∀ n ∈ d.weights Try.prog e, n ∈ DataW.weightsAll Try.prog e ds
  | d0 :: ds, d, hd, n, hn => by
    simp only [DataW.weightsAll, List.mem_append]
    rcases List.mem_cons.1 hd with rfl | hd
    · exact .inl hn
    · exact .inr (sized_all hd n hn)
theorem sized_elem {t e : TypeId} {es sp : List (DataW H)} (hu : Try.prog.underlying t = some (.slice e)) (h : Sized t (.slice es sp)) {d : DataW H} (hd : d ∈ es) : Sized e d := by
  intro n hn
  refine h n ?_
  simp only [DataW.weights, hu, List.mem_cons, List.mem_append]
  exact .inr (.inl (sized_all hd n hn))
theorem sized_len {t e : TypeId} {es sp : List (DataW H)} (hu : Try.prog.underlying t = some (.slice e)) (h : Sized t (.slice es sp)) : (es.length + sp.length) * Try.prog.bytesOf e ≤ reachBytes := by
  refine h _ ?_
  simp only [DataW.weights, hu, List.mem_cons, true_or]
theorem sized_each {ts : List TypeId} {ds : List (DataW H)} (h : (DataW.weightsEach Try.prog ts ds).all (· ≤ reachBytes) = true) {j : Nat} {t : TypeId} {d : DataW H} (ht : ts[j]? = some t) (hd : ds[j]? = some d) : Sized t d := fun n hn => by
  have := List.all_eq_true.1 h n (DataW.weights_mem_each ht hd n hn)
  simpa using this

variable {enc : TypeId × Value → H} {w : World} {base : Nat} {spare : Nat → Bool} {held : Bool}
theorem open_slice_fields {P : Program} {t e : TypeId} {fs : Array Field} {fuel : Nat} {cs : List Value} {x : DataW H × List MemPlace} (ht : P.underlying t = some (.slice e)) (he : P.underlying e = some (.struct fs))
    (hone : oneCellFields P fs = true) (hC : P.cellsOf e = fs.size) (h : DataW.trod enc P w base spare held fuel t cs = some x) :
    (cs = [.slice none 0 0] ∧ x = (.nil, [])) ∨
    ∃ (a : Addr) (len cap m : Nat) (D : Nat → DataW H) (Pl : Nat → List MemPlace), cs = [.slice (some a) len cap] ∧ base ≤ a.block ∧ len ≤ cap ∧ cap ≤ maxLen ∧ m = (if spare a.block then cap else len) ∧
      x = (.slice ((List.range len).map D) ((List.range (m - len)).map fun j => D (len + j)), MemPlace.row a (m * fs.size) ++ (List.range m).flatMap Pl) ∧
      ∀ i, i < m → ∃ (ys : List (DataW H × List MemPlace)) (n : Nat), D i = .agg (ys.map (·.1)) ∧ Pl i = ys.flatMap (·.2) ∧ ys.length = fs.size ∧
        ∀ (j : Nat) (f : Field), fs[j]? = some f → ∃ (v : Value) (y : DataW H × List MemPlace), w.cell? (a.add (i * fs.size + j)) = some v ∧ ys[j]? = some y ∧ DataW.trod enc P w base spare held n f.type [v] = some y := by
  rcases open_slice ht h with h0 | ⟨a, len, cap, m, n, D, Pl, hcs, hb, hl, hm, hmm, hx, hi⟩
  · exact .inl h0
  · refine .inr ⟨a, len, cap, m, D, Pl, hcs, hb, hl, hm, hmm, by rw [hC] at hx; exact hx, fun i him => ?_⟩
    obtain ⟨cs', hc, ht'⟩ := hi i him
    rw [hC] at hc
    obtain ⟨ys, n', hn', hy, hlen, hyl, hf⟩ := DataW.trod_struct he ht'
    obtain ⟨_, hcl, hat⟩ := World.cells?_some hc
    simp only [Prod.mk.injEq] at hy
    refine ⟨ys, n', hy.1, hy.2, hyl, fun j f hj => ?_⟩
    obtain ⟨ho, hk⟩ := hone_of hone j f hj
    have hjl : j < fs.size := (Array.getElem?_eq_some_iff.1 hj).1
    have hcell := hat j hjl
    have hv : cs'[j]? = some (cs'[j]'(by omega)) := List.getElem?_eq_getElem (by omega)
    have h1 := hf j f hj
    rw [ho, hk] at h1
    have hone' : (cs'.drop j).take 1 = [cs'[j]'(by omega)] := by
      rw [List.drop_eq_getElem_cons (by omega)]
      rfl
    rw [hone'] at h1
    have hys : ys[j]? = some (ys[j]'(by omega)) := List.getElem?_eq_getElem (by omega)
    refine ⟨_, _, ?_, hys, h1.trans hys⟩
    rw [← Go.Deep.add_add, hcell, hv]

theorem wf_i64 {n : Int} (h : (Lit.int .i64 n).wf = true) : I64 n := by
  exact bounds_i64 h
theorem add_plain (b o i : Nat) : (⟨b, o, none⟩ : Addr).add i = ⟨b, o + i, none⟩ := by
  unfold Addr.add
  split
  · rename_i h; rw [h]; rfl
  · rfl

theorem ints_open {fuel : Nat} {v : Value} {y : DataW H × List MemPlace} (h : DataW.trod enc Try.prog w base spare held fuel 31 [v] = some y) (hz : Sized 31 y.1) :
    ∃ a n c xs, v = .slice a n c ∧ IntsAt w.heap.size w a n xs := by
  rcases open_ints Try.underlying31 Try.underlying3 (by kernel_rfl) h with ⟨hcs, _⟩ | ⟨⟨b, o, s⟩, l, c, zs, hcs, _, hl, hm, hzl, hy, hcell, hwf⟩
  · simp only [List.cons.injEq, and_true] at hcs
    subst hcs
    exact ⟨_, _, _, [], rfl, rfl, by omega, fun i hi => absurd hi (by omega)⟩
  · simp only [List.cons.injEq, and_true] at hcs
    subst hcs
    have hlen : l ≤ zs.length := by rw [hzl]; split <;> omega
    have hsz : l ≤ 140737488355328 := by
      have := sized_len Try.underlying31 (es := lits .i64 (zs.take l)) (sp := lits .i64 (zs.drop l)) (by rw [hy] at hz; exact hz)
      rw [show Try.prog.bytesOf 3 = 8 by kernel_rfl] at this
      simp only [lits, List.length_map, List.length_take, List.length_drop, reachBytes] at this
      omega
    refine ⟨some ⟨b, o, s⟩, l, c, zs.take l, rfl, by simp; omega, hsz, fun i hi => ?_⟩
    have h0 := hcell 0 (by omega)
    have hs : s = none := by simpa [Addr.add] using World.cell?_spot h0
    subst hs
    refine ⟨b, o, rfl, World.block_lt_of_cell? _ _ h0, fun i hi => ⟨?_, ?_⟩⟩
    · have := hcell i (by omega)
      rw [add_plain] at this
      rw [this]
      simp [gi, hi]
    · have hmem : gi (zs.take l) i ∈ zs := by
        rw [show gi (zs.take l) i = zs[i]'(by omega) by simp [gi, hi, List.getElem?_eq_getElem (show i < zs.length by omega)]]
        exact List.getElem_mem _
      exact wf_i64 (hwf _ hmem)

/-- Elements that are chosen one by one. -/
theorem list_of {α : Type} {p : Nat → α → Prop} {n : Nat} (h : ∀ i, i < n → ∃ x, p i x) : ∃ xs : List α, xs.length = n ∧ ∀ i (d : α), i < n → p i (xs.getD i d) := by
  induction n with
  | zero => exact ⟨[], rfl, fun i _ hi => absurd hi (by omega)⟩
  | succ n ih =>
    obtain ⟨xs, hl, hx⟩ := ih (fun i hi => h i (by omega))
    obtain ⟨x, hp⟩ := h n (by omega)
    refine ⟨xs ++ [x], by simp [hl], fun i d hi => ?_⟩
    by_cases e : i < n
    · have := hx i d e
      rw [List.getD_eq_getElem?_getD] at this ⊢
      rw [List.getElem?_append_left (by omega)]; exact this
    · obtain rfl : i = n := by omega
      rw [List.getD_eq_getElem?_getD, List.getElem?_append_right (by omega), hl]
      simpa using hp

theorem spans_open {fuel : Nat} {v : Value} {y : DataW H × List MemPlace} (h : DataW.trod enc Try.prog w base spare held fuel 46 [v] = some y) (hz : Sized 46 y.1) :
    ∃ a n c xs, v = .slice a n c ∧ SpansAt w.heap.size w a n xs := by
  rcases open_slice_fields Try.underlying46 Try.underlying60 (by kernel_rfl) (by kernel_rfl) h with ⟨hcs, _⟩ | ⟨⟨b, o, s⟩, l, c, m, D, Pl, hcs, _, hl, hm, hmm, hy, hi⟩
  · simp only [List.cons.injEq, and_true] at hcs
    subst hcs
    exact ⟨_, _, _, [], rfl, rfl, by omega, fun i hi => absurd hi (by omega)⟩
  · simp only [List.cons.injEq, and_true] at hcs
    subst hcs
    have hlm : l ≤ m := by rw [hmm]; split <;> omega
    have hsz : l ≤ 140737488355328 := by
      have := sized_len Try.underlying46 (by rw [hy] at hz; exact hz)
      rw [show Try.prog.bytesOf 60 = 16 by kernel_rfl] at this
      simp only [List.length_map, List.length_range, reachBytes] at this
      omega
    by_cases hl0 : l = 0
    · exact ⟨_, l, c, [], rfl, by simp [hl0], hsz, fun i hil => absurd hil (by omega)⟩
    obtain ⟨rfl, hb⟩ : s = none ∧ b < w.heap.size := by
      obtain ⟨ys, n, _, _, _, hf⟩ := hi 0 (by omega)
      obtain ⟨v0, y0, c0, _, _⟩ := hf 0 _ rfl
      exact ⟨by simpa [Addr.add] using World.cell?_spot c0, World.block_lt_of_cell? _ _ c0⟩
    simp only [add_plain] at hi
    obtain ⟨xs, hxl, hx⟩ := list_of (α := Int × Int) (n := l) (p := fun i k => w.cell? ⟨b, o + i * 2, none⟩ = some (.int .i64 k.1) ∧ w.cell? ⟨b, o + i * 2 + 1, none⟩ = some (.int .i64 k.2) ∧ I64 k.1 ∧ I64 k.2) (fun i hil => by
      obtain ⟨ys, n, _, _, _, hf⟩ := hi i (by omega)
      obtain ⟨v0, y0, c0, _, t0⟩ := hf 0 _ rfl
      obtain ⟨v1, y1, c1, _, t1⟩ := hf 1 _ rfl
      obtain ⟨k0, e0, _, w0⟩ := DataW.trod_int Try.underlying3 t0
      obtain ⟨k1, e1, _, w1⟩ := DataW.trod_int Try.underlying3 t1
      simp only [List.cons.injEq, and_true] at e0 e1
      subst e0 e1
      exact ⟨(k0, k1), c0, c1, wf_i64 w0, wf_i64 w1⟩)
    exact ⟨_, l, c, xs, rfl, hxl, hsz, fun i _ => ⟨b, o, rfl, hb, fun j hj => hx j (0, 0) hj⟩⟩

theorem woods_open {fuel : Nat} {v : Value} {y : DataW H × List MemPlace} (h : DataW.trod enc Try.prog w base spare held fuel 22 [v] = some y) (hz : Sized 22 y.1) :
    ∃ a n c xs, v = .slice a n c ∧ WoodsAt w.heap.size w a n xs := by
  rcases open_slice_fields Try.underlying22 Try.underlying48 (by kernel_rfl) (by kernel_rfl) h with ⟨hcs, _⟩ | ⟨⟨b, o, s⟩, l, c, m, D, Pl, hcs, _, hl, hm, hmm, hy, hi⟩
  · simp only [List.cons.injEq, and_true] at hcs
    subst hcs
    exact ⟨_, _, _, [], rfl, rfl, by omega, fun i hi => absurd hi (by omega)⟩
  · simp only [List.cons.injEq, and_true] at hcs
    subst hcs
    have hlm : l ≤ m := by rw [hmm]; split <;> omega
    have hz' : Sized 22 (.slice ((List.range l).map D) ((List.range (m - l)).map fun j => D (l + j))) := by rw [hy] at hz; exact hz
    have hsz : l ≤ 140737488355328 := by
      have := sized_len Try.underlying22 hz'
      rw [show Try.prog.bytesOf 48 = 32 by kernel_rfl] at this
      simp only [List.length_map, List.length_range, reachBytes] at this
      omega
    by_cases hl0 : l = 0
    · exact ⟨_, l, c, [], rfl, by simp [hl0], hsz, fun i hil => absurd hil (by omega)⟩
    obtain ⟨rfl, hb⟩ : s = none ∧ b < w.heap.size := by
      obtain ⟨ys, n, _, _, _, hf⟩ := hi 0 (by omega)
      obtain ⟨v0, y0, c0, _, _⟩ := hf 0 _ rfl
      exact ⟨by simpa [Addr.add] using World.cell?_spot c0, World.block_lt_of_cell? _ _ c0⟩
    simp only [add_plain] at hi
    obtain ⟨xs, hxl, hx⟩ := list_of (α := Wood) (n := l) (p := fun i x => ∃ v, KnotsV w.heap.size w v x ∧ w.cell? ⟨b, o + i * 2, none⟩ = some (.int .i64 x.long) ∧ w.cell? ⟨b, o + i * 2 + 1, none⟩ = some v ∧ I64 x.long) (fun i hil => by
      obtain ⟨ys, n, hD, _, _, hf⟩ := hi i (by omega)
      obtain ⟨v0, y0, c0, _, t0⟩ := hf 0 _ rfl
      obtain ⟨v1, y1, c1, hy1, t1⟩ := hf 1 _ rfl
      obtain ⟨k0, e0, _, w0⟩ := DataW.trod_int Try.underlying3 t0
      simp only [List.cons.injEq, and_true] at e0
      subst e0
      have hzi : Sized 48 (.agg (ys.map (·.1))) := by rw [← hD]; exact sized_elem Try.underlying22 hz' (List.mem_map.2 ⟨i, by simp; omega, rfl⟩)
      have hz1 : Sized 46 y1.1 := sized_agg Try.underlying48 hzi (j := 1) rfl (by rw [List.getElem?_map, hy1]; rfl)
      obtain ⟨ka, kn, kc, ks, rfl, hks⟩ := spans_open t1 hz1
      exact ⟨⟨k0, ks⟩, _, ⟨ka, kn, kc, rfl, hks⟩, c0, c1, wf_i64 w0⟩)
    exact ⟨_, l, c, xs, rfl, hxl, hsz, fun i _ => ⟨b, o, rfl, hb, fun j hj => hx j ⟨0, []⟩ hj⟩⟩

theorem shapes_open {fuel : Nat} {v : Value} {y : DataW H × List MemPlace} (h : DataW.trod enc Try.prog w base spare held fuel 23 [v] = some y) (hz : Sized 23 y.1) :
    ∃ a n c xs, v = .slice a n c ∧ ShapesAt w.heap.size w a n xs := by
  rcases open_slice_fields Try.underlying23 Try.underlying50 (by kernel_rfl) (by kernel_rfl) h with ⟨hcs, _⟩ | ⟨⟨b, o, s⟩, l, c, m, D, Pl, hcs, _, hl, hm, hmm, hy, hi⟩
  · simp only [List.cons.injEq, and_true] at hcs
    subst hcs
    exact ⟨_, _, _, [], rfl, rfl, by omega, fun i hi => absurd hi (by omega)⟩
  · simp only [List.cons.injEq, and_true] at hcs
    subst hcs
    have hlm : l ≤ m := by rw [hmm]; split <;> omega
    have hz' : Sized 23 (.slice ((List.range l).map D) ((List.range (m - l)).map fun j => D (l + j))) := by rw [hy] at hz; exact hz
    have hsz : l ≤ 140737488355328 := by
      have := sized_len Try.underlying23 hz'
      rw [show Try.prog.bytesOf 50 = 40 by kernel_rfl] at this
      simp only [List.length_map, List.length_range, reachBytes] at this
      omega
    by_cases hl0 : l = 0
    · exact ⟨_, l, c, [], rfl, by simp [hl0], hsz, fun i hil => absurd hil (by omega)⟩
    obtain ⟨rfl, hb⟩ : s = none ∧ b < w.heap.size := by
      obtain ⟨ys, n, _, _, _, hf⟩ := hi 0 (by omega)
      obtain ⟨v0, y0, c0, _, _⟩ := hf 0 _ rfl
      exact ⟨by simpa [Addr.add] using World.cell?_spot c0, World.block_lt_of_cell? _ _ c0⟩
    simp only [add_plain] at hi
    obtain ⟨xs, hxl, hx⟩ := list_of (α := Shape) (n := l) (p := fun i x => ∃ v, JointsV w.heap.size w v x ∧ w.cell? ⟨b, o + i * 3, none⟩ = some (.int .i64 x.long) ∧ w.cell? ⟨b, o + i * 3 + 1, none⟩ = some v ∧ w.cell? ⟨b, o + i * 3 + 2, none⟩ = some (.bool x.turns) ∧ I64 x.long) (fun i hil => by
      obtain ⟨ys, n, hD, _, _, hf⟩ := hi i (by omega)
      obtain ⟨v0, y0, c0, _, t0⟩ := hf 0 _ rfl
      obtain ⟨v1, y1, c1, hy1, t1⟩ := hf 1 _ rfl
      obtain ⟨v2, y2, c2, _, t2⟩ := hf 2 _ rfl
      obtain ⟨k0, e0, _, w0⟩ := DataW.trod_int Try.underlying3 t0
      obtain ⟨k2, e2, _⟩ := DataW.trod_bool Try.underlying4 t2
      simp only [List.cons.injEq, and_true] at e0 e2
      subst e0 e2
      have hzi : Sized 50 (.agg (ys.map (·.1))) := by rw [← hD]; exact sized_elem Try.underlying23 hz' (List.mem_map.2 ⟨i, by simp; omega, rfl⟩)
      have hz1 : Sized 31 y1.1 := sized_agg Try.underlying50 hzi (j := 1) rfl (by rw [List.getElem?_map, hy1]; rfl)
      obtain ⟨ka, kn, kc, ks, rfl, hks⟩ := ints_open t1 hz1
      exact ⟨⟨k0, ks, k2⟩, _, ⟨ka, kn, kc, rfl, hks⟩, c0, c1, c2, wf_i64 w0⟩)
    exact ⟨_, l, c, xs, rfl, hxl, hsz, fun i _ => ⟨b, o, rfl, hb, fun j hj => hx j ⟨0, [], false⟩ hj⟩⟩

set_option maxRecDepth 100000 in
/-- A book that came in. -/
theorem book_open {r : Reach} {b0 : Nat} {v : Value} {d : DataW H} {p : List MemPlace} (hv : Value.okWide Try.prog w r b0 25 v) (h : DataW.Trod enc Try.prog w base spare held 25 v d p) (hz : Sized 25 d) :
    ∃ pa pn pc sa sn sc x, v = .agg #[.slice pa pn pc, .slice sa sn sc] ∧ BookAt w.heap.size w pa pn sa sn x := by
  obtain ⟨v0, v1, y0, y1, n, rfl, rfl, _, t0, t1⟩ := Go.Joins.open_agg2 Try.underlying25 (by kernel_rfl) (by kernel_rfl) hv h
  obtain ⟨pa, pn, pc, ps, rfl, hps⟩ := woods_open t0 (sized_agg Try.underlying25 hz (j := 0) rfl rfl)
  obtain ⟨sa, sn, sc, ss, rfl, hss⟩ := shapes_open t1 (sized_agg Try.underlying25 hz (j := 1) rfl rfl)
  exact ⟨pa, pn, pc, sa, sn, sc, ⟨ps, ss⟩, rfl, ⟨hps, hss⟩⟩
end
end Go.Proofs.Ytbbolibkheelmaa
namespace Go.Proofs.Ytbbolibkheelmaa
open Go.ChangeShapes Go.WideShapes Go.ChangeAt Go.RowKit Go.Deep

theorem ownKnobs : ownKnob Try.prog.godebug = none := by kernel_rfl
theorem laidOut : laidOutB Try.prog = true := by kernel_rfl

section
variable {H : Type} {enc : TypeId × Value → H} {w : World} {base : Nat} {spare : Nat → Bool} {held : Bool}
theorem okWide_array {P : Program} {r : Reach} {b0 n : Nat} {t e : TypeId} {v : Value} (ht : P.underlying t = some (.array n e)) (h : Value.okWide P w r b0 t v) : ∃ cs, v = .agg cs ∧ cs.size = P.cellsOf t := by
  simp only [Value.okWide, ht] at h
  obtain ⟨cs, h1, h2, _⟩ := h
  exact ⟨cs, h1, h2⟩
set_option maxRecDepth 100000 in
/-- Two numbers that came in. -/
theorem two_open {r : Reach} {b0 : Nat} {v : Value} {d : DataW H} {p : List MemPlace} (hv : Value.okWide Try.prog w r b0 69 v) (h : DataW.Trod enc Try.prog w base spare held 69 v d p) :
    ∃ n0 n1 : Int, v = .agg #[.int .i64 n0, .int .i64 n1] ∧ I64 n0 ∧ I64 n1 := by
  obtain ⟨⟨l⟩, rfl, hsz⟩ := okWide_array Try.underlying69 hv
  match l, hsz.trans (show Try.prog.cellsOf 69 = 2 by kernel_rfl) with
  | [c0, c1], _ =>
    obtain ⟨fuel, hf⟩ := h
    obtain ⟨xs, m, _, _, _, hlen, hg⟩ := DataW.trod_array Try.underlying69 hf
    have hc : Try.prog.cellsOf 3 = 1 := by kernel_rfl
    match xs, hlen with
    | [y0, y1], _ =>
      have g0 := hg 0 (by omega)
      have g1 := hg 1 (by omega)
      simp only [hc, Value.cells, List.drop, List.take, Nat.zero_mul, Nat.one_mul] at g0 g1
      obtain ⟨k0, e0, _, w0⟩ := DataW.trod_int Try.underlying3 (g0.trans rfl)
      obtain ⟨k1, e1, _, w1⟩ := DataW.trod_int Try.underlying3 (g1.trans rfl)
      simp only [List.cons.injEq, and_true] at e0 e1
      subst e0 e1
      exact ⟨k0, k1, rfl, wf_i64 w0, wf_i64 w1⟩
set_option maxRecDepth 100000 in
/-- Three numbers that came in. -/
theorem three_open {r : Reach} {b0 : Nat} {v : Value} {d : DataW H} {p : List MemPlace} (hv : Value.okWide Try.prog w r b0 26 v) (h : DataW.Trod enc Try.prog w base spare held 26 v d p) :
    ∃ n0 n1 n2 : Int, v = .agg #[.int .i64 n0, .int .i64 n1, .int .i64 n2] ∧ I64 n0 ∧ I64 n1 ∧ I64 n2 := by
  obtain ⟨⟨l⟩, rfl, hsz⟩ := okWide_array Try.underlying26 hv
  match l, hsz.trans (show Try.prog.cellsOf 26 = 3 by kernel_rfl) with
  | [c0, c1, c2], _ =>
    obtain ⟨fuel, hf⟩ := h
    obtain ⟨xs, m, _, _, _, hlen, hg⟩ := DataW.trod_array Try.underlying26 hf
    have hc : Try.prog.cellsOf 3 = 1 := by kernel_rfl
    match xs, hlen with
    | [y0, y1, y2], _ =>
      have g0 := hg 0 (by omega)
      have g1 := hg 1 (by omega)
      have g2 := hg 2 (by omega)
      simp only [hc, Value.cells, List.drop, List.take, Nat.zero_mul, Nat.one_mul] at g0 g1 g2
      obtain ⟨k0, e0, _, w0⟩ := DataW.trod_int Try.underlying3 (g0.trans rfl)
      obtain ⟨k1, e1, _, w1⟩ := DataW.trod_int Try.underlying3 (g1.trans rfl)
      obtain ⟨k2, e2, _, w2⟩ := DataW.trod_int Try.underlying3 (g2.trans rfl)
      simp only [List.cons.injEq, and_true] at e0 e1 e2
      subst e0 e1 e2
      exact ⟨k0, k1, k2, rfl, wf_i64 w0, wf_i64 w1, wf_i64 w2⟩
set_option maxRecDepth 100000 in
/-- Four numbers that came in. -/
theorem four_open {r : Reach} {b0 : Nat} {v : Value} {d : DataW H} {p : List MemPlace} (hv : Value.okWide Try.prog w r b0 44 v) (h : DataW.Trod enc Try.prog w base spare held 44 v d p) :
    ∃ n0 n1 n2 n3 : Int, v = .agg #[.int .i64 n0, .int .i64 n1, .int .i64 n2, .int .i64 n3] ∧ I64 n0 ∧ I64 n1 ∧ I64 n2 ∧ I64 n3 := by
  obtain ⟨⟨l⟩, rfl, hsz⟩ := okWide_array Try.underlying44 hv
  match l, hsz.trans (show Try.prog.cellsOf 44 = 4 by kernel_rfl) with
  | [c0, c1, c2, c3], _ =>
    obtain ⟨fuel, hf⟩ := h
    obtain ⟨xs, m, _, _, _, hlen, hg⟩ := DataW.trod_array Try.underlying44 hf
    have hc : Try.prog.cellsOf 3 = 1 := by kernel_rfl
    match xs, hlen with
    | [y0, y1, y2, y3], _ =>
      have g0 := hg 0 (by omega)
      have g1 := hg 1 (by omega)
      have g2 := hg 2 (by omega)
      have g3 := hg 3 (by omega)
      simp only [hc, Value.cells, List.drop, List.take, Nat.zero_mul, Nat.one_mul] at g0 g1 g2 g3
      obtain ⟨k0, e0, _, w0⟩ := DataW.trod_int Try.underlying3 (g0.trans rfl)
      obtain ⟨k1, e1, _, w1⟩ := DataW.trod_int Try.underlying3 (g1.trans rfl)
      obtain ⟨k2, e2, _, w2⟩ := DataW.trod_int Try.underlying3 (g2.trans rfl)
      obtain ⟨k3, e3, _, w3⟩ := DataW.trod_int Try.underlying3 (g3.trans rfl)
      simp only [List.cons.injEq, and_true] at e0 e1 e2 e3
      subst e0 e1 e2 e3
      exact ⟨k0, k1, k2, k3, rfl, wf_i64 w0, wf_i64 w1, wf_i64 w2, wf_i64 w3⟩
set_option maxRecDepth 100000 in
/-- A list of numbers that came in. -/
theorem list_open {r : Reach} {b0 : Nat} {v : Value} {d : DataW H} {p : List MemPlace} (hv : Value.okWide Try.prog w r b0 31 v) (h : DataW.Trod enc Try.prog w base spare held 31 v d p) (hz : Sized 31 d) :
    ∃ a n c xs, v = .slice a n c ∧ IntsAt w.heap.size w a n xs := by
  obtain ⟨a, l, c, rfl⟩ := okWide_slice Try.underlying31 hv
  obtain ⟨fuel, hf⟩ := h
  exact ints_open (y := (d, p)) (by simpa [Value.cells] using hf) hz
set_option maxRecDepth 100000 in
/-- One number that came in. -/
theorem one_open {r : Reach} {b0 : Nat} {v : Value} {d : DataW H} {p : List MemPlace} (hv : Value.okWide Try.prog w r b0 3 v) (h : DataW.Trod enc Try.prog w base spare held 3 v d p) :
    ∃ n : Int, v = .int .i64 n ∧ I64 n := by
  obtain ⟨n, rfl, _, _, wn⟩ := open_int Try.underlying3 hv h
  exact ⟨n, rfl, wf_i64 wn⟩
end
end Go.Proofs.Ytbbolibkheelmaa
namespace Go.Proofs.Ytbbolibkheelmaa
open Go.RowKit Go.Shelf

set_option maxHeartbeats 400000 in
theorem In_any (n lo hi : Int) (w : World) :
    Calls Try.prog 38 #[.int .i64 n, .int .i64 lo, .int .i64 hi] w fun e w' => e = .returned (.bool (withinB n lo hi)) ∧ w = w' := by
  go_enter Try.func38, Try.ntmps38
  go_wp2
  all_goals
    go_ret
    refine ⟨ret_bool ?_, rfl⟩
    unfold withinB
    simp; omega
theorem In_yes {n lo hi : Int} (h1 : lo ≤ n) (h2 : n ≤ hi) (w : World) :
    Calls Try.prog 38 #[.int .i64 n, .int .i64 lo, .int .i64 hi] w fun e w' => e = .returned (.bool true) ∧ w = w' :=
  (In_any n lo hi w).mono fun _ _ ⟨he, hw⟩ => ⟨by rw [he]; exact ret_bool (by simp [withinB, h1, h2]), hw⟩

/-- A number, made one from 0 to below another one. -/
def rnd (n m : Int) : Int := if m < 1 then 0 else n % m
theorem rnd_range {n m : Int} (h : 1 ≤ m) : 0 ≤ rnd n m ∧ rnd n m < m := by
  unfold rnd; rw [if_neg (by omega)]
  exact ⟨Int.emod_nonneg _ (by omega), Int.emod_lt_of_pos _ (by omega)⟩
theorem rnd_tmod {n m : Int} (h : 1 ≤ m) : rnd n m = if n.tmod m < 0 then n.tmod m + m else n.tmod m := by
  unfold rnd; rw [if_neg (by omega)]
  have h1 := Int.tmod_eq_emod (a := n) (b := m)
  have h2 := Int.emod_nonneg n (show m ≠ 0 by omega)
  have h3 := Int.emod_lt_of_pos n (show 0 < m by omega)
  split <;> split at h1 <;> omega
set_option maxHeartbeats 400000 in
theorem Round_any {n m : Int} (w : World) (hm : I64 m) :
    Calls Try.prog 35 #[.int .i64 n, .int .i64 m] w fun e w' => e = .returned (.int .i64 (rnd n m)) ∧ w = w' := by
  unfold I64 at hm
  obtain ⟨R, hR⟩ : ∃ R, R = rnd n m := ⟨_, rfl⟩
  rw [← hR]
  have hR' := Lib.hid hR
  clear hR
  by_cases h : m < 1
  · go_enter Try.func35, Try.ntmps35
    go_wp2
    go_ret
    exact ⟨ret_int (by rw [hR'.out, rnd, if_pos h]), rfl⟩
  · have hm1 : 1 ≤ m := by omega
    obtain ⟨q, hq⟩ : ∃ q, q = n.tmod m := ⟨_, rfl⟩
    have hq1 := Int.tmod_lt_of_pos n (show 0 < m by omega)
    have hq2 : -m < n.tmod m := by
      have := Int.neg_tmod n m
      have h3 := Int.tmod_lt_of_pos (-n) (show 0 < m by omega)
      omega
    go_enter Try.func35, Try.ntmps35
    go_wp2
    all_goals
      go_ret
      exact ⟨ret_int (by rw [hR'.out, rnd_tmod hm1]; first | rw [if_pos (by omega)] | rw [if_neg (by omega)]), rfl⟩

theorem Round_same {n m : Int} (w : World) (hm : I64 m) :
    Calls Try.prog 35 #[.int .i64 n, .int .i64 m] w fun e w' => e = .returned (.int .i64 (rnd n m)) ∧ w' = w :=
  (Round_any w hm).mono fun _ _ h => ⟨h.1, h.2.symm⟩

/-- The first place of a number in a list. -/
def findI (xs : List Int) (n : Int) : Int := match xs.findIdx? (fun y => y == n) with | some i => i | none => -1
theorem findI_none {xs : List Int} {n : Int} (h : ∀ j, j < xs.length → ¬ gi xs j = n) : findI xs n = -1 := by
  unfold findI
  rw [List.findIdx?_eq_none_iff.2]
  intro y hy
  obtain ⟨j, hj, rfl⟩ := List.getElem_of_mem hy
  have := h j hj
  rw [gi_eq hj] at this
  simpa using this
theorem findI_some {xs : List Int} {n : Int} {k : Nat} (hk : k < xs.length) (h : ∀ j, j < k → ¬ gi xs j = n) (e : gi xs k = n) : findI xs n = k := by
  unfold findI
  rw [List.findIdx?_eq_some_iff_getElem.2 ⟨hk, by rw [gi_eq hk] at e; simpa using e, fun j hj => by have := h j hj; rw [gi_eq (by omega)] at this; simpa using this⟩]
theorem findI_nonneg {xs : List Int} {n : Int} : 0 ≤ findI xs n ↔ ∃ j, j < xs.length ∧ gi xs j = n := by
  by_cases h : ∃ j, j < xs.length ∧ gi xs j = n
  · refine ⟨fun _ => h, fun _ => ?_⟩
    unfold findI
    split
    · omega
    · rename_i hn
      obtain ⟨j, hj, e⟩ := h
      have := List.findIdx?_eq_none_iff.1 hn (gi xs j) (by rw [gi_eq hj]; exact List.getElem_mem hj)
      rw [e] at this; simp at this
  · refine ⟨fun h' => ?_, fun h' => absurd h' h⟩
    rw [findI_none (fun j hj e => h ⟨j, hj, e⟩)] at h'; omega
theorem findI_i64 {xs : List Int} {n : Int} (h : xs.length ≤ 140737488355328) : -1 ≤ findI xs n ∧ findI xs n ≤ 140737488355328 := by
  unfold findI
  split
  · rename_i i hi
    have := (List.findIdx?_eq_some_iff_getElem.1 hi).1
    omega
  · omega
set_option maxHeartbeats 400000 in
theorem Find_any {B : Nat} {a : Option Addr} {xs : List Int} {n c : Nat} {x : Int} {w : World} (hx : IntsAt B w a n xs) :
    Calls Try.prog 42 #[.slice a n c, .int .i64 x] w fun e w' => e = .returned (.int .i64 (findI xs x)) ∧ Quiet w w' := by
  have hx' := Lib.hid hx
  have hL : n ≤ 140737488355328 := hx.small
  have hnx := Lib.hid hx.len
  clear hx
  obtain ⟨R, hR⟩ : ∃ R, R = findI xs x := ⟨_, rfl⟩
  rw [← hR]
  have hR' := Lib.hid hR
  clear hR
  go_enter Try.func42, Try.ntmps42
  go_wp2
  go_loopw [5] (fun i wr => ∃ k : Nat, k ≤ n ∧ i = .int .i64 k ∧ Hid (∀ j, j < k → ¬ gi xs j = x) ∧ Quiet w wr) (fun i _ => (n - intOf i).toNat)
  case atStart => exact ⟨0, by omega, rfl, fun j hj => absurd hj (by omega), Quiet.refl _⟩
  case round =>
    obtain ⟨k, hk, rfl, hall, hq⟩ := hrel
    obtain ⟨q, rfl⟩ := hq
    have hq : Quiet w (w.drewN q) := ⟨q, rfl⟩
    by_cases hlt : k < n
    · obtain ⟨b1, o1, rfl, hb1, hc1⟩ := hx'.out.get k hlt
      have g1 := (hc1 k hlt).1
      have i1 := (hc1 k hlt).2
      clear hc1
      obtain ⟨X, hX⟩ : ∃ X, X = gi xs k := ⟨_, rfl⟩
      rw [← hX] at g1
      have hX' := Lib.hid hX
      clear hX i1
      have hkn : (k : Int) < n := by omega
      by_cases e : X = x
      · have e1 : (X == x) = true := by simpa using e
        have e' := Lib.hid e
        clear e
        go_wp2
        go_ret
        exact ⟨ret_int (by rw [hR'.out, findI_some (by rw [hnx.out]; exact hlt) hall.out (by rw [← hX'.out]; exact e'.out)]), by first | exact hq | exact hq.drewN _⟩
      · have e1 : (X == x) = false := by simpa using e
        have e' := Lib.hid e
        clear e
        go_wp2
        go_roundw
        case rel => exact ⟨k + 1, by omega, by go_num, fun j hj => by
          by_cases e : j = k
          · subst e; rw [← hX'.out]; exact e'.out
          · exact hall.out j (by omega), by first | exact hq | exact hq.drewN _⟩
        case measure => simp [intOf]; omega
    · obtain rfl : k = n := by omega
      go_wp2
      go_ret
      exact ⟨ret_int (by rw [hR'.out, findI_none (by rw [hnx.out]; exact hall.out)]), by first | exact hq | exact hq.drewN _⟩

/-- Are all elements from 0 to below a number, and each greater than the one before? -/
def lastI (xs : List Int) (k : Nat) : Int := if k = 0 then -1 else gi xs (k - 1)
def growsB (xs : List Int) (m : Int) : Bool := allB xs.length fun k => decide (lastI xs k < gi xs k) && decide (gi xs k < m)
theorem growsB_of {xs : List Int} {m : Int} (h : incB xs = true) (h0 : ∀ k, k < xs.length → 0 ≤ gi xs k ∧ gi xs k < m) : growsB xs m = true := by
  unfold growsB
  rw [allB_iff]
  intro k hk
  have := h0 k hk
  unfold lastI
  simp only [Bool.and_eq_true, decide_eq_true_eq]
  refine ⟨?_, this.2⟩
  split
  · omega
  · unfold incB at h
    rw [allB_iff] at h
    have h1 := h (k - 1) (by omega)
    rw [show k - 1 + 1 = k by omega] at h1
    simpa using h1
set_option maxHeartbeats 400000 in
theorem Grows_any {B : Nat} {a : Option Addr} {xs : List Int} {n c : Nat} {m : Int} {w : World} (hx : IntsAt B w a n xs) :
    Calls Try.prog 39 #[.slice a n c, .int .i64 m] w fun e w' => e = .returned (.bool (growsB xs m)) ∧ Quiet w w' := by
  have hx' := Lib.hid hx
  have hL : n ≤ 140737488355328 := hx.small
  have hnx := Lib.hid hx.len
  clear hx
  obtain ⟨R, hR⟩ : ∃ R, R = growsB xs m := ⟨_, rfl⟩
  rw [← hR]
  have hR' := Lib.hid hR
  clear hR
  go_enter Try.func39, Try.ntmps39
  go_wp2
  go_loopw [5, 6] (fun l i wr => ∃ k : Nat, k ≤ n ∧ i = .int .i64 k ∧ l = .int .i64 (lastI xs k) ∧ Hid (allB k (fun k => decide (lastI xs k < gi xs k) && decide (gi xs k < m)) = true) ∧ Quiet w wr) (fun _ i _ => (n - intOf i).toNat)
  case atStart => exact ⟨0, by omega, rfl, rfl, rfl, Quiet.refl _⟩
  case round =>
    obtain ⟨k, hk, rfl, rfl, hall, hq⟩ := hrel
    obtain ⟨q, rfl⟩ := hq
    have hq : Quiet w (w.drewN q) := ⟨q, rfl⟩
    by_cases hlt : k < n
    · obtain ⟨b1, o1, rfl, hb1, hc1⟩ := hx'.out.get k hlt
      have g1 := (hc1 k hlt).1
      clear hc1
      obtain ⟨L, hL'⟩ : ∃ L, L = lastI xs k := ⟨_, rfl⟩
      obtain ⟨X, hX⟩ : ∃ X, X = gi xs k := ⟨_, rfl⟩
      rw [← hX] at g1
      rw [← hL']
      have hXL := Lib.hid (And.intro hX hL')
      clear hX hL'
      have hkn : (k : Int) < n := by omega
      by_cases e : L < X ∧ X < m
      · obtain ⟨e1, e2⟩ := e
        have e1' : ¬ X ≤ L := by omega
        have e2' : ¬ m ≤ X := by omega
        go_wp2
        go_roundw
        case rel => exact ⟨k + 1, by omega, by go_num, by unfold lastI; rw [if_neg (by omega), show k + 1 - 1 = k by omega, ← hXL.out.1], allB_succ hall.out (by rw [← hXL.out.1, ← hXL.out.2]; simp [e1, e2]), by first | exact hq | exact hq.drewN _⟩
        case measure => simp [intOf]; omega
      · have hF : growsB xs m = false := by
          unfold growsB
          refine allB_false (i := k) (by rw [hnx.out]; exact hlt) ?_
          rw [← hXL.out.1, ← hXL.out.2]
          simp only [Bool.and_eq_false_iff, decide_eq_false_iff_not]
          omega
        have hF' := Lib.hid hF
        clear hF
        by_cases e1 : L < X
        · have e2 : m ≤ X := by omega
          clear e
          go_wp2
          go_ret
          exact ⟨ret_bool (by rw [hR'.out, hF'.out]), by first | exact hq | exact hq.drewN _⟩
        · clear e
          have e1' : X ≤ L := by omega
          go_wp2
          go_ret
          exact ⟨ret_bool (by rw [hR'.out, hF'.out]), by first | exact hq | exact hq.drewN _⟩
    · obtain rfl : k = n := by omega
      have hT : growsB xs m = true := by unfold growsB; rw [hnx.out]; exact hall.out
      have hT' := Lib.hid hT
      clear hT
      go_wp2
      go_ret
      exact ⟨ret_bool (by rw [hR'.out, hT'.out]), by first | exact hq | exact hq.drewN _⟩

theorem Ordered_yes {lo hi a b : Int} (w : World) (h1 : a ≤ lo) (h2 : lo ≤ hi) (h3 : hi ≤ b) :
    Calls Try.prog 68 #[.agg #[.int .i64 lo, .int .i64 hi], .int .i64 a, .int .i64 b] w fun e w' => e = .returned (.bool true) ∧ Below w.heap.size w w' := by
  go_enter Try.func68, Try.ntmps68
  go_wp2
  go_ret
  exact ⟨by simp, (Below.refl _ _).alloc (Nat.le_refl _) _⟩
end Go.Proofs.Ytbbolibkheelmaa
namespace Go.Proofs.Ytbbolibkheelmaa
open Go.RowKit Go.Shelf

theorem grows_of {x : Book} (h : bookOk x = true) {i : Nat} (hi : i < x.parts.length) : growsB (gs x.parts i).joints (gs x.parts i).long = true := by
  have hG := good_of h
  refine growsB_of ?_ (fun k hk => hG.joint i hi k hk)
  unfold bookOk at h
  simp only [Bool.and_eq_true, allB_iff] at h
  have := h.2 i hi
  unfold shapeOk at this
  simp only [Bool.and_eq_true] at this
  exact this.2
theorem knot_of {x : Book} (h : bookOk x = true) {i k : Nat} (hi : i < x.planks.length) (hk : k < (gw x.planks i).knots.length) :
    0 ≤ (gp (gw x.planks i).knots k).1 ∧ (gp (gw x.planks i).knots k).1 ≤ (gp (gw x.planks i).knots k).2 ∧ (gp (gw x.planks i).knots k).2 ≤ (gw x.planks i).long - 1 := by
  unfold bookOk at h
  simp only [Bool.and_eq_true, allB_iff] at h
  have := h.1.2 i hi
  unfold woodOk at this
  simp only [Bool.and_eq_true, allB_iff] at this
  have := this.2 k hk
  unfold spanOk withinB at this
  simp only [Bool.and_eq_true, decide_eq_true_eq] at this
  omega

set_option maxRecDepth 100000 in
set_option maxHeartbeats 2000000 in
theorem sound_any {B : Nat} {pa sa : Option Addr} {pn pc sn sc : Nat} {x : Book} {w : World} (hB : B ≤ w.heap.size) (hx : BookAt B w pa pn sa sn x) :
    Calls Try.prog 34 #[.agg #[.slice pa pn pc, .slice sa sn sc]] w fun e w' => e = .returned (.bool (bookOk x)) ∧ Below w.heap.size w w' := by
  have hpn := Lib.hid hx.planks.len
  have hsn := Lib.hid hx.parts.len
  have hps := hx.planks.small
  have hss := hx.parts.small
  obtain ⟨W0, hW0⟩ : ∃ W0, W0 = w.alloc (.cells #[.slice pa pn pc, .slice sa sn sc] 25) := ⟨_, rfl⟩
  have hb0 : Below w.heap.size w W0 := by rw [hW0]; exact (Below.refl _ _).alloc (Nat.le_refl _) _
  have hk0 : Blk W0 w.heap.size #[.slice pa pn pc, .slice sa sn sc] := by rw [hW0]; exact Blk.new w _ _
  have hsz0 : W0.heap.size = w.heap.size + 1 := by rw [hW0]; simp
  have hx0 := Lib.hid (hx.keep (w' := W0) (Nat.le_refl _) (fun b o h => bcells hb0 b o (by omega)))
  have hx' := Lib.hid hx
  clear hx
  have hs0 := Lib.hid hsz0
  have l0 : w.heap.size < W0.heap.size := by omega
  clear hsz0
  rcases Bool.eq_false_or_eq_true (bookOk x) with hb | hb
  case inr =>
    rw [hb]
    have hb' := Lib.hid hb
    clear hb
    go_enter Try.func34, Try.ntmps34
    replace hW0 := hW0.symm
    have q0 : W0.cell? ⟨w.heap.size, 0, none⟩ = some (.slice pa pn pc) := hk0.cell
    have q1 : W0.cell? ⟨w.heap.size, 1, none⟩ = some (.slice sa sn sc) := hk0.cell
    go_wp2_with (go_at_call 18; refine (Check_any (B := B) (by omega) hx0.out).mono ?_; rintro e w1 ⟨rfl, hb1⟩; rw [hb'.out]; have hbw : Below w.heap.size w w1 := hb0.trans (hb1.mono (by omega)); clear hb1)
    clear hW0
    go_loopw [3, 4] (fun v i wr => v = .bool false ∧ i = .int .i64 0 ∧ w1 = wr) (fun _ _ _ => 0)
    case atStart => exact ⟨rfl, rfl, rfl⟩
    case round =>
      obtain ⟨rfl, rfl, rfl⟩ := hrel
      go_wp2
      go_loopw [3, 7] (fun v i wr => v = .bool false ∧ i = .int .i64 0 ∧ w1 = wr) (fun _ _ _ => 0)
      case atStart => exact ⟨rfl, rfl, rfl⟩
      case round =>
        obtain ⟨rfl, rfl, rfl⟩ := hrel
        go_wp2
        go_ret
        exact ⟨rfl, hbw⟩
  case inl =>
    rw [hb]
    have hG := good_of hb
    have hb' := Lib.hid hb
    clear hb
    have hp1 := hG.planks
    have hp2 := hG.parts
    rw [hpn.out] at hp1
    rw [hsn.out] at hp2
    obtain ⟨p1, p2⟩ := hp1
    obtain ⟨s1, s2⟩ := hp2
    have hG' := Lib.hid hG
    clear hG
    go_enter Try.func34, Try.ntmps34
    replace hW0 := hW0.symm
    have q0 : W0.cell? ⟨w.heap.size, 0, none⟩ = some (.slice pa pn pc) := hk0.cell
    have q1 : W0.cell? ⟨w.heap.size, 1, none⟩ = some (.slice sa sn sc) := hk0.cell
    go_wp2_with (first | (go_at_call 18; refine (Check_any (B := B) (by omega) hx0.out).mono ?_; rintro e w1 ⟨rfl, hb1⟩; rw [hb'.out]; have bk1 := hk0.below hb1 l0; have q0 : w1.cell? ⟨w.heap.size, 0, none⟩ = some (.slice pa pn pc) := bk1.cell; have q1 : w1.cell? ⟨w.heap.size, 1, none⟩ = some (.slice sa sn sc) := bk1.cell; have l1 : w.heap.size < w1.heap.size := Nat.lt_of_lt_of_le l0 hb1.size; have hbw : Below w.heap.size w w1 := hb0.trans (hb1.mono (by omega)); clear hb1) | (go_at_call 38; refine (In_yes (by omega) (by omega) _).mono ?_; rintro e w' ⟨rfl, rfl⟩))
    clear q0 q1 hW0
    go_loopw [3, 4] (fun v i wr => ∃ k : Nat, k ≤ pn ∧ v = .bool true ∧ i = .int .i64 k ∧ Below w1.heap.size w1 wr) (fun _ i _ => pn - (intOf i).toNat)
    case atStart => exact ⟨0, by omega, rfl, rfl, Below.refl _ _⟩
    case round =>
      obtain ⟨k, hk, rfl, rfl, hb2⟩ := hrel
      have bk2 := bk1.below hb2 l1
      have q0 : wr.cell? ⟨w.heap.size, 0, none⟩ = some (.slice pa pn pc) := bk2.cell
      have q1 : wr.cell? ⟨w.heap.size, 1, none⟩ = some (.slice sa sn sc) := bk2.cell
      have l2 : w.heap.size < wr.heap.size := Nat.lt_of_lt_of_le l1 hb2.size
      have hbr : Below w.heap.size w wr := hbw.trans (hb2.mono (by omega))
      by_cases hlt : k < pn
      · obtain ⟨b, o, rfl, hbB, hc⟩ := hx'.out.planks.get _ hlt
        obtain ⟨v, hv, hc1, hc2, hi1⟩ := hc k hlt
        clear hc
        have d1 := (bcells hbr _ (o + k * 2) (by omega)).trans hc1
        have d2 := (bcells hbr _ (o + k * 2 + 1) (by omega)).trans hc2
        obtain ⟨ka, kn, kc, rfl, hks⟩ := hv
        clear hc1 hc2
        have hw := hG'.out.wood k (by rw [hpn.out]; exact hlt)
        rw [hks.len] at hw
        obtain ⟨hw1, hw2, hw3⟩ := hw
        obtain ⟨L, hL⟩ : ∃ L, L = (gw x.planks k).long := ⟨_, rfl⟩
        rw [← hL] at hw1 hw2 d1
        have hL' := Lib.hid hL
        clear hL hi1
        have hks' := Lib.hid hks
        clear hks
        have lb : b < wr.heap.size := by omega
        have hk3 : decide ((kn : Int) ≤ 3) = true := decide_eq_true (by omega)
        go_wp2_with (go_at_call 38; refine (In_yes (by omega) (by omega) _).mono ?_; rintro e w' ⟨rfl, rfl⟩)
        obtain ⟨wo, hwo⟩ : ∃ wo, wo = wr := ⟨_, rfl⟩
        rw [← hwo] at bk2 q0 q1 l2 hbr d1 d2 lb hb2 ⊢
        clear hwo
        obtain ⟨W2, hW2⟩ : ∃ W2, W2 = wo.alloc (.cells #[.int .i64 L, .slice ka kn kc] 48) := ⟨_, rfl⟩
        have hb3 : Below wo.heap.size wo W2 := by rw [hW2]; exact (Below.refl _ _).alloc (Nat.le_refl _) _
        have hk2 : Blk W2 wo.heap.size #[.int .i64 L, .slice ka kn kc] := by rw [hW2]; exact Blk.new wo _ _
        have l3 : wo.heap.size < W2.heap.size := hk2.lt
        have hb4 : Below w.heap.size w W2 := hbr.trans (hb3.mono (by omega))
        have hb5 : Below w1.heap.size w1 W2 := hb2.trans (hb3.mono hb2.size)
        have hkn := Lib.hid hks'.out.len
        rw [← hW2]
        clear hW2 hb3 d1 d2 lb bk2 q0 q1 hb2 hbr hk3
        go_loopw [3, 6] (fun v i wr => ∃ j : Nat, j ≤ kn ∧ v = .bool true ∧ i = .int .i64 j ∧ Below W2.heap.size W2 wr) (fun _ i _ => kn - (intOf i).toNat)
        case atStart => exact ⟨0, by omega, rfl, rfl, Below.refl _ _⟩
        case round =>
          obtain ⟨j, hj, rfl, rfl, hb6⟩ := hrel
          have bk3 := hk2.below hb6 l3
          have q0 : wr.cell? ⟨wo.heap.size, 0, none⟩ = some (.int .i64 L) := bk3.cell
          have q1 : wr.cell? ⟨wo.heap.size, 1, none⟩ = some (.slice ka kn kc) := bk3.cell
          have l4 : wo.heap.size < wr.heap.size := Nat.lt_of_lt_of_le l3 hb6.size
          by_cases hjl : j < kn
          · obtain ⟨kb, ko, rfl, hkB, hkc⟩ := hks'.out.get _ hjl
            obtain ⟨g1, g2, i1, i2⟩ := hkc j hjl
            clear hkc
            have hbw6 : Below w.heap.size w wr := hb4.trans (hb6.mono (by omega))
            have g1' := (bcells hbw6 _ (ko + j * 2) (by omega)).trans g1
            have g2' := (bcells hbw6 _ (ko + j * 2 + 1) (by omega)).trans g2
            clear g1 g2
            have hko := knot_of hb'.out (i := k) (k := j) (by rw [hpn.out]; exact hlt) (by rw [hkn.out]; exact hjl)
            rw [← hL'.out] at hko
            obtain ⟨X, hX⟩ : ∃ X, X = (gp (gw x.planks k).knots j).1 := ⟨_, rfl⟩
            obtain ⟨Y, hY⟩ : ∃ Y, Y = (gp (gw x.planks k).knots j).2 := ⟨_, rfl⟩
            rw [← hX] at hko g1'
            rw [← hY] at hko g2'
            obtain ⟨o1, o2, o3⟩ := hko
            clear hX hY i1 i2
            have e1 : IntKind.i64.wrap (L - 1) = L - 1 := IntWalk.i64_in _ (by omega)
            have lk : kb < wr.heap.size := by omega
            go_wp2
            go_still_tail 8, (by kernel_rfl)
            go_wp2_with (go_at_call 68; refine (Ordered_yes _ (by omega) (by omega) (by omega)).mono ?_; rintro e w' ⟨rfl, hb7⟩)
            go_roundw
            case rel => exact ⟨j + 1, by omega, rfl, by go_num, hb6.drew.trans (hb7.mono hb6.size)⟩
            case measure => simp [intOf]; omega
          · obtain rfl : j = kn := by omega
            go_wp2
            go_roundw
            case rel => exact ⟨k + 1, by omega, rfl, by go_num, hb5.trans (hb6.mono hb5.size)⟩
            case measure => simp [intOf]; omega
      · obtain rfl : k = pn := by omega
        go_wp2
        obtain ⟨w2, hw2⟩ : ∃ w2, w2 = wr := ⟨_, rfl⟩
        rw [← hw2] at bk2 q0 q1 l2 hbr hb2 ⊢
        clear hw2 q0 q1 hb2
        go_loopw [3, 7] (fun v i wr => ∃ j : Nat, j ≤ sn ∧ v = .bool true ∧ i = .int .i64 j ∧ Below w2.heap.size w2 wr) (fun _ i _ => sn - (intOf i).toNat)
        case atStart => exact ⟨0, by omega, rfl, rfl, Below.refl _ _⟩
        case round =>
          obtain ⟨j, hj, rfl, rfl, hb3⟩ := hrel
          have bk3 := bk2.below hb3 l2
          have q0 : wr.cell? ⟨w.heap.size, 0, none⟩ = some (.slice pa k pc) := bk3.cell
          have q1 : wr.cell? ⟨w.heap.size, 1, none⟩ = some (.slice sa sn sc) := bk3.cell
          have l3 : w.heap.size < wr.heap.size := Nat.lt_of_lt_of_le l2 hb3.size
          have hbr3 : Below w.heap.size w wr := hbr.trans (hb3.mono (by omega))
          by_cases hlt2 : j < sn
          · obtain ⟨b, o, rfl, hbB, hc⟩ := hx'.out.parts.get _ hlt2
            obtain ⟨v, hv, hc1, hc2, hc3, hi1⟩ := hc j hlt2
            clear hc
            have d1 := (bcells hbr3 _ (o + j * 3) (by omega)).trans hc1
            have d2 := (bcells hbr3 _ (o + j * 3 + 1) (by omega)).trans hc2
            have d3 := (bcells hbr3 _ (o + j * 3 + 2) (by omega)).trans hc3
            obtain ⟨ka, kn, kc, rfl, hks⟩ := hv
            clear hc1 hc2 hc3
            have hw := hG'.out.shape j (by rw [hsn.out]; exact hlt2)
            have hgr := Lib.hid (grows_of hb'.out (i := j) (by rw [hsn.out]; exact hlt2))
            rw [hks.len] at hw
            obtain ⟨hw1, hw2, hw3⟩ := hw
            obtain ⟨L, hL⟩ : ∃ L, L = (gs x.parts j).long := ⟨_, rfl⟩
            rw [← hL] at hw1 hw2 d1
            have hL' := Lib.hid hL
            clear hL hi1
            have hk3 : decide ((kn : Int) ≤ 3) = true := decide_eq_true (by omega)
            have lb : b < wr.heap.size := by omega
            have hks' := Lib.hid (hks.keep (w' := wr.alloc (.cells #[.int .i64 L, .slice ka kn kc, .bool (gs x.parts j).turns] 50)) (Nat.le_refl _) (fun b o h => (cell_alloc_lt _ (by omega)).trans (bcells hbr3 b o (by omega))))
            clear hks
            go_wp2_with (first | (go_at_call 38; refine (In_yes (by omega) (by omega) _).mono ?_; rintro e w' ⟨rfl, rfl⟩) | (go_at_call 39; refine (Grows_any (m := L) hks'.out).mono ?_; rintro e w' ⟨rfl, q, rfl⟩; rw [hL'.out, hgr.out]))
            go_roundw
            case rel => exact ⟨j + 1, by omega, rfl, by go_num, below_drewN (hb3.alloc hb3.size _) _⟩
            case measure => simp [intOf]; omega
          · obtain rfl : j = sn := by omega
            go_wp2
            go_ret
            exact ⟨rfl, hbr3⟩
end Go.Proofs.Ytbbolibkheelmaa
