/- A range over a function whose rounds write blocks that earlier rounds have laid: what the rounds own grows. Walks: Spots. Walks: may a part lie there yet? -/
import Derived.Test.YtbbolibkheelmaaGa03
import Derived.Test.YtbbolibkheelmaaGa06
import Derived.Maps.AppendAt
namespace Go.Proofs.Ytbbolibkheelmaa
open Go.RowKit Go.Shelf

attribute [local go_sem] Oper.semAt_some

/-- What a round owns behind it: what it owned, and what is new. -/
def Grew (R R' : Nat → Prop) (W W' : World) : Prop := (∀ k, R' k → R k ∨ W.heap.size ≤ k) ∧ ∀ k, R' k → k < W'.heap.size

/-- An iterator that yields just xs, to rounds whose blocks R grow. -/
def SeqG {α : Type} (F : Fence) (P : Program) (g : Nat) (lb : Array Value) (encs : α → Array Value) (xs : List α) (C : Nat → Prop) (w : World) : Prop :=
  ∀ (l : Nat) (R0 : Nat → Prop) (J Jx : (Nat → Prop) → List α → World → Prop) (W : World),
    SameBut (fun _ => False) w W → (∀ k, R0 k → k < W.heap.size) → (∀ k, C k → k < W.heap.size ∧ ¬ R0 k) → (∀ R, Stable W.heap.size (J R)) →
    (∀ R pre x W1, pre ++ [x] <+: xs → (∀ k, R k → k < W1.heap.size) → J R pre W1 → YieldAt F 0 P l (encs x) W1 fun e W' => ∃ R', Grew R R' W1 W' ∧ SameBut R W1 W' ∧
      ((e = .returned (.bool true) ∧ J R' (pre ++ [x]) W') ∨ (e = .returned (.bool false) ∧ Jx R' (pre ++ [x]) W'))) →
    J R0 [] W →
    CallsIn F 0 P g (#[.func (.yield l) #[] #[]] ++ lb) W fun e W' => (∃ v, e = .returned v) ∧ ((∃ R, J R xs W') ∨ ∃ R pre, pre <+: xs ∧ Jx R pre W')

/-- How the body of a round may be left. -/
def rangeG {α : Type} (R : Nat → Prop) (I : (Nat → Prop) → List α → World → Prop) (xs : List α) (W : World) : Exit → Act → World → Prop
  | .normal, _, W' => ∃ R', Grew R R' W W' ∧ SameBut R W W' ∧ I R' xs W'
  | _, _, _ => False

section
variable {F : Fence} {P : Program}

theorem range_roundG {α : Type} {ps : Array Tmp} {assign body : Code} {a : Act} {B l D : Nat} {rec : LoopState → Option Code → Loop} (hF : ∀ f, F.fn f) {fn : FuncId}
    (hrec : rec = fun st pe => { state := st, pending := pe, fn, tmps := a.tmps, params := ps, assign, body, defers := D }) (hBl : B ≤ l)
    {encs : α → Array Value} (hps : ∀ x, (encs x).size = ps.size)
    {I : (Nat → Prop) → List α → World → Prop} (hI : ∀ R, Stable B (I R)) {Ax : α → Act → World → Prop} (hAx : ∀ x a', Stable B (fun (_ : Unit) W => Ax x a' W))
    {R : Nat → Prop} {pre : List α} {x : α} {W : World} (hl : W.heap[l]? = some (.loop (rec .ready none))) (hRl : ¬ R l) (hRW : ∀ k, R k → k < W.heap.size)
    (hassign : ∀ (K : Act → World → Prop), (∀ a' W', SameBut R W W' → I R pre W' → Ax x a' W' → K a' W') →
      assign.wpIn (F.inRound l) 0 P (Exit.then K (fun _ _ _ => False)) { tmps := (ps.zip (encs x)).foldl (fun t (p, v) => t.setIfInBounds p v) a.tmps, defers := [] } W)
    (hbody : ∀ (a' : Act) (W' : World), (∀ k, R k → k < W'.heap.size) → I R pre W' → Ax x a' W' → body.wpIn (F.inRound l) 0 P (rangeG R I (pre ++ [x]) W') a' W') :
    YieldAt F 0 P l (encs x) W fun e W' => ∃ R', Grew R R' W W' ∧ ¬ R' l ∧ SameBut (fun k => R k ∨ k = l) W W' ∧ e = .returned (.bool true) ∧ I R' (pre ++ [x]) W' ∧ W'.heap[l]? = some (.loop (rec .ready none)) := by
  have hy := run_yield (P := P) (args := encs x) hl (by rw [hrec]; exact hps x)
  rw [hrec] at hy
  refine ⟨fn, _, assign, body, hy, roundIn_of_wpIn (hF fn) (hassign _ ?_)⟩
  intro a' Wa hs hia hax
  have hlW : l < W.heap.size := (Array.getElem?_eq_some_iff.1 hl).1
  have hla : Wa.heap[l]? = some (.loop (rec .ready none)) := by rw [hs.block l hlW hRl]; exact hl
  have hlt : l < Wa.heap.size := (Array.getElem?_eq_some_iff.1 hla).1
  refine ⟨_, run_beginRound hla (by rw [hrec]), ?_⟩
  have hl2 : (Wa.putObj l (.loop { rec .ready none with state := .busy })).heap[l]? = some (.loop { rec .ready none with state := .busy }) := World.putObj_heap_same hlt
  have hca : Calm B Wa (Wa.putObj l (.loop { rec .ready none with state := .busy })) := calm_put _ hla hBl rfl
  have hsz := hs.size
  refine wpIn_mono (hbody a' _ (fun k hk => by rw [World.putObj_size]; have := hRW k hk; omega) (hI _ _ _ _ hia hca) (hAx x a' () _ _ hax hca)) ?_
  have hs2 : SameBut (fun k => R k ∨ k = l) W (Wa.putObj l (.loop { rec .ready none with state := .busy })) := same_put (hs.mono fun k h => .inl h) _ (.inl (.inr rfl))
  rintro e a3 W3 hp
  cases e with
  | normal =>
    obtain ⟨R', ⟨hg1, hg2⟩, hs3, hi3⟩ := hp
    have hl3 : W3.heap[l]? = some (.loop { rec .ready none with state := .busy }) := by rw [hs3.block l (by rw [World.putObj_size]; exact hlt) hRl]; exact hl2
    have hr := run_endRound (P := P) none hl3
    have hc : Calm B W3 (W3.putObj l (.loop (rec .ready none))) := calm_put _ hl3 hBl rfl
    rw [World.putObj_size] at hg1
    have hRl' : ¬ R' l := fun h => by rcases hg1 l h with h | h; exact hRl h; omega
    refine ⟨.bool true, W3.putObj l (.loop (rec .ready none)), by rw [hr, hrec]; rfl, R', ⟨fun k hk => ?_, fun k hk => by rw [World.putObj_size]; exact hg2 k hk⟩, hRl', same_put (hs2.trans (hs3.mono fun k h => .inl h)) _ (.inl (.inr rfl)), rfl, hI _ _ _ _ hi3 hc, World.putObj_heap_same (Array.getElem?_eq_some_iff.1 hl3).1⟩
    rcases hg1 k hk with h | h
    · exact .inl h
    · exact .inr (by omega)
  | ret => exact hp.elim
  | exit id => exact hp.elim
  | goto t => exact hp.elim
  | panic ch => exact hp.elim
  | outgrown => exact hp.elim

/-- The statement 'for .. := range g', in a function's own frame; no round leaves early. -/
theorem wpIn_rangeG {α : Type} {g : Operand} {ps : Array Tmp} {assign body : Code} {Q : Exit → Act → World → Prop} {a : Act} {w : World} (hO : Open F) (hro : F.round = none)
    {gf : Nat} {lb : Array Value} (hg : a.eval g = .func (.func gf) #[] lb) (eg : ∀ args w, (callFunc gf args).run P w = .ok (.enter gf args) w)
    {encs : α → Array Value} {xs : List α} {C : Nat → Prop} (hseq : SeqG F P gf lb encs xs C w) (hps : ∀ x, (encs x).size = ps.size)
    (R0 : Nat → Prop) (hR0 : ∀ k, R0 k → k < w.heap.size) (hC : ∀ k, C k → k < w.heap.size ∧ ¬ R0 k)
    (I : (Nat → Prop) → List α → World → Prop) (hI : ∀ R, Stable w.heap.size (I R)) (h0 : I R0 [] w)
    (Ax : α → Act → World → Prop) (hAx : ∀ x a', Stable w.heap.size (fun (_ : Unit) W => Ax x a' W))
    (hassign : ∀ (l : Nat) (R : Nat → Prop) (pre : List α) (x : α) (W : World) (K : Act → World → Prop), pre ++ [x] <+: xs → (∀ k, R k → k < W.heap.size) → I R pre W → (∀ a' W', SameBut R W W' → I R pre W' → Ax x a' W' → K a' W') →
      assign.wpIn (F.inRound l) 0 P (Exit.then K (fun _ _ _ => False)) { tmps := (ps.zip (encs x)).foldl (fun t (p, v) => t.setIfInBounds p v) a.tmps, defers := [] } W)
    (hbody : ∀ (l : Nat) (R : Nat → Prop) (pre : List α) (x : α) (a' : Act) (W : World), pre ++ [x] <+: xs → (∀ k, R k → k < W.heap.size) → I R pre W → Ax x a' W → body.wpIn (F.inRound l) 0 P (rangeG R I (pre ++ [x]) W) a' W)
    (hdone : ∀ (R : Nat → Prop) (W : World), I R xs W → W.heap[w.heap.size]? = some (.deferred (some [])) → Q .normal { a with defers := { target := .collected w.heap.size, args := #[] } :: a.defers } W) :
    (Code.rangeFunc g ps assign body).wpIn F 0 P Q a w := by
  refine wpIn_rangeFunc ?_
  intro fn _
  rw [hro]
  obtain ⟨rec, hrec⟩ : ∃ rec : LoopState → Option Code → Loop, rec = fun st pe => { state := st, pending := pe, fn, tmps := a.tmps, params := ps, assign, body, defers := w.heap.size } := ⟨_, rfl⟩
  obtain ⟨W1, hW1⟩ : ∃ W1, (w.alloc (.deferred (some []))).alloc (.loop (rec .ready none)) = W1 := ⟨_, rfl⟩
  have hsz1 : W1.heap.size = w.heap.size + 2 := by rw [← hW1]; simp
  have hL1 : W1.heap[w.heap.size + 1]? = some (.loop (rec .ready none)) := by
    rw [← hW1]; have := World.alloc_heap_new (w.alloc (.deferred (some []))) (.loop (rec .ready none)); rwa [World.size_alloc] at this
  have hK1 : W1.heap[w.heap.size]? = some (.deferred (some [])) := by
    rw [← hW1]; exact (Below.heap_alloc _ _ _ (by simp)).trans (World.alloc_heap_new w _)
  have hc1 : Calm w.heap.size w W1 := by rw [← hW1]; exact (calm_alloc _ _ _).trans (calm_alloc _ _ _)
  have hs1 : SameBut (fun _ => False) w W1 := by rw [← hW1]; exact ((SameBut.refl _ w).alloc _).alloc _
  refine ⟨w.heap.size + 1, [{ target := .collected w.heap.size, args := #[] }], W1, { target := .fn (.func gf) lb, args := #[.func (.yield (w.heap.size + 1)) #[] #[]] }, W1, gf,
    #[.func (.yield (w.heap.size + 1)) #[] #[]] ++ lb, W1, ?_, ?_, ?_, ?_, fun h => (by rw [hO.depth] at h; cases h), ?_⟩
  · rw [← hW1, hrec]; exact run_enterLoop_outer _ _ _ _ _
  · simp only [resolve, hg]
    simp [go_sem]
  · intro f' _; exact hO.fn f'
  · simp [invoke, go_sem, eg]
  · refine (hseq (w.heap.size + 1) (fun k => R0 k ∨ k = w.heap.size + 1)
      (fun R' pre W => ∃ R, (R' = fun k => R k ∨ k = w.heap.size + 1) ∧ ¬ R (w.heap.size + 1) ∧ ¬ R w.heap.size ∧ (I R pre W ∧ W.heap[w.heap.size + 1]? = some (.loop (rec .ready none))) ∧ W.heap[w.heap.size]? = some (.deferred (some [])))
      (fun _ _ _ => False)
      W1 hs1 ?_ ?_ ?_ ?_ ⟨R0, rfl, fun h => by have := hR0 _ h; omega, fun h => by have := hR0 _ h; omega, ⟨hI _ _ _ _ h0 hc1, hL1⟩, hK1⟩).mono ?_
    · rintro k (hk | rfl)
      · have := hR0 k hk; omega
      · omega
    · intro k hk
      have h := hC k hk
      refine ⟨by omega, ?_⟩
      rintro (h' | rfl)
      · exact h.2 h'
      · omega
    · rintro R' s W W' ⟨R, hR, h4, h5, ⟨h1, h2⟩, h3⟩ hc
      exact ⟨R, hR, h4, h5, ⟨hI _ _ _ _ h1 (hc.mono (by omega)), hc.block _ _ h2 (.inl (by omega))⟩, hc.block _ _ h3 (.inl (by omega))⟩
    · rintro R' pre x W hx hRW ⟨R, rfl, h4, h5, ⟨hi, hl⟩, hk⟩
      have hRW' : ∀ k, R k → k < W.heap.size := fun k h => hRW k (.inl h)
      obtain ⟨f', t', as', bo', hy, hRd⟩ := range_roundG (F := F) (P := P) hO.fn hrec (Nat.le_succ _) hps hI hAx hl h4 hRW' (fun K hK => hassign _ R pre x W K hx hRW' hi hK) (fun a' W' hr hi' ha' => hbody _ R pre x a' W' hx hr hi' ha')
      have hlW : w.heap.size + 1 < W.heap.size := (Array.getElem?_eq_some_iff.1 hl).1
      refine ⟨f', t', as', bo', hy, hRd.mono ?_⟩
      rintro e W' ⟨R2, ⟨hg1, hg2⟩, hn, hs, rfl, hi2, hl2⟩
      refine ⟨fun k => R2 k ∨ k = w.heap.size + 1, ⟨?_, ?_⟩, hs, .inl ⟨rfl, R2, rfl, hn, ?_, ⟨hi2, hl2⟩, ?_⟩⟩
      · rintro k (h | rfl)
        · rcases hg1 k h with h | h
          · exact .inl (.inl h)
          · exact .inr h
        · exact .inl (.inr rfl)
      · rintro k (h | rfl)
        · exact hg2 k h
        · have := hs.size; omega
      · intro h
        rcases hg1 _ h with h | h
        · exact h5 h
        · omega
      · rw [hs.block _ (Array.getElem?_eq_some_iff.1 hk).1 (by rintro (h | h); exact h5 h; omega)]; exact hk
    · rintro e W2 ⟨⟨v, rfl⟩, (⟨R', R, -, -, -, ⟨hi, hl⟩, hk⟩ | ⟨_, _, _, h⟩)⟩
      · refine ⟨none, _, by have := run_endLoop (P := P) hl (by rw [hrec]; simp); rw [hrec] at this; exact this, ?_⟩
        exact hdone R _ (hI _ _ _ _ hi (calm_put _ hl (by omega) rfl)) ((World.putObj_heap_other (by omega)).trans hk)
      · exact h.elim
end

set_option maxRecDepth 100000 in
set_option maxHeartbeats 1000000 in
theorem places_seqG {F : Fence} (hO : Open F) (hro : F.round = none) {B1 B2 p N : Nat} {w : World} (h1 : Blk w B1 #[.int .i64 p]) (h2 : Blk w B2 #[.int .i64 p, .int .i64 N]) (hN : N ≤ 1000) :
    SeqG F Try.prog 103 #[.pointer (some ⟨B1, 0, none⟩), .pointer (some ⟨B2, 0, none⟩)] (fun x => #[placeV p x]) (List.range N) (fun k => k = B1 ∨ k = B2) w := by
  intro l R0 J Jx W hW hR0 hCR hJ hY h0
  have hF := hO.fn
  have hd := hO.depth
  have g1 := h1.same hW (fun e => e)
  have g2 := h2.same hW (fun e => e)
  have hm2 : ¬ R0 B2 := (hCR _ (.inr rfl)).2
  have hl2 : B2 < W.heap.size := (hCR _ (.inr rfl)).1
  refine callsIn_of_wp Try.func103 rfl (hF _) ?_ hro
  simp only [Try.ntmps103, List.size_toArray, List.length_cons, List.length_nil, Nat.reduceAdd, Nat.reduceSub, Array.replicate_succ, Array.replicate_zero, List.push_toArray, List.append_toArray, List.nil_append, List.cons_append]
  have hc1 := g1.cell (i := 0)
  gi_wp2
  gi_loopw [4] (fun v wr => ∃ (k b : Nat) (R : Nat → Prop), k ≤ N ∧ v = .pointer (some ⟨b, 0, none⟩) ∧ W.heap.size ≤ b ∧ Blk wr b #[.int .i64 p, .int .i64 k] ∧ (J R (List.range k) wr ∧ (∀ k, R k → k < wr.heap.size) ∧ ¬ R b ∧ ¬ R B2) ∧ Blk wr B2 #[.int .i64 p, .int .i64 N] ∧ W.heap.size ≤ wr.heap.size) (fun v wr => N - atOf wr v)
  case atStart => exact ⟨0, W.heap.size, R0, by omega, rfl, Nat.le_refl _, Blk.new W _ _, ⟨hJ _ _ _ _ h0 (calm_alloc _ _ _), fun k hk => by have := hR0 k hk; simp; omega, fun h => by have := hR0 _ h; omega, hm2⟩, g2.alloc _, by simp⟩
  case round =>
    obtain ⟨k, b, R, hk, rfl, hbn, hblk, hJk', hb2, hsz⟩ := hrel
    have hJk := Lib.hid hJk'
    clear hJk'
    have hcc2 := hb2.cell (i := 0)
    have hcc3 := hb2.cell (i := 1)
    have hq0 := hblk.cell (i := 0)
    have hq1 := hblk.cell (i := 1)
    by_cases hlt : k < N
    · have hne : (k == N) = false := by simp; omega
      obtain ⟨fn, tmps, assign, body, hy, hRd⟩ := hY R _ k wr (range_pre hlt) hJk.out.2.1 hJk.out.1
      unfold placeV at hy
      gi_wp2
      refine hRd.mono ?_
      rintro e W3 ⟨R', hg, hk3, (⟨rfl, hJ3⟩ | ⟨rfl, hJx3⟩)⟩
      · have hblw : b < wr.heap.size := hblk.lt
        have hb2w : B2 < wr.heap.size := hb2.lt
        have hblk3 := hblk.same hk3 hJk.out.2.2.1
        have hb23 := hb2.same hk3 hJk.out.2.2.2
        have hsz3 := hk3.size
        have hr0 := hblk3.cell (i := 0)
        have hr1 := hblk3.cell (i := 1)
        have hbW : b < W3.heap.size := hblk3.lt
        have hR2 : ¬ R' B2 := fun h => by rcases hg.1 _ h with h | h; exact hJk.out.2.2.2 h; omega
        have hat : atOf wr (.pointer (some ⟨b, 0, none⟩)) = k := by simp [atOf, hq1]
        have hg' := Lib.hid hg
        have hR2' := Lib.hid hR2
        clear hq0 hq1 hcc2 hcc3 hg hR2
        gi_wp2
        go_roundw
        case rel => exact ⟨k + 1, W3.heap.size, R', by omega, rfl, by omega, Blk.new W3 _ _, ⟨by rw [List.range_succ]; exact hJ _ _ _ _ hJ3 (calm_alloc _ _ _), fun k hk => by have := hg'.out.2 k hk; simp; omega, fun h => by have := hg'.out.2 _ h; omega, hR2'.out⟩, hb23.alloc _, by simp; omega⟩
        case measure =>
          rw [hat]
          have : atOf (W3.alloc (.cells #[.int .i64 p, .int .i64 (k + 1)] 89)) (.pointer (some ⟨W3.heap.size, 0, none⟩)) = k + 1 := by simp [atOf]
          rw [this]; omega
      · gi_wp2
        refine bodyPost_ret (results_none rfl _ _ _) rfl ?_
        exact ⟨⟨_, rfl⟩, .inr ⟨R', List.range k ++ [k], range_pre hlt, hJx3⟩⟩
    · obtain rfl : k = N := by omega
      gi_wp2
      go_end0
      exact ⟨⟨_, rfl⟩, .inl ⟨R, hJk.out.1⟩⟩
end Go.Proofs.Ytbbolibkheelmaa
namespace Go.Proofs.Ytbbolibkheelmaa
open Go.RowKit Go.Shelf

attribute [local go_sem] Oper.semAt_some

/-- A value that is a slice, nil or not, that reads as the ints xs. -/
def IntsV (B : Nat) (w : World) (v : Value) (xs : List Int) : Prop := ∃ a n c, v = .slice a n c ∧ IntsAt B w a n xs

theorem gi_eq {xs : List Int} {i : Nat} (h : i < xs.length) : gi xs i = xs[i] := by simp [gi, h]
theorem ints_of_own {w : World} {base e : Nat} {v : Value} {xs : List Int} (h : w.ownsRow base e 1 v xs.length (xs.map intV)) (hx : ∀ i, i < xs.length → I64 (gi xs i)) (hm : xs.length ≤ 1000) : IntsV w.heap.size w v xs := by
  obtain ⟨h1, h2⟩ := h
  rcases h2 with ⟨rfl, h0⟩ | ⟨g, cap, cur, rfl, hb, hg, hn, hc, hs, ht⟩
  · exact ⟨none, 0, 0, rfl, h0, by omega, fun i hi => by omega⟩
  · refine ⟨some ⟨g, 0, none⟩, xs.length, cap, rfl, rfl, by omega, fun i hi => ⟨g, 0, rfl, (Array.getElem?_eq_some_iff.1 hg).1, fun i hi => ⟨?_, hx i hi⟩⟩⟩
    have hbl : Blk w g cur := ⟨_, hg⟩
    rw [hbl.cell, Nat.zero_add]
    have h3 : (cur.toList.take (xs.length * 1))[i]? = (xs.map intV)[i]? := by rw [ht]
    rw [List.getElem?_take_of_lt (by omega)] at h3
    rw [← Array.getElem?_toList, h3, List.getElem?_map, List.getElem?_eq_getElem hi, gi_eq hi]
    rfl
theorem own_slice {w : World} {base e size n : Nat} {v : Value} {xs : List Value} (h : w.ownsRow base e size v n xs) : ∃ a m c, v = .slice a m c := by
  rcases h.2 with ⟨rfl, _⟩ | ⟨g, cap, cur, rfl, _⟩
  · exact ⟨_, _, _, rfl⟩
  · exact ⟨_, _, _, rfl⟩
theorem own_calm {w w' : World} {B base e size n : Nat} {v : Value} {xs : List Value} (h : w.ownsRow base e size v n xs) (hc : Calm B w w') : w'.ownsRow base e size v n xs := by
  obtain ⟨h1, h2⟩ := h
  refine ⟨h1, ?_⟩
  rcases h2 with h | ⟨g, cap, cur, hv, hb, hg, r⟩
  · exact .inl h
  · exact .inr ⟨g, cap, cur, hv, hb, hc.block _ _ hg (.inr rfl), r⟩
theorem own_same {w w' : World} {base e size n : Nat} {v : Value} {xs : List Value} {R : Nat → Prop} (h : w.ownsRow base e size v n xs) (hs : SameBut R w w') (hn : ∀ g, v.ownBlock = some g → ¬ R g) : w'.ownsRow base e size v n xs := by
  obtain ⟨h1, h2⟩ := h
  refine ⟨h1, ?_⟩
  rcases h2 with h | ⟨g, cap, cur, rfl, hb, hg, r⟩
  · exact .inl h
  · exact .inr ⟨g, cap, cur, rfl, hb, by rw [hs.block _ (Array.getElem?_eq_some_iff.1 hg).1 (hn g rfl)]; exact hg, r⟩
theorem same_grown {w w' : World} {row : Option Nat} (h : w.grownBy w' row) {R : Nat → Prop} (hR : ∀ k, row = some k → R k) : SameBut R w w' :=
  ⟨h.os, h.tape, h.output, h.size, fun k hk hn => h.block k hk (fun e => hn (hR k e.symm))⟩

/-- The inches of the first t places at which the part j surely can be cut. -/
def spotsOf (bm : Int × Int → Option Int) (j : Int) (ts : List Nat) : List Int := (ts.filter fun (t : Nat) => decide ((bm (j, (t : Int))).getD 0 = 2)).map fun (t : Nat) => (t : Int)
def spotsL (x : Book) (i j : Int) : List Int :=
  if askE x i [j] = 0 then spotsOf (boardM (gw x.planks i.toNat) x.parts x.parts.length) j (List.range (many (gw x.planks i.toNat).long (gs x.parts j.toNat).long)) else []
theorem intInfo3 : (Try.prog.info? 3).map (fun i => (i.zero, i.size, i.bytes)) = some (some (.int .i64 0), 1, 8) := by kernel_rfl
theorem intsUnder : Try.prog.underlying 31 = some (.slice 3) := by kernel_rfl

theorem spots_len (bm : Int × Int → Option Int) (j : Int) (ts : List Nat) : (spotsOf bm j ts).length ≤ ts.length := by
  unfold spotsOf; rw [List.length_map]; exact List.length_filter_le _ _
theorem spots_i64 {bm : Int × Int → Option Int} {j : Int} {N i : Nat} (hN : N ≤ 16) (h : i < (spotsOf bm j (List.range N)).length) : I64 (gi (spotsOf bm j (List.range N)) i) := by
  rw [gi_eq h]
  have hm := List.getElem_mem h
  unfold spotsOf at hm
  rw [List.mem_map] at hm
  obtain ⟨t, ht, e⟩ := hm
  rw [List.mem_filter, List.mem_range] at ht
  unfold I64
  unfold spotsOf
  omega

/-- An append: kept shut. -/
def appendS (l : Array TypeId) (ty : TypeId) (args : Array Value) : Sem Value := Builtin.append_ l ty args
theorem append_alias (l : Array TypeId) (ty : TypeId) (args : Array Value) : Builtin.append_ l ty args = appendS l ty args := rfl
attribute [local go_sem ↓] append_alias

set_option maxRecDepth 100000 in
set_option maxHeartbeats 2000000 in
theorem Spots_any {B : Nat} {pa sa : Option Addr} {pn pc sn sc : Nat} {x : Book} {i j : Int} {w : World} (hB : B ≤ w.heap.size) (hx : BookAt B w pa pn sa sn x) (hj : I64 j) :
    Calls Try.prog 20 #[.agg #[.slice pa pn pc, .slice sa sn sc], .int .i64 i, .int .i64 j] w fun e w' => ∃ v, e = .returned (.tuple #[v, .int .i64 (askE x i [j])]) ∧ IntsV w'.heap.size w' v (spotsL x i j) ∧ Below w.heap.size w w' := by
  have hpn := hx.planks.len
  have hsn := hx.parts.len
  refine (callsIn_wide (n := 0)).1 ?_
  have hO := open_wide
  have hro : Fence.wide.round = none := rfl
  have hF := hO.fn
  have hd := hO.depth
  refine callsIn_of_wp_marks Try.func20 rfl trivial ?_ rfl
  simp only [Try.ntmps20, List.size_toArray, List.length_cons, List.length_nil, Nat.reduceAdd, Nat.reduceSub, Array.replicate_succ, Array.replicate_zero, List.push_toArray, List.append_toArray, List.nil_append, List.cons_append]
  have bk : Hid (Blk ((w.alloc (.cells #[.slice pa pn pc, .slice sa sn sc] 25)).alloc (.cells #[.int .i64 j] 3)) w.heap.size #[.slice pa pn pc, .slice sa sn sc]) := Lib.hid ((Blk.new w _ _).alloc _)
  have hx1 : Hid (BookAt B ((w.alloc (.cells #[.slice pa pn pc, .slice sa sn sc] 25)).alloc (.cells #[.int .i64 j] 3)) pa pn sa sn x) := Lib.hid (hx.keep (Nat.le_refl _) (fun b o h => (((SameBut.refl (fun _ => False) w).alloc _).alloc _).cell (by omega) (fun e => e)))
  have hl1 : Hid (IntsAt (w.heap.size + 2) ((w.alloc (.cells #[.slice pa pn pc, .slice sa sn sc] 25)).alloc (.cells #[.int .i64 j] 3)) (some ⟨w.heap.size + 1, 0, none⟩) 1 [j]) := Lib.hid (by
    have := intsAt_one (w.alloc (.cells #[.slice pa pn pc, .slice sa sn sc] 25)) j hj 3
    simp only [World.size_alloc] at this
    exact this)
  have hb1 : Hid (Below w.heap.size w ((w.alloc (.cells #[.slice pa pn pc, .slice sa sn sc] 25)).alloc (.cells #[.int .i64 j] 3))) := Lib.hid (((Below.refl _ _).alloc (Nat.le_refl _) _).alloc (by simp) _)
  clear hx
  obtain ⟨E, hE⟩ : ∃ E, E = askE x i [j] := ⟨_, rfl⟩
  rw [← hE]
  have hE' := Lib.hid hE
  obtain ⟨L, hL⟩ : ∃ L, L = spotsL x i j := ⟨_, rfl⟩
  rw [← hL]
  have hL' := Lib.hid hL
  clear hL
  by_cases h0 : E = 0
  · subst h0
    obtain ⟨hok, hi0, hi1, hjj⟩ := askE_zero hE.symm
    clear hE
    obtain ⟨p, rfl⟩ := Int.eq_ofNat_of_zero_le hi0
    have hj0 := hjj 0 (by simp)
    simp only [gi, List.getD_cons_zero] at hj0
    obtain ⟨q, rfl⟩ := Int.eq_ofNat_of_zero_le hj0.1
    have hG := good_of hok
    have hpl : p < x.planks.length := by omega
    have hql : q < x.parts.length := by omega
    have hw := hG.wood p hpl
    have hs := hG.shape q hql
    clear hjj
    gi_wp2_with (first | (gi_at_call 60; refine (hO.calls (checkAsk_any (B := B) (C := w.heap.size + 2) (x := x) (l := [(q : Int)]) (by simp; omega) (by simp) hx1.out hl1.out)).mono ?_; rintro e w2 ⟨rfl, hb2⟩; rw [← hE'.out]; have bk2 := bk.out.below hb2 (by simp; omega); have hbw := hb1.out.trans (hb2.mono (by simp; omega)); have hx2 := Lib.hid (hx1.out.keep (Nat.le_refl _) (fun b o h => bcells hb2 b o (by simp; omega))); have hs2 := hb2.size; simp only [World.size_alloc] at hs2; clear hb2; have q0 : w2.cell? ⟨w.heap.size, 0, none⟩ = some (.slice pa pn pc) := bk2.cell; have q1 : w2.cell? ⟨w.heap.size, 1, none⟩ = some (.slice sa sn sc) := bk2.cell) | (gi_at_call 61; refine (hO.calls (newBoard_any (B := B) (by omega) hx2.out hok (by omega))).mono ?_; rintro e w3 ⟨mb, _, rfl, hmb, hM, ⟨ka, kn, kc, rfl, hks⟩, hb3⟩; have hM' := Lib.hid hM; have hsp := Lib.hid (hx2.out.parts.keep (B' := B) (w' := (w3.alloc (.cells #[.int .i64 (gw x.planks p).long, .slice ka kn kc, .slice sa sn sc, .map (some mb)] 86)).alloc (.cells #[.slice none 0 0] 31)) (Nat.le_refl _) (fun b o hb => ((((SameBut.of_below (M := fun _ => False) hb3 (Nat.le_refl _))).alloc _).alloc _).cell (by omega) (fun e => e))); have hbw3 := hbw.trans (hb3.mono hbw.size); clear hM hks hb3) | (gi_at_call 69; refine (hO.calls (places_any (B := B) (by have := hbw3.size; simp; omega) hsp.out (by omega) (by omega) hw.2.1 (by omega) hs.2.1)).mono ?_; rintro e w4 ⟨rfl, rfl⟩))
    obtain ⟨bm, hbm⟩ : ∃ bm, bm = boardM (gw x.planks p) x.parts sn := ⟨_, rfl⟩
    rw [← hbm] at hM'
    have hbm' := Lib.hid hbm
    clear hbm
    obtain ⟨N, hN⟩ : ∃ N, N = many (gw x.planks p).long (gs x.parts q).long := ⟨_, rfl⟩
    rw [← hN]
    have hN16 : N ≤ 16 := by rw [hN]; unfold many; omega
    have hN' := Lib.hid hN
    clear hN
    obtain ⟨W4, hW4⟩ : ∃ W4, W4 = (((((w3.alloc (.cells #[.int .i64 (gw x.planks p).long, .slice ka kn kc, .slice sa sn sc, .map (some mb)] 86)).alloc (.cells #[.slice none 0 0] 31)).alloc (.cells #[.int .i64 (gw x.planks p).long, .slice ka kn kc, .slice sa sn sc, .map (some mb)] 86)).alloc (.cells #[.int .i64 q] 3)).alloc (.cells #[.int .i64 q, .int .i64 N] 89)).drew := ⟨_, rfl⟩
    have hS4 : SameBut (fun _ => False) w3 W4 := by rw [hW4]; exact ((((((SameBut.refl _ w3).alloc _).alloc _).alloc _).alloc _).alloc _).drew
    have hsz4 : W4.heap.size ≤ w3.heap.size + 5 ∧ w3.heap.size + 5 ≤ W4.heap.size := by rw [hW4]; simp
    have b0 : Blk W4 w3.heap.size #[.int .i64 (gw x.planks p).long, .slice ka kn kc, .slice sa sn sc, .map (some mb)] := by rw [hW4]; exact ((((Blk.new w3 _ _).alloc _).alloc _).alloc _).alloc _
    have b1 : Blk W4 (w3.heap.size + 1) #[.slice none 0 0] := by
      rw [hW4]
      have := (((Blk.new (w3.alloc (.cells #[.int .i64 (gw x.planks p).long, .slice ka kn kc, .slice sa sn sc, .map (some mb)] 86)) #[.slice none 0 0] 31).alloc (.cells #[.int .i64 (gw x.planks p).long, .slice ka kn kc, .slice sa sn sc, .map (some mb)] 86)).alloc (.cells #[.int .i64 q] 3)).alloc (.cells #[.int .i64 q, .int .i64 N] 89)
      simp only [World.size_alloc] at this
      exact this
    have b3 : Blk W4 (w3.heap.size + 1 + 1 + 1) #[.int .i64 q] := by
      rw [hW4]
      have := (Blk.new (((w3.alloc (.cells #[.int .i64 (gw x.planks p).long, .slice ka kn kc, .slice sa sn sc, .map (some mb)] 86)).alloc (.cells #[.slice none 0 0] 31)).alloc (.cells #[.int .i64 (gw x.planks p).long, .slice ka kn kc, .slice sa sn sc, .map (some mb)] 86)) #[.int .i64 q] 3).alloc (.cells #[.int .i64 q, .int .i64 N] 89)
      simp only [World.size_alloc] at this
      exact this
    have b4 : Blk W4 (w3.heap.size + 1 + 1 + 2) #[.int .i64 q, .int .i64 N] := by
      rw [hW4]
      have := Blk.new ((((w3.alloc (.cells #[.int .i64 (gw x.planks p).long, .slice ka kn kc, .slice sa sn sc, .map (some mb)] 86)).alloc (.cells #[.slice none 0 0] 31)).alloc (.cells #[.int .i64 (gw x.planks p).long, .slice ka kn kc, .slice sa sn sc, .map (some mb)] 86)).alloc (.cells #[.int .i64 q] 3)) #[.int .i64 q, .int .i64 N] 89
      simp only [World.size_alloc] at this
      exact this
    rw [← hW4]
    clear hW4
    have hs3 := hbw3.size
    have hml := hM'.out.lt
    have hb4 : Below w.heap.size w W4 := hbw3.trans (hS4.toBelow hs3 (fun _ h => h.elim))
    have hM4 := hM'.out.same hS4 (fun e => e)
    obtain ⟨i0, hi, hz0, hz1, hz2⟩ := info_parts intInfo3
    refine wpIn_rangeG hO hro (gf := 103) (lb := #[.pointer (some ⟨w3.heap.size + 1 + 1 + 1, 0, none⟩), .pointer (some ⟨w3.heap.size + 1 + 1 + 2, 0, none⟩)]) rfl (enters_of Try.func103 (by kernel_rfl) rfl)
      (places_seqG hO hro b3 b4 (by omega)) (fun _ => rfl) (fun k => k = w3.heap.size + 1) (fun k hk => by have hk' : k = w3.heap.size + 1 := hk; omega)
      (fun k hk => by
        have hk' : k = w3.heap.size + 1 + 1 + 1 ∨ k = w3.heap.size + 1 + 1 + 2 := hk
        exact ⟨by omega, fun e => by have e' : k = w3.heap.size + 1 := e; omega⟩)
      (fun R pre Wc => (MapAt Wc mb placeK intV bm ∧ Blk Wc w3.heap.size #[.int .i64 (gw x.planks p).long, .slice ka kn kc, .slice sa sn sc, .map (some mb)] ∧ Below w.heap.size w Wc) ∧ (R (w3.heap.size + 1) ∧ ¬ R mb ∧ ¬ R w3.heap.size ∧ ∀ k, R k → w.heap.size ≤ k) ∧ W4.heap.size ≤ Wc.heap.size ∧
        ∃ v, Blk Wc (w3.heap.size + 1) #[v] ∧ Wc.ownsRow W4.heap.size 3 1 v (spotsOf bm q pre).length ((spotsOf bm q pre).map intV) ∧ ∀ g, v.ownBlock = some g → R g)
      ?hI ⟨⟨hM4, b0, hb4⟩, ⟨rfl, by show ¬ mb = w3.heap.size + 1; omega, by show ¬ w3.heap.size = w3.heap.size + 1; omega, fun k hk => by have hk' : k = w3.heap.size + 1 := hk; omega⟩, Nat.le_refl _, _, b1, World.ownsRow_nil _ _ _ _, fun g h => by cases h⟩
      (fun t a' Wc => ∃ bx, Blk Wc bx #[.int .i64 q, .int .i64 t] ∧ a' = { tmps := #[.agg #[.slice pa pn pc, .slice sa sn sc], .int .i64 p, .int .i64 q, .pointer (some ⟨w.heap.size, 0, none⟩), undef, undef, .slice none 0 0, .int .i64 0, .int .i64 0, .pointer (some ⟨w3.heap.size, 0, none⟩), .pointer (some ⟨w3.heap.size + 1, 0, none⟩), .pointer (some ⟨bx, 0, none⟩), .agg #[.slice pa pn pc, .slice sa sn sc], .int .i64 p, .int .i64 q,
        .slice (some ⟨w.heap.size + 1, 0, none⟩) 1 1, .int .i64 0, .int .i64 0, .bool false, undef, .agg #[.slice pa pn pc, .slice sa sn sc], .int .i64 p, .agg #[.int .i64 (gw x.planks p).long, .slice ka kn kc, .slice sa sn sc, .map (some mb)], .agg #[.int .i64 (gw x.planks p).long, .slice ka kn kc, .slice sa sn sc, .map (some mb)], .int .i64 q,
        .func (.func 103) #[] #[.pointer (some ⟨w3.heap.size + 1 + 1 + 1, 0, none⟩), .pointer (some ⟨w3.heap.size + 1 + 1 + 2, 0, none⟩)], placeV q t, undef, undef, undef, undef, undef, undef, undef, undef, undef, undef, undef], defers := [] })
      ?hAx ?assign ?body ?done
    case hI =>
      rintro R s X Y ⟨⟨h1, h2, h3⟩, h4, h5, v, h6, h7, h8⟩ hc
      exact ⟨⟨h1.calm hc, h2.calm hc, h3.trans (hc.below (by omega) (by omega))⟩, h4, Nat.le_trans h5 hc.size, v, h6.calm hc, own_calm h7 hc, h8⟩
    case hAx =>
      rintro t a' u X Y ⟨bx, h1, ha⟩ hc
      exact ⟨bx, h1.calm hc, ha⟩
    case assign =>
      rintro l2 R pre t Wc K hpre hRW hI hK
      obtain ⟨⟨h1, h2, h3⟩, h4, h5, v, h6, h7, h8⟩ := hI
      gi_wp2
      have hc := calm_alloc 0 Wc (.cells #[.int .i64 q, .int .i64 t] 89)
      exact hK _ _ ((SameBut.refl _ _).alloc _) ⟨⟨h1.calm hc, h2.calm hc, h3.trans (((Below.refl _ _).alloc (Nat.le_refl _) _).mono h3.size)⟩, h4, Nat.le_trans h5 hc.size, v, h6.calm hc, own_calm h7 hc, h8⟩ ⟨Wc.heap.size, Blk.new Wc _ _, rfl⟩
    case body =>
      rintro l2 R pre t a' Wc hpre hRW ⟨⟨h1, h2, h3⟩, h4, h5, v, h6, h7, h8⟩ ⟨bx, hbx, rfl⟩
      have hO2 := hO.inRound l2
      have hd2 : (Fence.wide.inRound l2).depth = none := hd
      have hF2 : ∀ f, (Fence.wide.inRound l2).fn f := hF
      have hlk := run_lookup (T := 84) (enc := placeK) (encV := intV) placeOk ansUnder zeroInt h1 ((q : Int), (t : Int)) false
      have hgd : ((bm ((q : Int), (t : Int))).map intV).getD (intV 0) = .int .i64 ((bm ((q : Int), (t : Int))).getD 0) := by cases bm ((q : Int), (t : Int)) <;> rfl
      rw [hgd] at hlk
      simp only [placeK, Bool.false_eq_true, if_false] at hlk
      have c3 : Wc.cell? ⟨w3.heap.size, 3, none⟩ = some (.map (some mb)) := h2.cell
      have d0 : Wc.cell? ⟨bx, 0, none⟩ = some (.int .i64 q) := hbx.cell
      have d1 : Wc.cell? ⟨bx, 1, none⟩ = some (.int .i64 t) := hbx.cell
      have hsp1 : ∀ ok : Bool, decide ((bm ((q : Int), (t : Int))).getD 0 = 2) = ok → spotsOf bm q (pre ++ [t]) = spotsOf bm q pre ++ (if ok then [(t : Int)] else []) := fun ok h => by
        unfold spotsOf
        rw [List.filter_append, List.map_append]
        cases ok <;> simp [List.filter, h]
      have hsp1' := Lib.hid hsp1
      clear hsp1 hgd
      obtain ⟨g, hg⟩ : ∃ g, g = (bm ((q : Int), (t : Int))).getD 0 := ⟨_, rfl⟩
      rw [← hg] at hlk hsp1'
      clear hg
      by_cases h2' : g = 2
      · subst h2'
        obtain ⟨va, vn, vc, hv⟩ := own_slice h7
        subst hv
        have e0 : Wc.cell? ⟨w3.heap.size + 1, 0, none⟩ = some (.slice va vn vc) := h6.cell
        have hlen : (spotsOf bm q pre).length ≤ 16 := by
          have e1 := spots_len bm q pre
          have e2 := hpre.length_le
          simp only [List.length_append, List.length_cons, List.length_nil, List.length_range] at e2
          omega
        obtain ⟨v', w5, hap, hown5, hgr5, _, hat5⟩ := run_append_own_at (P := Try.prog) (w := Wc.alloc (.cells #[.int .i64 t] 3)) W4.heap.size 31 31 3 i0 (.int .i64 0) 1 8 intsUnder hi hz0 hz1 hz2 rfl (by decide) (.slice va vn vc) _ _ (h7.alloc _) ⟨Wc.heap.size, 0, none⟩ 1 1 [.int .i64 t] rfl
          (fun j u hj => by
            match j, hj with
            | 0, hj =>
              simp at hj; subst hj
              exact (Blk.new Wc #[.int .i64 t] 3).cell)
          (fun u hu => by simp at hu; subst hu; rfl) (by unfold maxLen; omega) (by omega) (by simp; omega)
        obtain ⟨va', vn', vc', hv'⟩ := own_slice hown5
        subst hv'
        rw [append_alias] at hap
        have hs5 : SameBut (fun k => (Value.slice va vn vc).ownBlock = some k) Wc w5 := ((SameBut.refl _ Wc).alloc _).trans (same_grown hgr5 (fun k h => h))
        have hlt := h7.lt
        have hml' := h1.lt
        have hbl := h2.lt
        have b5 : Blk w5 (w3.heap.size + 1) #[.slice va vn vc] := h6.same hs5 (fun h => by have := (hlt _ h).1; omega)
        have f0 : w5.cell? ⟨w3.heap.size + 1, 0, none⟩ = some (.slice va vn vc) := b5.cell
        have f1 : w5.frozen? ⟨w3.heap.size + 1, 0, none⟩ = false := b5.frozen
        have hsp2 := hsp1'.out true (by simp)
        simp only [if_true] at hsp2
        have hR5 : SameBut R Wc w5 := hs5.mono (fun k h => h8 k h)
        have hfin : SameBut R Wc (w5.setCell ⟨w3.heap.size + 1, 0, none⟩ (.slice va' vn' vc')) := hR5.setCell (.inl h4.1) _
        have hown6 : (w5.setCell ⟨w3.heap.size + 1, 0, none⟩ (.slice va' vn' vc')).ownsRow W4.heap.size 3 1 (.slice va' vn' vc') (spotsOf bm q (pre ++ [t])).length ((spotsOf bm q (pre ++ [t])).map intV) := by
          rw [hsp2, List.length_append, List.map_append]
          exact ownsRow_setCell_below hown5 (by show w3.heap.size + 1 < W4.heap.size; omega) _
        have b6 : Blk (w5.setCell ⟨w3.heap.size + 1, 0, none⟩ (.slice va' vn' vc')) (w3.heap.size + 1) #[.slice va' vn' vc'] := by
          obtain ⟨t5, ht5⟩ := b5
          exact ⟨t5, heap_setCell_same w5 _ 0 _ t5 _ ht5⟩
        have hlt5 := hown5.lt
        have hfs := hfin.size
        have hsz5 := hs5.size
        have hfin' := Lib.hid (And.intro hfin (And.intro hown6 b6))
        clear hown5 hgr5 hfin hown6 b6 hsp2 hs5
        gi_wp2
        refine ⟨fun k => R k ∨ (Wc.heap.size ≤ k ∧ k < w5.heap.size), ⟨fun k h => h.imp id (fun h => h.1), fun k h => ?_⟩, hfin'.out.1, ⟨h1.same hfin'.out.1 h4.2.1, h2.same hfin'.out.1 h4.2.2.1, ?_⟩, ⟨.inl h4.1, ?_, ?_, ?_⟩, by omega, _, hfin'.out.2.2, hfin'.out.2.1, ?_⟩
        · have := hfin'.out.1.size
          rcases h with h | h
          · have := hRW k h; omega
          · have : w5.heap.size ≤ (w5.setCell ⟨w3.heap.size + 1, 0, none⟩ (.slice va' vn' vc')).heap.size := by simp
            omega
        · exact h3.trans (hfin'.out.1.toBelow h3.size h4.2.2.2)
        · rintro (h | h)
          · exact h4.2.1 h
          · omega
        · rintro (h | h)
          · exact h4.2.2.1 h
          · omega
        · rintro k (h | h)
          · exact h4.2.2.2 k h
          · have := h3.size; omega
        · intro g hg
          rcases hat5 with h | h
          · rw [h] at hg; exact .inl (h8 g hg)
          · rw [h] at hg
            have hg' := hlt5 _ h
            simp only [World.size_alloc, Option.some.injEq] at hg hg'
            exact .inr ⟨by omega, by omega⟩
      · have hne : (g == 2) = false := by simpa using h2'
        have hsp2 := hsp1'.out false (by simpa using h2')
        simp only [Bool.false_eq_true, if_false, List.append_nil] at hsp2
        have hsp2' := Lib.hid hsp2
        clear hsp2
        gi_wp2
        refine ⟨R, ⟨fun k h => .inl h, hRW⟩, SameBut.refl _ _, ⟨h1, h2, h3⟩, h4, h5, v, h6, ?_, h8⟩
        rw [hsp2'.out]; exact h7
    case done =>
      rintro R Wc ⟨⟨h1, h2, h3⟩, h4, h5, v, h6, h7, h8⟩ hD
      obtain ⟨va, vn, vc, hv⟩ := own_slice h7
      subst hv
      have e0 : Wc.cell? ⟨w3.heap.size + 1, 0, none⟩ = some (.slice va vn vc) := h6.cell
      gi_wp2
      refine ⟨by simp, .inl ⟨_, _, rfl, run_takeDeferred hD, ?_⟩⟩
      have hcm := calm_put (B := 0) (W := Wc) (.deferred none) hD (by omega) rfl
      refine ⟨_, results_tmp2 rfl _ _ _, ⟨_, rfl, ?_, ?_⟩⟩
      · rw [hL'.out]
        unfold spotsL
        rw [← hE'.out, if_pos rfl]
        simp only [Int.toNat_natCast]
        rw [hsn, ← hbm'.out, ← hN'.out]
        exact ints_of_own (own_calm h7 hcm) (fun i hi => spots_i64 (by omega) hi) (by have := spots_len bm q (List.range N); simp only [List.length_range] at this; omega)
      · exact h3.trans ((same_put (SameBut.refl (fun k => k = W4.heap.size) Wc) _ (.inl rfl)).toBelow h3.size (fun k hk => by have hk' : k = W4.heap.size := hk; omega))
  · have hne : (E == 0) = false := by simpa using h0
    have h0' := Lib.hid h0
    clear hE h0
    gi_wp2_with (gi_at_call 60; refine (hO.calls (checkAsk_any (B := B) (C := w.heap.size + 2) (x := x) (l := [j]) (by simp; omega) (by simp) hx1.out hl1.out)).mono ?_; rintro e w2 ⟨rfl, hb2⟩; rw [← hE'.out]; have bk2 := bk.out.below hb2 (by simp; omega); have hbw := hb1.out.trans (hb2.mono (by simp; omega)); have hx2 := Lib.hid (hx1.out.keep (Nat.le_refl _) (fun b o h => bcells hb2 b o (by simp; omega))); have hs2 := hb2.size; simp only [World.size_alloc] at hs2; clear hb2; have q0 : w2.cell? ⟨w.heap.size, 0, none⟩ = some (.slice pa pn pc) := bk2.cell; have q1 : w2.cell? ⟨w.heap.size, 1, none⟩ = some (.slice sa sn sc) := bk2.cell)
    refine ⟨_, results_tmp2 rfl _ _ _, ?_⟩
    refine ⟨_, rfl, ?_, hbw⟩
    rw [hL'.out]
    unfold spotsL
    rw [← hE'.out, if_neg h0'.out]
    exact ⟨none, 0, 0, rfl, rfl, by omega, fun i hi => by omega⟩
end Go.Proofs.Ytbbolibkheelmaa
namespace Go.Proofs.Ytbbolibkheelmaa
open Go.RowKit Go.Shelf

/-- A layer's block: its board, and the inches that are taken. -/
def layerRow (long : Int) (ka : Option Addr) (kn kc : Nat) (sa : Option Addr) (sn sc mb : Nat) (taken : Nat → Bool) : Array Value :=
  #[.int .i64 long, .slice ka kn kc, .slice sa sn sc, .map (some mb)] ++ encIn taken
theorem layer_range {w : World} {b : Nat} {long : Int} {ka : Option Addr} {kn kc : Nat} {sa : Option Addr} {sn sc mb : Nat} {taken : Nat → Bool} (h : Blk w b (layerRow long ka kn kc sa sn sc mb taken)) : w.rangeAt b 4 (encL taken) := fun j v hv => by
  rw [h.cell, ← hv]
  unfold layerRow encIn
  rw [Array.getElem?_append_right (by simp)]
  simp
theorem layer_cells {w : World} {b : Nat} {long : Int} {ka : Option Addr} {kn kc : Nat} {sa : Option Addr} {sn sc mb : Nat} {taken : Nat → Bool} (h : Blk w b (layerRow long ka kn kc sa sn sc mb taken)) :
    w.cell? ⟨b, 0, none⟩ = some (.int .i64 long) ∧ w.cell? ⟨b, 1, none⟩ = some (.slice ka kn kc) ∧ w.cell? ⟨b, 2, none⟩ = some (.slice sa sn sc) ∧ w.cell? ⟨b, 3, none⟩ = some (.map (some mb)) := by
  refine ⟨?_, ?_, ?_, ?_⟩ <;> (rw [h.cell]; unfold layerRow; rw [Array.getElem?_append_left (by simp)]; simp)

/-- Nothing of the part's inches is taken. -/
def freeB (taken : Nat → Bool) (t len : Int) : Bool := eqIn (andM (betM t (t + len - 1)) taken) (fun _ => false)

set_option maxRecDepth 10000 in
set_option maxHeartbeats 2000000 in
theorem canLie_any {B : Nat} {long : Int} {ka : Option Addr} {kn kc : Nat} {sa : Option Addr} {sn sc mb bl : Nat} {taken : Nat → Bool} {ps : List Shape} {q t : Nat} {bm : Int × Int → Option Int} {w : World} (hB : B ≤ w.heap.size)
    (hs : ShapesAt B w sa sn ps) (hq : q < sn) (h2 : 1 ≤ (gs ps q).long) (h3 : (t : Int) + (gs ps q).long ≤ 16) (hl : Blk w bl (layerRow long ka kn kc sa sn sc mb taken)) (hm : MapAt w mb placeK intV bm)
    (h012 : (bm ((q : Int), (t : Int))).getD 0 = 0 ∨ (bm ((q : Int), (t : Int))).getD 0 = 1 ∨ (bm ((q : Int), (t : Int))).getD 0 = 2) :
    Calls Try.prog 104 #[.pointer (some ⟨bl, 0, none⟩), .agg #[.int .i64 q, .int .i64 t]] w
      fun e w' => e = .returned (.bool (decide ((bm ((q : Int), (t : Int))).getD 0 = 2) && freeB taken t (gs ps q).long)) ∧ Below w.heap.size w w' := by
  obtain ⟨g, hg⟩ : ∃ g, g = (bm ((q : Int), (t : Int))).getD 0 := ⟨_, rfl⟩
  rw [← hg] at h012 ⊢
  have hg' := Lib.hid hg
  clear hg
  go_enter Try.func104, Try.ntmps104
  go_wp2
  obtain ⟨W0, hW0⟩ : ∃ W0, W0 = w.alloc (.cells #[.int .i64 q, .int .i64 t] 89) := ⟨_, rfl⟩
  have hb0 : Below w.heap.size w W0 := by rw [hW0]; exact (Below.refl _ _).alloc (Nat.le_refl _) _
  have hp0 : Blk W0 w.heap.size #[.int .i64 q, .int .i64 t] := by rw [hW0]; exact Blk.new w _ _
  have hl0 : Blk W0 bl (layerRow long ka kn kc sa sn sc mb taken) := by rw [hW0]; exact hl.alloc _
  have hm0 : MapAt W0 mb placeK intV bm := by rw [hW0]; exact hm.calm (calm_alloc 0 _ _)
  have hs0 : ShapesAt B W0 sa sn ps := hs.keep (Nat.le_refl _) (fun b o hb => bcells hb0 b o (by omega))
  have hsz : w.heap.size < W0.heap.size ∧ B ≤ W0.heap.size := by rw [hW0]; simp; omega
  have hbl := hl0.lt
  have hml := hm0.lt
  rw [← hW0]
  clear hW0 hl hm hs
  have hgd : ((bm ((q : Int), (t : Int))).map intV).getD (intV 0) = .int .i64 ((bm ((q : Int), (t : Int))).getD 0) := by cases bm ((q : Int), (t : Int)) <;> rfl
  have hlk : ∀ w1, Below W0.heap.size W0 w1 → (Instr.lookup 84 (.map (some mb)) (.agg #[.int .i64 q, .int .i64 t]) false).run Try.prog w1 = .ok (.int .i64 ((bm ((q : Int), (t : Int))).getD 0)) w1 := fun w1 h => by
    have hlk := run_lookup (T := 84) (enc := placeK) (encV := intV) placeOk ansUnder zeroInt (hm0.same (SameBut.of_below (M := fun _ => False) h (Nat.le_refl _)) (fun e => e)) ((q : Int), (t : Int)) false
    rw [hgd] at hlk
    simpa only [placeK, Bool.false_eq_true, if_false] using hlk
  rw [← hg'.out] at hlk
  clear hgd hm0
  have hlk' := Lib.hid hlk
  clear hlk
  rcases h012 with rfl | rfl | rfl
  · have hde : decide ((0 : Int) = 2) = false := by decide
    have k3 := layer_cells hl0
    have c3 : W0.cell? ⟨bl, 3, none⟩ = some (.map (some mb)) := k3.2.2.2
    have d0 : W0.cell? ⟨w.heap.size, 0, none⟩ = some (.int .i64 q) := hp0.cell
    have d1 : W0.cell? ⟨w.heap.size, 1, none⟩ = some (.int .i64 t) := hp0.cell
    have hlk2 := hlk'.out W0.drew (Below.refl _ _).drew
    clear k3
    go_region
    go_wp2
    go_ret
    exact ⟨ret_bool (by rw [hde]; rfl), hb0.drew⟩
  · have hde : decide ((1 : Int) = 2) = false := by decide
    have k3 := layer_cells hl0
    have c3 : W0.cell? ⟨bl, 3, none⟩ = some (.map (some mb)) := k3.2.2.2
    have d0 : W0.cell? ⟨w.heap.size, 0, none⟩ = some (.int .i64 q) := hp0.cell
    have d1 : W0.cell? ⟨w.heap.size, 1, none⟩ = some (.int .i64 t) := hp0.cell
    have hlk2 := hlk'.out W0.drew (Below.refl _ _).drew
    clear k3
    go_region
    go_wp2
    go_ret
    exact ⟨ret_bool (by rw [hde]; rfl), hb0.drew⟩
  · have hrg1 : ∀ w1, Below W0.heap.size W0 w1 → w1.rangeAt bl 4 (encL taken) ∧ w1.cell? ⟨bl, 0, none⟩ = some (.int .i64 long) ∧ w1.cell? ⟨bl, 1, none⟩ = some (.slice ka kn kc) ∧ w1.cell? ⟨bl, 2, none⟩ = some (.slice sa sn sc) ∧ w1.cell? ⟨bl, 3, none⟩ = some (.map (some mb)) ∧
        w1.cell? ⟨w.heap.size, 0, none⟩ = some (.int .i64 q) ∧ w1.cell? ⟨w.heap.size, 1, none⟩ = some (.int .i64 t) ∧ (Instr.lookup 84 (.map (some mb)) (.agg #[.int .i64 q, .int .i64 t]) false).run Try.prog w1 = .ok (.int .i64 2) w1 ∧ Below W0.heap.size W0 w1 := fun w1 h => by
      have k1 := hl0.below h hbl
      have k2 := hp0.below h hsz.1
      have k3 := layer_cells k1
      exact ⟨layer_range k1, k3.1, k3.2.1, k3.2.2.1, k3.2.2.2, k2.cell, k2.cell, hlk'.out _ h, h⟩
    have hs1 : ∀ w1, Below W0.heap.size W0 w1 → ShapesAt B w1 sa sn ps := fun w1 h => hs0.keep (Nat.le_refl _) (fun b o hb => bcells h b o (by omega))
    have hrg1' := Lib.hid hrg1
    have hs1' := Lib.hid hs1
    clear hrg1 hs1
    have hu := inUnder0
    have hi : (Try.prog.info? 142).map (·.size) = some (encL taken).length := by rw [encL_length]; exact inInfo
    go_region_held3 (fun w' => w'.rangeAt bl 4 (encL taken) ∧ w'.cell? ⟨bl, 0, none⟩ = some (.int .i64 long) ∧ w'.cell? ⟨bl, 1, none⟩ = some (.slice ka kn kc) ∧ w'.cell? ⟨bl, 2, none⟩ = some (.slice sa sn sc) ∧ w'.cell? ⟨bl, 3, none⟩ = some (.map (some mb)) ∧
        w'.cell? ⟨w.heap.size, 0, none⟩ = some (.int .i64 q) ∧ w'.cell? ⟨w.heap.size, 1, none⟩ = some (.int .i64 t) ∧ (Instr.lookup 84 (.map (some mb)) (.agg #[.int .i64 q, .int .i64 t]) false).run Try.prog w' = .ok (.int .i64 2) w' ∧ Below W0.heap.size W0 w')
      (first | exact hrg1'.out _ (Below.refl _ _) | exact hrg1'.out _ (Below.refl _ _).drew | (have hby : Below W0.heap.size W0 w' := keep9 (by assumption) hb; exact hrg1'.out _ hby))
      (first | (go_at_call 107; refine (under_any (B := B) (ps := ps) (p := q) (t := (t : Int)) (Nat.le_trans hsz.2 (Below.size (last9 (by assumption)))) (hs1'.out _ (last9 (by assumption))) hq (by omega) h2 h3).mono ?_; rintro e w' ⟨rfl, hb⟩) | (go_at_call 119; refine and_any.mono ?_; rintro e w' ⟨rfl, hb⟩))
    go_wp2
    go_ret
    have hby : Below W0.heap.size W0 w' := last9 (by assumption)
    exact ⟨rfl, hb0.trans (hby.mono (by omega))⟩
end Go.Proofs.Ytbbolibkheelmaa
