/- A range over a function: what an iterator owes, what a caller owes. Walks: the iterator over the places of a part, inside. A region that draws its order, within a fence that lets all in: what yields its value in every world that meets S may be taken first. -/
import Derived.Test.YtilbkmogmlcpaaaPs03
import Derived.Shelf.Abstract
import Derived.RangeFuncNested
import Derived.RangeFuncBound
import Derived.RangeFuncCalls
import Derived.RangeFuncLeaves
import Derived.OwnWalkIn
import Derived.TacticsInMore
import Derived.LoopNIn
import Derived.LoopIn
import Derived.OrdersHeld
namespace Go.Proofs.Ytilbkmogmlcpaaa
open Go.RowKit Go.Shelf

/-- The book-keeping of a range over a function. -/
def isBook : Obj → Bool | .loop _ => true | .deferred _ => true | _ => false

/-- The steps that an iterator takes by itself: whatever lay below B, and whatever is no book-keeping, lies as it lay. -/
structure Calm (B : Nat) (W W' : World) : Prop where
  os : W'.os = W.os
  tape : W'.tape = W.tape
  output : W'.output = W.output
  size : W.heap.size ≤ W'.heap.size
  block : ∀ k o, W.heap[k]? = some o → (k < B ∨ isBook o = false) → W'.heap[k]? = some o
section
variable {B : Nat} {W W' W1 : World}
theorem Calm.refl (B : Nat) (W : World) : Calm B W W := ⟨rfl, rfl, rfl, Nat.le_refl _, fun _ _ h _ => h⟩
theorem Calm.trans (h : Calm B W W') (k : Calm B W' W1) : Calm B W W1 :=
  ⟨k.os.trans h.os, k.tape.trans h.tape, k.output.trans h.output, Nat.le_trans h.size k.size, fun i o ho hc => k.block i o (h.block i o ho hc) hc⟩
theorem Calm.mono (h : Calm B W W') {B' : Nat} (hB : B' ≤ B) : Calm B' W W' := ⟨h.os, h.tape, h.output, h.size, fun k o ho hc => h.block k o ho (hc.imp (fun h => Nat.lt_of_lt_of_le h hB) id)⟩
theorem calm_alloc (B : Nat) (W : World) (o : Obj) : Calm B W (W.alloc o) :=
  ⟨rfl, rfl, rfl, by simp, fun k x hx _ => (Below.heap_alloc W o k (Array.getElem?_eq_some_iff.1 hx).1).trans hx⟩
theorem calm_put {l : Nat} {o : Obj} (o' : Obj) (hl : W.heap[l]? = some o) (hB : B ≤ l) (hb : isBook o = true) : Calm B W (W.putObj l o') := by
  have hg := grownBy_putObj' W l o'
  refine ⟨hg.os, hg.tape, hg.output, hg.size, fun k x hx hc => ?_⟩
  by_cases e : k = l
  · subst e
    rw [hl] at hx; cases hx
    rcases hc with hc | hc
    · omega
    · rw [hb] at hc; cases hc
  · rw [hg.block k (Array.getElem?_eq_some_iff.1 hx).1 (by simp [e])]; exact hx
theorem SameBut.calm (h : SameBut (fun _ => False) W W') (B : Nat) : Calm B W W' :=
  ⟨h.os, h.tape, h.output, h.size, fun k o ho _ => by rw [h.block k (Array.getElem?_eq_some_iff.1 ho).1 (fun e => e)]; exact ho⟩
theorem Calm.below (h : Calm B W W') {B' : Nat} (hB : B' ≤ B) (hS : B' ≤ W.heap.size) : Below B' W W' :=
  ⟨h.os, h.tape, h.output, h.size, fun k hk => by
    have hl : k < W.heap.size := by omega
    rw [Array.getElem?_eq_getElem hl]
    exact h.block k _ (Array.getElem?_eq_getElem hl) (.inl (by omega))⟩
theorem Calm.cells (h : Calm B W W') {b : Nat} {c : Array Value} {t : TypeId} {f : Nat × Nat} (hb : W.heap[b]? = some (.cells c t f)) : W'.heap[b]? = some (.cells c t f) := h.block b _ hb (.inr rfl)
theorem same_put {M : Nat → Prop} {l : Nat} (h : SameBut M W W') (o' : Obj) (hl : M l ∨ W.heap.size ≤ l) : SameBut M W (W'.putObj l o') := by
  have hg := grownBy_putObj' W' l o'
  exact ⟨hg.os.trans h.os, hg.tape.trans h.tape, hg.output.trans h.output, Nat.le_trans h.size hg.size, fun k hk hm => by
    rw [hg.block k (Nat.lt_of_lt_of_le hk h.size) (by intro e; cases e; rcases hl with hl | hl; exact hm hl; omega)]; exact h.block k hk hm⟩
end

/-- What an iterator's own steps leave as it is. -/
def Stable {β : Type} (B : Nat) (I : β → World → Prop) : Prop := ∀ s W W', I s W → Calm B W W' → I s W'
theorem Stable.and {β : Type} {B : Nat} {I J : β → World → Prop} (h : Stable B I) (k : Stable B J) : Stable B (fun s W => I s W ∧ J s W) := fun s W W' hs hc => ⟨h s W W' hs.1 hc, k s W W' hs.2 hc⟩

theorem stable_same {β : Type} {M : Nat → Prop} {W : World} {B : Nat} (hB : W.heap.size ≤ B) : Stable B (fun (_ : β) W' => SameBut M W W') := fun _ X Y h hc =>
  ⟨hc.os.trans h.os, hc.tape.trans h.tape, hc.output.trans h.output, Nat.le_trans h.size hc.size, fun k hk hm => by
    have hx := h.block k hk hm
    have hl : k < X.heap.size := Nat.lt_of_lt_of_le hk h.size
    rw [Array.getElem?_eq_getElem hl] at hx
    rw [hc.block k _ (Array.getElem?_eq_getElem hl) (.inl (by omega))]; exact hx⟩

/-- An iterator that yields just xs, in this order, or a part of it if a round says 'no more'. C: the blocks that it reads. -/
def Seq {α : Type} (F : Fence) (P : Program) (g : Nat) (lb : Array Value) (encs : α → Array Value) (xs : List α) (C : Nat → Prop) (w : World) : Prop :=
  ∀ (l : Nat) (R : Nat → Prop) (J Jx : List α → World → Prop) (W : World),
    SameBut (fun _ => False) w W → (∀ k, R k → k < W.heap.size) → (∀ k, C k → ¬ R k) → Stable W.heap.size J → Stable W.heap.size Jx →
    (∀ pre x W1, pre ++ [x] <+: xs → J pre W1 → YieldAt F 0 P l (encs x) W1 fun e W' =>
      (e = .returned (.bool true) ∧ J (pre ++ [x]) W' ∧ SameBut R W1 W') ∨ (e = .returned (.bool false) ∧ Jx (pre ++ [x]) W' ∧ SameBut R W1 W')) →
    J [] W →
    CallsIn F 0 P g (#[.func (.yield l) #[] #[]] ++ lb) W fun e W' => (∃ v, e = .returned v) ∧ (J xs W' ∨ ∃ pre, pre <+: xs ∧ Jx pre W')

theorem Seq.later {α : Type} {F : Fence} {P : Program} {g : Nat} {lb : Array Value} {encs : α → Array Value} {xs : List α} {C : Nat → Prop} {w w' : World}
    (h : Seq F P g lb encs xs C w) (hs : SameBut (fun _ => False) w w') : Seq F P g lb encs xs C w' :=
  fun l R J Jx W hW => h l R J Jx W (hs.trans hW)
theorem Seq.inRound {α : Type} {F : Fence} {P : Program} {g : Nat} {lb : Array Value} {encs : α → Array Value} {xs : List α} {C : Nat → Prop} {w : World} (l : Nat)
    (h : Seq F P g lb encs xs C w) : Seq (F.inRound l) P g lb encs xs C w := h

/-- How the body of a round may be left. -/
def rangeQ {α : Type} (M : Nat → Prop) (I : List α → World → Prop) (Ix : Code → List α → World → Prop) (xs : List α) (W : World) : Exit → Act → World → Prop
  | .normal, _, W' => SameBut M W W' ∧ I xs W'
  | .ret, _, W' => SameBut M W W' ∧ Ix .ret xs W'
  | .exit id, _, W' => SameBut M W W' ∧ Ix (.exit id) xs W'
  | .goto t, _, W' => SameBut M W W' ∧ Ix (.goto t) xs W'
  | .panic _, _, _ => False
  | .outgrown, _, _ => False

section
variable {F : Fence} {P : Program}

/-- One round, seen from the iterator: the loop's record is D's, its rounds write M. -/
theorem range_round {α : Type} {ps : Array Tmp} {assign body : Code} {a : Act} {B l D : Nat} {rec : LoopState → Option Code → Loop} (hF : ∀ f, F.fn f) {fn : FuncId}
    (hrec : rec = fun st pe => { state := st, pending := pe, fn, tmps := a.tmps, params := ps, assign, body, defers := D }) (hBl : B ≤ l)
    {encs : α → Array Value} (hps : ∀ x, (encs x).size = ps.size) {M : Nat → Prop} (hM : ∀ k, M k → k < B)
    {I : List α → World → Prop} {Ix : Code → List α → World → Prop} (hI : Stable B I) (hIx : ∀ c, Stable B (Ix c)) {Ax : α → Act → World → Prop} (hAx : ∀ x a', Stable B (fun (_ : Unit) W => Ax x a' W))
    {pre : List α} {x : α} {W : World} (hl : W.heap[l]? = some (.loop (rec .ready none))) (_hi : I pre W)
    (hassign : ∀ (K : Act → World → Prop), (∀ a' W', SameBut M W W' → I pre W' → Ax x a' W' → K a' W') →
      assign.wpIn (F.inRound l) 0 P (Exit.then K (fun _ _ _ => False)) { tmps := (ps.zip (encs x)).foldl (fun t (p, v) => t.setIfInBounds p v) a.tmps, defers := [] } W)
    (hbody : ∀ (a' : Act) (W' : World), (∃ r, W'.heap[l]? = some (.loop r)) → I pre W' → Ax x a' W' → body.wpIn (F.inRound l) 0 P (rangeQ M I Ix (pre ++ [x]) W') a' W') :
    YieldAt F 0 P l (encs x) W fun e W' =>
      (e = .returned (.bool true) ∧ (I (pre ++ [x]) W' ∧ W'.heap[l]? = some (.loop (rec .ready none))) ∧ SameBut (fun k => M k ∨ k = l) W W') ∨
      (e = .returned (.bool false) ∧ (∃ c, Ix c (pre ++ [x]) W' ∧ W'.heap[l]? = some (.loop (rec .done (some c)))) ∧ SameBut (fun k => M k ∨ k = l) W W') := by
  have hy := run_yield (P := P) (args := encs x) hl (by rw [hrec]; exact hps x)
  rw [hrec] at hy
  refine ⟨fn, _, assign, body, hy, roundIn_of_wpIn (hF fn) (hassign _ ?_)⟩
  intro a' Wa hs hia hax
  have hMl : ¬ M l := fun e => by have := hM l e; omega
  have hlW : l < W.heap.size := (Array.getElem?_eq_some_iff.1 hl).1
  have hla : Wa.heap[l]? = some (.loop (rec .ready none)) := by rw [hs.block l hlW hMl]; exact hl
  have hlt : l < Wa.heap.size := (Array.getElem?_eq_some_iff.1 hla).1
  refine ⟨_, run_beginRound hla (by rw [hrec]), ?_⟩
  have hl2 : (Wa.putObj l (.loop { rec .ready none with state := .busy })).heap[l]? = some (.loop { rec .ready none with state := .busy }) := World.putObj_heap_same hlt
  have hca : Calm B Wa (Wa.putObj l (.loop { rec .ready none with state := .busy })) := calm_put _ hla hBl rfl
  refine wpIn_mono (hbody a' _ ⟨_, hl2⟩ (hI _ _ _ hia hca) (hAx x a' () _ _ hax hca)) ?_
  have hs2 : SameBut (fun k => M k ∨ k = l) W (Wa.putObj l (.loop { rec .ready none with state := .busy })) := same_put (hs.mono fun k h => .inl h) _ (.inl (.inr rfl))
  have fin : ∀ (jump : Option Code) (W3 : World), SameBut M (Wa.putObj l (.loop { rec .ready none with state := .busy })) W3 →
      (Instr.endRound l jump).run P W3 = .ok (.bool jump.isNone) (W3.putObj l (.loop (rec (if jump.isNone then .ready else .done) jump))) ∧
      Calm B W3 (W3.putObj l (.loop (rec (if jump.isNone then .ready else .done) jump))) ∧
      (W3.putObj l (.loop (rec (if jump.isNone then .ready else .done) jump))).heap[l]? = some (.loop (rec (if jump.isNone then .ready else .done) jump)) ∧
      SameBut (fun k => M k ∨ k = l) W (W3.putObj l (.loop (rec (if jump.isNone then .ready else .done) jump))) := fun jump W3 h3 => by
    have hl3 : W3.heap[l]? = some (.loop { rec .ready none with state := .busy }) := by rw [h3.block l (by rw [World.putObj_size]; exact hlt) hMl]; exact hl2
    have hr := run_endRound (P := P) jump hl3
    refine ⟨by rw [hr, hrec], calm_put _ hl3 hBl rfl, World.putObj_heap_same (Array.getElem?_eq_some_iff.1 hl3).1, same_put (hs2.trans (h3.mono fun k h => .inl h)) _ (.inl (.inr rfl))⟩
  rintro e a3 W3 hp
  cases e with
  | normal =>
    obtain ⟨hs3, hi3⟩ := hp
    obtain ⟨hr, hc, hl4, hs4⟩ := fin none W3 hs3
    exact ⟨_, _, hr, .inl ⟨rfl, ⟨hI _ _ _ hi3 hc, hl4⟩, hs4⟩⟩
  | ret =>
    obtain ⟨hs3, hi3⟩ := hp
    obtain ⟨hr, hc, hl4, hs4⟩ := fin (some .ret) W3 hs3
    exact ⟨_, _, hr, .inr ⟨rfl, ⟨.ret, hIx _ _ _ _ hi3 hc, hl4⟩, hs4⟩⟩
  | exit id =>
    obtain ⟨hs3, hi3⟩ := hp
    obtain ⟨hr, hc, hl4, hs4⟩ := fin (some (.exit id)) W3 hs3
    exact ⟨_, _, hr, .inr ⟨rfl, ⟨.exit id, hIx _ _ _ _ hi3 hc, hl4⟩, hs4⟩⟩
  | goto t =>
    obtain ⟨hs3, hi3⟩ := hp
    obtain ⟨hr, hc, hl4, hs4⟩ := fin (some (.goto t)) W3 hs3
    exact ⟨_, _, hr, .inr ⟨rfl, ⟨.goto t, hIx _ _ _ _ hi3 hc, hl4⟩, hs4⟩⟩
  | panic ch => exact hp.elim
  | outgrown => exact hp.elim

/-- The statement 'for .. := range g', in a function's own frame. -/
theorem wpIn_range {α : Type} {g : Operand} {ps : Array Tmp} {assign body : Code} {Q : Exit → Act → World → Prop} {a : Act} {w : World} (hO : Open F) (hro : F.round = none)
    {gf : Nat} {lb : Array Value} (hg : a.eval g = .func (.func gf) #[] lb) (eg : ∀ args w, (callFunc gf args).run P w = .ok (.enter gf args) w)
    {encs : α → Array Value} {xs : List α} {C : Nat → Prop} (hseq : Seq F P gf lb encs xs C w) (hps : ∀ x, (encs x).size = ps.size)
    (M : Nat → Prop) (hM : ∀ k, M k → k < w.heap.size) (hC : ∀ k, C k → k < w.heap.size ∧ ¬ M k)
    (I : List α → World → Prop) (Ix : Code → List α → World → Prop) (hI : Stable w.heap.size I) (hIx : ∀ c, Stable w.heap.size (Ix c)) (h0 : I [] w)
    (Ax : α → Act → World → Prop) (hAx : ∀ x a', Stable w.heap.size (fun (_ : Unit) W => Ax x a' W))
    (hassign : ∀ (l : Nat) (pre : List α) (x : α) (W : World) (K : Act → World → Prop), pre ++ [x] <+: xs → I pre W → (∀ a' W', SameBut M W W' → I pre W' → Ax x a' W' → K a' W') →
      assign.wpIn (F.inRound l) 0 P (Exit.then K (fun _ _ _ => False)) { tmps := (ps.zip (encs x)).foldl (fun t (p, v) => t.setIfInBounds p v) a.tmps, defers := [] } W)
    (hbody : ∀ (l : Nat) (pre : List α) (x : α) (a' : Act) (W : World), pre ++ [x] <+: xs → w.heap.size ≤ l → (∃ r, W.heap[l]? = some (.loop r)) → I pre W → Ax x a' W → body.wpIn (F.inRound l) 0 P (rangeQ M I Ix (pre ++ [x]) W) a' W)
    (hdone : ∀ (W : World), I xs W → W.heap[w.heap.size]? = some (.deferred (some [])) → Q .normal { a with defers := { target := .collected w.heap.size, args := #[] } :: a.defers } W)
    (hstop : ∀ (c : Code) (pre : List α) (W : World), pre <+: xs → Ix c pre W → W.heap[w.heap.size]? = some (.deferred (some [])) → c.wpIn F 0 P Q { a with defers := { target := .collected w.heap.size, args := #[] } :: a.defers } W) :
    (Code.rangeFunc g ps assign body).wpIn F 0 P Q a w := by
  refine wpIn_rangeFunc ?_
  intro fn _
  rw [hro]
  obtain ⟨rec, hrec⟩ : ∃ rec : LoopState → Option Code → Loop, rec = fun st pe => { state := st, pending := pe, fn, tmps := a.tmps, params := ps, assign, body, defers := w.heap.size } := ⟨_, rfl⟩
  obtain ⟨W1, hW1⟩ : ∃ W1, (w.alloc (.deferred (some []))).alloc (.loop (rec .ready none)) = W1 := ⟨_, rfl⟩
  have hsz1 : W1.heap.size = w.heap.size + 2 := by rw [← hW1]; simp
  have hL1 : W1.heap[w.heap.size + 1]? = some (.loop (rec .ready none)) := by
    rw [← hW1]; have := World.alloc_heap_new (w.alloc (.deferred (some []))) (.loop (rec .ready none)); rwa [World.size_alloc] at this
  have hK1 : W1.heap[w.heap.size]? = some (.deferred (some [])) := by
    rw [← hW1]; exact (Below.heap_alloc _ _ _ (by simp)).trans (World.alloc_heap_new w _)
  have hc1 : Calm w.heap.size w W1 := by rw [← hW1]; exact (calm_alloc _ _ _).trans (calm_alloc _ _ _)
  have hs1 : SameBut (fun _ => False) w W1 := by rw [← hW1]; exact ((SameBut.refl _ w).alloc _).alloc _
  refine ⟨w.heap.size + 1, [{ target := .collected w.heap.size, args := #[] }], W1, { target := .fn (.func gf) lb, args := #[.func (.yield (w.heap.size + 1)) #[] #[]] }, W1, gf,
    #[.func (.yield (w.heap.size + 1)) #[] #[]] ++ lb, W1, ?_, ?_, ?_, ?_, fun h => (by rw [hO.depth] at h; cases h), ?_⟩
  · rw [← hW1, hrec]; exact run_enterLoop_outer _ _ _ _ _
  · simp only [resolve, hg]
    simp [go_sem]
  · intro f' _; exact hO.fn f'
  · simp [invoke, go_sem, eg]
  · refine (hseq (w.heap.size + 1) (fun k => M k ∨ k = w.heap.size + 1)
      (fun pre W => (I pre W ∧ W.heap[w.heap.size + 1]? = some (.loop (rec .ready none))) ∧ W.heap[w.heap.size]? = some (.deferred (some [])))
      (fun pre W => (∃ c, Ix c pre W ∧ W.heap[w.heap.size + 1]? = some (.loop (rec .done (some c)))) ∧ W.heap[w.heap.size]? = some (.deferred (some [])))
      W1 hs1 ?_ ?_ ?_ ?_ ?_ ⟨⟨hI _ _ _ h0 hc1, hL1⟩, hK1⟩).mono ?_
    · rintro k (hk | rfl)
      · have := hM k hk; omega
      · omega
    · rintro k hk (h | rfl)
      · exact (hC k hk).2 h
      · have := (hC _ hk).1; omega
    · rintro s W W' ⟨⟨h1, h2⟩, h3⟩ hc
      exact ⟨⟨hI _ _ _ h1 (hc.mono (by omega)), hc.block _ _ h2 (.inl (by omega))⟩, hc.block _ _ h3 (.inl (by omega))⟩
    · rintro s W W' ⟨⟨c, h1, h2⟩, h3⟩ hc
      exact ⟨⟨c, hIx c _ _ _ h1 (hc.mono (by omega)), hc.block _ _ h2 (.inl (by omega))⟩, hc.block _ _ h3 (.inl (by omega))⟩
    · rintro pre x W hx ⟨⟨hi, hl⟩, hk⟩
      obtain ⟨f', t', as', bo', hy, hR⟩ := range_round (F := F) (P := P) hO.fn hrec (Nat.le_succ _) hps hM hI hIx hAx hl hi (fun K hK => hassign _ pre x W K hx hi hK) (fun a' W' hr hi' ha' => hbody _ pre x a' W' hx (by omega) hr hi' ha')
      have hD : ∀ W', SameBut (fun k => M k ∨ k = w.heap.size + 1) W W' → W'.heap[w.heap.size]? = some (.deferred (some [])) := fun W' hs => by
        rw [hs.block _ (Array.getElem?_eq_some_iff.1 hk).1 (by rintro (h | h); have := hM _ h; omega; omega)]; exact hk
      refine ⟨f', t', as', bo', hy, hR.mono ?_⟩
      rintro e W' (⟨rfl, h1, h2⟩ | ⟨rfl, h1, h2⟩)
      · exact .inl ⟨rfl, ⟨h1, hD _ h2⟩, h2⟩
      · exact .inr ⟨rfl, ⟨h1, hD _ h2⟩, h2⟩
    · rintro e W2 ⟨⟨v, rfl⟩, (⟨⟨hi, hl⟩, hk⟩ | ⟨pre, hpre, ⟨c, hi, hl⟩, hk⟩)⟩
      · refine ⟨none, _, by have := run_endLoop (P := P) hl (by rw [hrec]; simp); rw [hrec] at this; exact this, ?_⟩
        exact hdone _ (hI _ _ _ hi (calm_put _ hl (by omega) rfl)) ((World.putObj_heap_other (by omega)).trans hk)
      · refine ⟨some c, _, by have := run_endLoop (P := P) hl (by rw [hrec]; simp); rw [hrec] at this; exact this, ?_⟩
        exact hstop c pre _ hpre (hIx c _ _ _ hi (calm_put _ hl (by omega) rfl)) ((World.putObj_heap_other (by omega)).trans hk)

/-- The same, in a round of another loop. -/
theorem wpIn_range_inner {α : Type} {l₀ : Nat} {r₀ : Loop} {g : Operand} {ps : Array Tmp} {assign body : Code} {Q : Exit → Act → World → Prop} {a : Act} {w : World} (hO : Open F) (hro : F.round = some l₀)
    (hr0 : w.heap[l₀]? = some (.loop r₀))
    {gf : Nat} {lb : Array Value} (hg : a.eval g = .func (.func gf) #[] lb) (eg : ∀ args w, (callFunc gf args).run P w = .ok (.enter gf args) w)
    {encs : α → Array Value} {xs : List α} {C : Nat → Prop} (hseq : Seq F P gf lb encs xs C w) (hps : ∀ x, (encs x).size = ps.size)
    (M : Nat → Prop) (hM : ∀ k, M k → k < w.heap.size) (hC : ∀ k, C k → k < w.heap.size ∧ ¬ M k)
    (I : List α → World → Prop) (Ix : Code → List α → World → Prop) (hI : Stable w.heap.size I) (hIx : ∀ c, Stable w.heap.size (Ix c)) (h0 : I [] w)
    (Ax : α → Act → World → Prop) (hAx : ∀ x a', Stable w.heap.size (fun (_ : Unit) W => Ax x a' W))
    (hassign : ∀ (l : Nat) (pre : List α) (x : α) (W : World) (K : Act → World → Prop), pre ++ [x] <+: xs → I pre W → (∀ a' W', SameBut M W W' → I pre W' → Ax x a' W' → K a' W') →
      assign.wpIn (F.inRound l) 0 P (Exit.then K (fun _ _ _ => False)) { tmps := (ps.zip (encs x)).foldl (fun t (p, v) => t.setIfInBounds p v) a.tmps, defers := [] } W)
    (hbody : ∀ (l : Nat) (pre : List α) (x : α) (a' : Act) (W : World), pre ++ [x] <+: xs → w.heap.size ≤ l → (∃ r, W.heap[l]? = some (.loop r)) → I pre W → Ax x a' W → body.wpIn (F.inRound l) 0 P (rangeQ M I Ix (pre ++ [x]) W) a' W)
    (hdone : ∀ (W : World), I xs W → Q .normal a W)
    (hstop : ∀ (c : Code) (pre : List α) (W : World), pre <+: xs → Ix c pre W → c.wpIn F 0 P Q a W) :
    (Code.rangeFunc g ps assign body).wpIn F 0 P Q a w := by
  refine wpIn_rangeFunc ?_
  intro fn _
  rw [hro]
  obtain ⟨rec, hrec⟩ : ∃ rec : LoopState → Option Code → Loop, rec = fun st pe => { state := st, pending := pe, fn, tmps := a.tmps, params := ps, assign, body, defers := r₀.defers } := ⟨_, rfl⟩
  obtain ⟨W1, hW1⟩ : ∃ W1, w.alloc (.loop (rec .ready none)) = W1 := ⟨_, rfl⟩
  have hsz1 : W1.heap.size = w.heap.size + 1 := by rw [← hW1]; simp
  have hL1 : W1.heap[w.heap.size]? = some (.loop (rec .ready none)) := by rw [← hW1]; exact World.alloc_heap_new w _
  have hc1 : Calm w.heap.size w W1 := by rw [← hW1]; exact calm_alloc _ _ _
  have hs1 : SameBut (fun _ => False) w W1 := by rw [← hW1]; exact (SameBut.refl _ w).alloc _
  refine ⟨w.heap.size, [], W1, { target := .fn (.func gf) lb, args := #[.func (.yield w.heap.size) #[] #[]] }, W1, gf,
    #[.func (.yield w.heap.size) #[] #[]] ++ lb, W1, ?_, ?_, ?_, ?_, fun h => (by rw [hO.depth] at h; cases h), ?_⟩
  · rw [← hW1, hrec]; exact run_enterLoop_inner hr0 _ _ _ _ _
  · simp only [resolve, hg]
    simp [go_sem]
  · intro f' _; exact hO.fn f'
  · simp [invoke, go_sem, eg]
  · refine (hseq w.heap.size (fun k => M k ∨ k = w.heap.size)
      (fun pre W => I pre W ∧ W.heap[w.heap.size]? = some (.loop (rec .ready none)))
      (fun pre W => ∃ c, Ix c pre W ∧ W.heap[w.heap.size]? = some (.loop (rec .done (some c))))
      W1 hs1 ?_ ?_ ?_ ?_ ?_ ⟨hI _ _ _ h0 hc1, hL1⟩).mono ?_
    · rintro k (hk | rfl)
      · have := hM k hk; omega
      · omega
    · rintro k hk (h | rfl)
      · exact (hC k hk).2 h
      · have := (hC _ hk).1; omega
    · rintro s W W' ⟨h1, h2⟩ hc
      exact ⟨hI _ _ _ h1 (hc.mono (by omega)), hc.block _ _ h2 (.inl (by omega))⟩
    · rintro s W W' ⟨c, h1, h2⟩ hc
      exact ⟨c, hIx c _ _ _ h1 (hc.mono (by omega)), hc.block _ _ h2 (.inl (by omega))⟩
    · rintro pre x W hx ⟨hi, hl⟩
      obtain ⟨f', t', as', bo', hy, hR⟩ := range_round (F := F) (P := P) hO.fn hrec (Nat.le_refl _) hps hM hI hIx hAx hl hi (fun K hK => hassign _ pre x W K hx hi hK) (fun a' W' hr hi' ha' => hbody _ pre x a' W' hx (Nat.le_refl _) hr hi' ha')
      refine ⟨f', t', as', bo', hy, hR.mono ?_⟩
      rintro e W' (⟨rfl, h1, h2⟩ | ⟨rfl, h1, h2⟩)
      · exact .inl ⟨rfl, h1, h2⟩
      · exact .inr ⟨rfl, h1, h2⟩
    · rintro e W2 ⟨⟨v, rfl⟩, (⟨hi, hl⟩ | ⟨pre, hpre, c, hi, hl⟩)⟩
      · refine ⟨none, _, by have := run_endLoop (P := P) hl (by rw [hrec]; simp); rw [hrec] at this; exact this, ?_⟩
        exact hdone _ (hI _ _ _ hi (calm_put _ hl (Nat.le_refl _) rfl))
      · refine ⟨some c, _, by have := run_endLoop (P := P) hl (by rw [hrec]; simp); rw [hrec] at this; exact this, ?_⟩
        exact hstop c pre _ hpre (hIx c _ _ _ hi (calm_put _ hl (Nat.le_refl _) rfl))
end
end Go.Proofs.Ytilbkmogmlcpaaa
namespace Go.Proofs.Ytilbkmogmlcpaaa
open Go.RowKit Go.Shelf

attribute [local go_sem] Oper.semAt_some

/-- A place of the part p. -/
abbrev placeV (p t : Nat) : Value := .agg #[.int .i64 p, .int .i64 t]
/-- How far an iterator has come, read off its cell. -/
def atOf (w : World) (v : Value) : Nat := match w.cell? ⟨blkOf v, 1, none⟩ with | some (.int _ n) => n.toNat | _ => 0

theorem range_pre {k N : Nat} (h : k < N) : List.range k ++ [k] <+: List.range N := by
  have := List.range_add (n := k + 1) (m := N - (k + 1))
  rw [show k + 1 + (N - (k + 1)) = N by omega] at this
  exact ⟨_, by rw [← List.range_succ]; exact this.symm⟩

def Blk (w : World) (b : Nat) (c : Array Value) : Prop := ∃ t, w.heap[b]? = some (.cells c t (0, 0))
theorem Blk.lt {w : World} {b : Nat} {c : Array Value} (h : Blk w b c) : b < w.heap.size := by obtain ⟨t, h⟩ := h; exact lt_of_block h
theorem Blk.cell {w : World} {b i : Nat} {c : Array Value} (h : Blk w b c) : w.cell? ⟨b, i, none⟩ = c[i]? := by obtain ⟨t, h⟩ := h; exact cell_of_row w b i _ _ _ h
theorem Blk.frozen {w : World} {b i : Nat} {c : Array Value} (h : Blk w b c) : w.frozen? ⟨b, i, none⟩ = false := by obtain ⟨t, h⟩ := h; exact frozen_of_row w b i _ _ h
theorem Blk.same {M : Nat → Prop} {w w' : World} {b : Nat} {c : Array Value} (h : Blk w b c) (hs : SameBut M w w') (hm : ¬ M b) : Blk w' b c := by
  have hl := h.lt
  obtain ⟨t, h⟩ := h; exact ⟨t, by rw [hs.block b hl hm]; exact h⟩
theorem Blk.calm {B : Nat} {w w' : World} {b : Nat} {c : Array Value} (h : Blk w b c) (hs : Calm B w w') : Blk w' b c := by
  obtain ⟨t, h⟩ := h; exact ⟨t, hs.cells h⟩
theorem Blk.below {B : Nat} {w w' : World} {b : Nat} {c : Array Value} (h : Blk w b c) (hs : Below B w w') (hb : b < B) : Blk w' b c := by
  obtain ⟨t, h⟩ := h; exact ⟨t, by rw [hs.block b hb]; exact h⟩
theorem Blk.new (w : World) (c : Array Value) (t : TypeId) : Blk (w.alloc (.cells c t)) w.heap.size c := ⟨t, heap_alloc_new w _⟩
theorem Blk.alloc {w : World} {b : Nat} {c : Array Value} (h : Blk w b c) (o : Obj) : Blk (w.alloc o) b c := h.calm (calm_alloc 0 w o)

set_option maxRecDepth 100000 in
set_option maxHeartbeats 1000000 in
theorem places_seq {F : Fence} (hO : Open F) (hro : F.round = none) {B1 B2 p N : Nat} {w : World} (h1 : Blk w B1 #[.int .i64 p]) (h2 : Blk w B2 #[.int .i64 p, .int .i64 N]) (hN : N ≤ 1000) :
    Seq F Try.prog 103 #[.pointer (some ⟨B1, 0, none⟩), .pointer (some ⟨B2, 0, none⟩)] (fun x => #[placeV p x]) (List.range N) (fun k => k = B1 ∨ k = B2) w := by
  intro l R J Jx W hW hR hCR hJ hJx hY h0
  have hF := hO.fn
  have hd := hO.depth
  have g1 := h1.same hW (fun e => e)
  have g2 := h2.same hW (fun e => e)
  have hm1 : ¬ R B1 := hCR _ (.inl rfl)
  have hm2 : ¬ R B2 := hCR _ (.inr rfl)
  refine callsIn_of_wp Try.func103 rfl (hF _) ?_ hro
  simp only [Try.ntmps103, List.size_toArray, List.length_cons, List.length_nil, Nat.reduceAdd, Nat.reduceSub, Array.replicate_succ, Array.replicate_zero, List.push_toArray, List.append_toArray, List.nil_append, List.cons_append]
  have hc1 := g1.cell (i := 0)
  gi_wp2
  gi_loopw [4] (fun v wr => ∃ (k b : Nat), k ≤ N ∧ v = .pointer (some ⟨b, 0, none⟩) ∧ W.heap.size ≤ b ∧ Blk wr b #[.int .i64 p, .int .i64 k] ∧ J (List.range k) wr ∧ Blk wr B2 #[.int .i64 p, .int .i64 N] ∧ W.heap.size ≤ wr.heap.size) (fun v wr => N - atOf wr v)
  case atStart => exact ⟨0, W.heap.size, by omega, rfl, Nat.le_refl _, Blk.new W _ _, hJ _ _ _ h0 (calm_alloc _ _ _), g2.alloc _, by simp⟩
  case round =>
    obtain ⟨k, b, hk, rfl, hbn, hblk, hJk, hb2, hsz⟩ := hrel
    have hcc2 := hb2.cell (i := 0)
    have hcc3 := hb2.cell (i := 1)
    have hq0 := hblk.cell (i := 0)
    have hq1 := hblk.cell (i := 1)
    by_cases hlt : k < N
    · have hne : (k == N) = false := by simp; omega
      obtain ⟨fn, tmps, assign, body, hy, hRd⟩ := hY _ k wr (range_pre hlt) hJk
      unfold placeV at hy
      gi_wp2
      refine hRd.mono ?_
      rintro e W3 (⟨rfl, hJ3, hk3⟩ | ⟨rfl, hJx3, _⟩)
      · have hblk3 := hblk.same hk3 (fun e => by have := hR b e; omega)
        have hb23 := hb2.same hk3 hm2
        have hsz3 := hk3.size
        have hr0 := hblk3.cell (i := 0)
        have hr1 := hblk3.cell (i := 1)
        have hbW : b < W3.heap.size := hblk3.lt
        have hat : atOf wr (.pointer (some ⟨b, 0, none⟩)) = k := by simp [atOf, hq1]
        clear hq0 hq1 hcc2 hcc3
        gi_wp2
        go_roundw
        case rel => exact ⟨k + 1, W3.heap.size, by omega, rfl, by omega, Blk.new W3 _ _, by rw [List.range_succ]; exact hJ _ _ _ hJ3 (calm_alloc _ _ _), hb23.alloc _, by simp; omega⟩
        case measure =>
          rw [hat]
          have : atOf (W3.alloc (.cells #[.int .i64 p, .int .i64 (k + 1)] 89)) (.pointer (some ⟨W3.heap.size, 0, none⟩)) = k + 1 := by simp [atOf]
          rw [this]; omega
      · gi_wp2
        refine bodyPost_ret (results_none rfl _ _ _) rfl ?_
        exact ⟨⟨_, rfl⟩, .inr ⟨List.range k ++ [k], range_pre hlt, hJx3⟩⟩
    · obtain rfl : k = N := by omega
      gi_wp2
      go_end0
      exact ⟨⟨_, rfl⟩, .inl hJk⟩

end Go.Proofs.Ytilbkmogmlcpaaa
namespace Go.Proofs.Ytilbkmogmlcpaaa
section
variable {F : Fence} {n : Nat} {P : Program} {ops : Array Oper} {Q : Exit → Act → World → Prop} {md : Region.Mode} {S : World → Prop}

def noDefer (ops : Array Oper) : Bool := ops.all fun o => match o.op with | .defer _ => false | _ => true
theorem noDefer_spec (h : noDefer ops = true) {j : Nat} {o : Oper} (hj : ops[j]? = some o) : ∀ c, o.op ≠ .defer c := by
  intro c hc
  obtain ⟨hlt, he⟩ := Array.getElem?_eq_some_iff.1 hj
  have := Array.all_eq_true.1 h j hlt
  rw [he, hc] at this
  cases this

/-- An operation that comes behind all others. -/
def lastOp (md : Region.Mode) (ops : Array Oper) (i : Nat) : Bool :=
  match ops[i]? with
  | none => false
  | some o => (List.range ops.size).all fun j => j == i || o.after.any fun e => Region.binds md e && e.on == j
theorem not_last {i j : Nat} {listed : Array Bool} (hi : i < ops.size) (hji : j ≠ i) (hj : j ∈ Region.ready md ops listed) (hun : listed.getD i true = false) : lastOp md ops j = false := by
  obtain ⟨_, oj, hoj, hall⟩ := mem_ready.1 hj
  cases hl : lastOp md ops j with
  | false => rfl
  | true =>
    unfold lastOp at hl
    simp only [hoj, List.all_eq_true, List.mem_range] at hl
    have h1 := hl i hi
    rw [Bool.or_eq_true, beq_iff_eq] at h1
    rcases h1 with h1 | h1
    · exact absurd h1.symm hji
    · rw [Array.any_eq_true'] at h1
      obtain ⟨e, he, hb⟩ := h1
      rw [Bool.and_eq_true, beq_iff_eq] at hb
      have h2 := hall e he hb.1
      rw [hb.2, getD_both hun] at h2
      cases h2

/-- Whatever order is picked from here on; S holds behind every operation, but for one that comes behind all others. -/
def anyHeld (F : Fence) (n : Nat) (P : Program) (md : Region.Mode) (ops : Array Oper) (Q : Exit → Act → World → Prop) (S : World → Prop) : Nat → Array Bool → Act → World → Prop
  | 0, listed, a, w => Region.ready md ops listed = [] ∧ Q .normal a w
  | fuel + 1, listed, a, w =>
    (Region.ready md ops listed = [] → Q .normal a w) ∧
    ∀ i ∈ Region.ready md ops listed, wpOpIn F n P ops Q i (fun a' w' => (S w' ∨ lastOp md ops i = true) ∧ anyHeld F n P md ops Q S fuel (listed.setIfInBounds i true) a' w') a w

theorem any_of_held : ∀ (fuel : Nat) (listed : Array Bool) (a : Act) (w : World), anyHeld F n P md ops Q S fuel listed a w → wpAnyIn F n P md ops Q fuel listed a w
  | 0, _, _, _, h => h
  | fuel + 1, _, _, _, h => ⟨h.1, fun i hi => wpOpIn_mono (fun a' w' h' => any_of_held fuel _ a' w' h'.2) (h.2 i hi)⟩

theorem yields_op (hO : Open F) {i : Nat} {o : Oper} {v : Value} {a : Act} (hi : ops[i]? = some o) (hd : ∀ c, o.op ≠ .defer c) (hy : YieldsIf P ops S o v a) {K : Act → World → Prop} {w : World} (hS : S w) (h : K (a.put o.dst v) w) :
    wpOpIn F n P ops Q i K a w := by
  unfold wpOpIn
  simp only [hi]
  rcases hy with ⟨hw, hv⟩ | ⟨hw, rfl⟩
  · rw [if_pos hw]
    refine ⟨fun f _ => hO.fn f, ?_⟩
    rw [semAt_of hd, hv w hS]; exact h
  · rw [if_neg (by rw [hw]; simp)]; exact ⟨fun f _ => hO.fn f, h⟩

theorem op_put (hO : Open F) {j : Nat} {oi oj : Oper} {v : Value} (hj : ops[j]? = some oj) (hap : oi.apart ops oj = true)
    (hsi : ∀ cs b, oi.op ≠ .select cs b) (hsj : ∀ cs b, oj.op ≠ .select cs b) (hd : ∀ c, oj.op ≠ .defer c)
    (hQ : ∀ c a w, Q (.panic c) (a.put oi.dst v) w → Q (.panic c) a w) {K : Act → World → Prop} {a : Act} {w : World}
    (hy : YieldsIf P ops S oi v a) (h : wpOpIn F n P ops Q j K (a.put oi.dst v) w) :
    wpOpIn F n P ops Q j (fun a' w' => YieldsIf P ops S oi v a' ∧ K (a'.put oi.dst v) w') a w := by
  obtain ⟨h1, h2, h3⟩ := Oper.apart_spec hap
  have keep : ∀ u, YieldsIf P ops S oi v (a.put oj.dst u) := fun u =>
    hy.of_same (execOp_put oi hsi a oj.dst u h3) (wanted_put oi a oj.dst u h3)
  have swap : ∀ u w', K ((a.put oi.dst v).put oj.dst u) w' → YieldsIf P ops S oi v (a.put oj.dst u) ∧ K ((a.put oj.dst u).put oi.dst v) w' := fun u w' hk =>
    ⟨keep u, by rw [← Act.put_comm a v u h2]; exact hk⟩
  unfold wpOpIn at *
  simp only [hj] at *
  rw [wanted_put oj a oi.dst v h1] at h
  by_cases hw : Region.wanted oj (yielded ops a.tmps) = true
  · rw [if_pos hw] at h ⊢
    refine ⟨fun f _ => hO.fn f, ?_⟩
    have h := h.2
    rw [semAt_of hd, execOp_put oj hsj a oi.dst v h1] at h
    rw [semAt_of hd]
    generalize (execOp a.eval oj).run P w = r at *
    cases r with
    | ok x w' =>
      cases x <;> simp only [Oper.uponIn] at h ⊢
      case value u => exact swap u _ h
      case skip => exact swap _ _ h
      case defer d => exact ⟨hy.of_same (execOp_put oi hsi _ oj.dst _ h3) (wanted_put oi _ oj.dst _ h3), by rw [← Act.put_comm _ v undef h2, ← Act.put_defers]; exact h⟩
      case enter f args =>
        refine ⟨h.1, h.2.mono fun e w'' he => ?_⟩
        cases e with
        | returned u => exact swap u _ he
        | panicked c => exact hQ _ _ _ he
        | outgrown => exact he
      case row row args => exact ⟨h.1, h.2.mono fun u w'' he => swap u _ he⟩
      case round l f tmps assign body =>
        refine ⟨h.1, h.2.mono fun e w'' he => ?_⟩
        cases e with
        | returned u => exact swap u _ he
        | panicked c => exact hQ _ _ _ he
        | outgrown => exact he
    | halt x w' =>
      cases x <;> simp only [Oper.uponIn] at h ⊢
      case panic u => exact hQ _ _ _ h
  · rw [if_neg hw] at h ⊢
    exact ⟨fun f _ => hO.fn f, swap _ _ h.2⟩

theorem held_first (hO : Open F) {i : Nat} {oi : Oper} {v : Value} (hi : ops[i]? = some oi) (hsel : ∀ (j : Nat) (o : Oper) cs b, ops[j]? = some o → o.op ≠ .select cs b) (hnd : noDefer ops = true)
    (hQ : ∀ c a w, Q (.panic c) (a.put oi.dst v) w → Q (.panic c) a w) :
    ∀ (fuel : Nat) (listed : Array Bool) (a : Act) (w : World),
      (∀ j oj, ops[j]? = some oj → j ≠ i → listed.getD j true = false → (∀ e ∈ oj.after, Region.binds md e = true → e.on ≠ i) → oi.apart ops oj = true) →
      i ∈ Region.ready md ops listed → YieldsIf P ops S oi v a → S w →
      anyHeld F n P md ops Q S fuel (listed.setIfInBounds i true) (a.put oi.dst v) w → anyHeld F n P md ops Q S (fuel + 1) listed a w
  | 0, listed, a, w, _, hr, hy, hS, H => by
    refine ⟨fun h => (by rw [h] at hr; cases hr), fun j hj => ?_⟩
    by_cases hji : j = i
    · subst hji; exact yields_op hO hi (noDefer_spec hnd hi) hy hS ⟨.inl hS, H⟩
    · have := ready_mono hj hji
      rw [H.1] at this
      cases this
  | fuel + 1, listed, a, w, hfree, hr, hy, hS, H => by
    refine ⟨fun h => (by rw [h] at hr; cases hr), fun j hj => ?_⟩
    by_cases hji : j = i
    · subst hji; exact yields_op hO hi (noDefer_spec hnd hi) hy hS ⟨.inl hS, H⟩
    · have h1 := H.2 j (ready_mono hj hji)
      obtain ⟨hjun, oj, hoj, hall⟩ := mem_ready.1 hj
      have hun := (mem_ready.1 hr).1
      have hnot : ∀ e ∈ oj.after, Region.binds md e = true → e.on ≠ i := fun e he hb heq => by
        have h1 := hall e he hb
        rw [heq, getD_both hun] at h1
        cases h1
      have h2 := op_put hO hoj (hfree j oj hoj hji hjun hnot) (fun cs b => hsel i oi cs b hi) (fun cs b => hsel j oj cs b hoj) (noDefer_spec hnd hoj) hQ hy h1
      have hnl : ¬ lastOp md ops j = true := by rw [not_last (Array.getElem?_eq_some_iff.1 hi).1 hji hj hun]; simp
      refine wpOpIn_mono (fun a' w' h3 => ⟨h3.2.1, held_first hO hi hsel hnd hQ fuel (listed.setIfInBounds j true) a' w' (fun k ok hk hki hku hno => hfree k ok hk hki ?_ hno) (ready_mono hr (Ne.symm hji)) h3.1 (h3.2.1.resolve_right hnl) ?_⟩) h2
      · by_cases hjk : j = k
        · subst hjk; exact hjun
        · rwa [getD_set_ne true hjk] at hku
      · rw [Array.setIfInBounds_comm _ _ hji]
        exact h3.2.2

/-- Take number i first. -/
theorem held_take (hO : Open F) (i : Nat) {oi : Oper} {v : Value} {fuel : Nat} {listed : Array Bool} {a : Act} {w : World} (hi : ops[i]? = some oi)
    (hs : Region.noSelect ops = true) (hnd : noDefer ops = true) (hf : Region.free md ops listed i = true) (hr : (Region.ready md ops listed).contains i = true)
    (hQ : ∀ c a w, Q (.panic c) (a.put oi.dst v) w → Q (.panic c) a w) (hS : S w) (hy : YieldsIf P ops S oi v a)
    (h : anyHeld F n P md ops Q S fuel (listed.setIfInBounds i true) (a.put oi.dst v) w) : anyHeld F n P md ops Q S (fuel + 1) listed a w :=
  held_first hO hi (Region.noSelect_spec hs) hnd hQ fuel listed a w (Region.free_spec hi hf) (by simpa using hr) hy hS h

/-- One alone may come up: it is carried out; S is shown anew behind it. -/
theorem held_one (i : Nat) {o : Oper} {fuel : Nat} {listed : Array Bool} {a : Act} {w : World} (hr : Region.ready md ops listed = [i]) (ho : ops[i]? = some o)
    (h : ∀ K : Act → World → Prop, (∀ a w, (S w ∨ lastOp md ops i = true) → anyHeld F n P md ops Q S fuel (listed.setIfInBounds i true) a w → K a w) →
      if Region.wanted o (yielded ops a.tmps) = true then Oper.wpIn F n P o a w K Q else (∀ f, o.about P w a.eval = some f → F.fn f) ∧ K (a.put o.dst undef) w) : anyHeld F n P md ops Q S (fuel + 1) listed a w := by
  refine ⟨fun h0 => (by rw [hr] at h0; cases h0), fun j hj => ?_⟩
  rw [hr] at hj
  obtain rfl : j = i := by simpa using hj
  exact wpOpIn_step ho (fun K' hK => h K' (fun a w hS hW => hK a w ⟨hS, hW⟩))

theorem held_done {listed : Array Bool} {a : Act} {w : World} (hr : Region.ready md ops listed = []) (h : Q .normal a w) : ∀ fuel, anyHeld F n P md ops Q S fuel listed a w
  | 0 => ⟨hr, h⟩
  | _ + 1 => ⟨fun _ => h, by rw [hr]; simp⟩

theorem region_held {id : Nat} {a : Act} {w : World} (S : World → Prop) (hm : P.follows .mixedOrders = true)
    (h : anyHeld F n P .any ops Q S ops.size (Array.replicate ops.size false) a w.drew) : (Code.region id ops true).wpIn F n P Q a w :=
  wpIn_region_any hm (any_of_held _ _ _ _ h)
/-- An element of a list, by its number. -/
def nth {α : Type} : List α → Nat → Option α
  | [], _ => none
  | a :: _, 0 => some a
  | _ :: l, n + 1 => nth l n
theorem nth_eq {α : Type} : ∀ (l : List α) (i : Nat), nth l i = l[i]?
  | [], _ => by simp [nth]
  | a :: l, 0 => by simp [nth]
  | a :: l, i + 1 => by simp [nth, nth_eq l i]
theorem nth_ops {l : List Oper} {i : Nat} {o : Oper} (h : nth l i = some o) : l.toArray[i]? = some o := by rw [nth_eq] at h; simpa using h

theorem held_takeL (hO : Open F) (i : Nat) {l : List Oper} {oi : Oper} {v : Value} {fuel : Nat} {listed : Array Bool} {a : Act} {w : World} (hi : nth l i = some oi)
    (hs : Region.noSelect l.toArray = true) (hnd : noDefer l.toArray = true) (hf : Region.free md l.toArray listed i = true) (hr : (Region.ready md l.toArray listed).contains i = true)
    (hQ : ∀ c a w, Q (.panic c) (a.put oi.dst v) w → Q (.panic c) a w) (hS : S w) (hy : YieldsIf P l.toArray S oi v a)
    (h : anyHeld F n P md l.toArray Q S fuel (listed.setIfInBounds i true) (a.put oi.dst v) w) : anyHeld F n P md l.toArray Q S (fuel + 1) listed a w :=
  held_take hO i (nth_ops hi) hs hnd hf hr hQ hS hy h
theorem held_oneL (i : Nat) {l : List Oper} {o : Oper} {fuel : Nat} {listed : Array Bool} {a : Act} {w : World} (hr : Region.ready md l.toArray listed = [i]) (ho : nth l i = some o)
    (h : ∀ K : Act → World → Prop, (∀ a w, S w → anyHeld F n P md l.toArray Q S fuel (listed.setIfInBounds i true) a w → K a w) →
      if Region.wanted o (yielded l.toArray a.tmps) = true then Oper.wpIn F n P o a w K Q else (∀ f, o.about P w a.eval = some f → F.fn f) ∧ K (a.put o.dst undef) w) : anyHeld F n P md l.toArray Q S (fuel + 1) listed a w :=
  held_one i hr (nth_ops ho) (fun K hK => h K (fun a w hS => hK a w (.inl hS)))
theorem held_anyL (i : Nat) {l : List Oper} {o : Oper} {fuel : Nat} {listed : Array Bool} {a : Act} {w : World} (hr : Region.ready md l.toArray listed = [i]) (ho : nth l i = some o)
    (h : ∀ K : Act → World → Prop, (∀ a w, (S w ∨ lastOp md l.toArray i = true) → anyHeld F n P md l.toArray Q S fuel (listed.setIfInBounds i true) a w → K a w) →
      if Region.wanted o (yielded l.toArray a.tmps) = true then Oper.wpIn F n P o a w K Q else (∀ f, o.about P w a.eval = some f → F.fn f) ∧ K (a.put o.dst undef) w) : anyHeld F n P md l.toArray Q S (fuel + 1) listed a w :=
  held_one i hr (nth_ops ho) h
end
end Go.Proofs.Ytilbkmogmlcpaaa
