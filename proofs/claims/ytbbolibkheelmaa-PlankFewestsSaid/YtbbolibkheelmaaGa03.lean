/- What a round of a range over a function keeps: all blocks but those of a set M. A region that draws its order, reads first and ends in one forced order: within a fence that lets all in (a round of a range over a function). A range over a function: what an iterator owes, what a caller owes. Walks: the iterator over the places of a part, inside. -/
import Derived.RangeFuncNested
import Derived.RangeFuncBound
import Derived.RangeFuncCalls
import Derived.RangeFuncLeaves
import Derived.Test.YtbbolibkheelmaaGa01
import Derived.StillTail
import Derived.StillTactics
import Derived.OrdersIn
import Derived.TacticsIn
import Derived.Shelf.Abstract
import Derived.OwnWalkIn
import Derived.TacticsInMore
import Derived.LoopNIn
import Derived.LoopIn
import Derived.Test.YtbbolibkheelmaaGa02
namespace Go.Proofs.Ytbbolibkheelmaa
open Go.RowKit

/-- All blocks of W but those of M lie in W' as they lay. -/
structure SameBut (M : Nat → Prop) (W W' : World) : Prop where
  os : W'.os = W.os
  tape : W'.tape = W.tape
  output : W'.output = W.output
  size : W.heap.size ≤ W'.heap.size
  block : ∀ k, k < W.heap.size → ¬ M k → W'.heap[k]? = W.heap[k]?

section
variable {M : Nat → Prop} {W W' W1 : World}
theorem SameBut.refl (M : Nat → Prop) (W : World) : SameBut M W W := ⟨rfl, rfl, rfl, Nat.le_refl _, fun _ _ _ => rfl⟩
theorem SameBut.trans (h : SameBut M W W') (k : SameBut M W' W1) : SameBut M W W1 :=
  ⟨k.os.trans h.os, k.tape.trans h.tape, k.output.trans h.output, Nat.le_trans h.size k.size, fun i hi hm => (k.block i (Nat.lt_of_lt_of_le hi h.size) hm).trans (h.block i hi hm)⟩
theorem SameBut.alloc (h : SameBut M W W') (o : Obj) : SameBut M W (W'.alloc o) :=
  h.trans ⟨rfl, rfl, rfl, by simp, fun k hk _ => Below.heap_alloc W' o k hk⟩
theorem SameBut.drew (h : SameBut M W W') : SameBut M W W'.drew := ⟨h.os, h.tape, h.output, h.size, h.block⟩
theorem SameBut.drewN (h : SameBut M W W') (n : Nat) : SameBut M W (W'.drewN n) := ⟨h.os, h.tape, h.output, h.size, h.block⟩
theorem SameBut.below (h : SameBut M W W') (hb : Below W'.heap.size W' W1) : SameBut M W W1 :=
  h.trans ⟨hb.os, hb.tape, hb.output, hb.size, fun k hk _ => hb.block k hk⟩
theorem SameBut.setCell (h : SameBut M W W') {a : Addr} (ha : M a.block ∨ W.heap.size ≤ a.block) (v : Value) : SameBut M W (W'.setCell a v) :=
  ⟨h.os, h.tape, h.output, by rw [World.size_setCell]; exact h.size, fun k hk hm => by
    rw [heap_setCell_other W' a k v (fun e => by rcases ha with ha | ha; exact hm (e ▸ ha); omega)]; exact h.block k hk hm⟩
theorem SameBut.setRow (h : SameBut M W W') {b : Nat} (ha : M b ∨ W.heap.size ≤ b) (cs : Array Value) : SameBut M W (W'.setRow b cs) :=
  ⟨h.os, h.tape, h.output, by rw [size_setRow]; exact h.size, fun k hk hm => by
    rw [setRow_other W' b k cs (fun e => by rcases ha with ha | ha; exact hm (e ▸ ha); omega)]; exact h.block k hk hm⟩
theorem SameBut.of_below {B : Nat} (h : Below B W W') (hB : W.heap.size ≤ B) : SameBut M W W' := ⟨h.os, h.tape, h.output, h.size, fun k hk _ => h.block k (by omega)⟩
theorem SameBut.mono {M' : Nat → Prop} (h : SameBut M W W') (hm : ∀ k, M k → M' k) : SameBut M' W W' := ⟨h.os, h.tape, h.output, h.size, fun k hk hn => h.block k hk (fun e => hn (hm k e))⟩
theorem SameBut.toBelow (h : SameBut M W W') {B : Nat} (hB : B ≤ W.heap.size) (hM : ∀ k, M k → B ≤ k) : Below B W W' :=
  ⟨h.os, h.tape, h.output, h.size, fun k hk => h.block k (by omega) (fun e => by have := hM k e; omega)⟩
theorem SameBut.keepsFrom (h : SameBut M W W') {B : Nat} (hM : ∀ k, M k → k < B) : KeepsFrom B W W' :=
  ⟨h.size, fun k o hk ho _ => by
    have hl := (Array.getElem?_eq_some_iff.1 ho).1
    rw [h.block k hl (fun e => by have := hM k e; omega)]; exact ho⟩
theorem SameBut.cell (h : SameBut M W W') {b o : Nat} (hb : b < W.heap.size) (hm : ¬ M b) : W'.cell? ⟨b, o, none⟩ = W.cell? ⟨b, o, none⟩ := World.cell?_of_block (w := W) (a := ⟨b, o, none⟩) (h.block b hb hm)
end

/-- What a round keeps that goes on: all blocks but those of M, if they lay before the loop (below n) or hold cells. -/
structure Keeps (M : Nat → Prop) (n : Nat) (W W' : World) : Prop where
  os : W'.os = W.os
  tape : W'.tape = W.tape
  output : W'.output = W.output
  size : W.heap.size ≤ W'.heap.size
  block : ∀ k o, W.heap[k]? = some o → ¬ M k → (k < n ∨ o.isCells = true) → W'.heap[k]? = some o

section
variable {M : Nat → Prop} {n : Nat} {W W' W1 : World}
theorem Keeps.refl (M : Nat → Prop) (n : Nat) (W : World) : Keeps M n W W := ⟨rfl, rfl, rfl, Nat.le_refl _, fun _ _ h _ _ => h⟩
theorem Keeps.trans (h : Keeps M n W W') (k : Keeps M n W' W1) : Keeps M n W W1 :=
  ⟨k.os.trans h.os, k.tape.trans h.tape, k.output.trans h.output, Nat.le_trans h.size k.size, fun i o ho hm hc => k.block i o (h.block i o ho hm hc) hm hc⟩
theorem SameBut.keeps (h : SameBut M W W') (n : Nat) : Keeps M n W W' :=
  ⟨h.os, h.tape, h.output, h.size, fun k o ho hm _ => by rw [h.block k (Array.getElem?_eq_some_iff.1 ho).1 hm]; exact ho⟩
theorem keeps_b {w : World} (M : Nat → Prop) (W : World) (l : Nat) (o o' : Obj) (hl : w.heap.size ≤ l) (h : W.heap[l]? = some o) (hc : o.isCells = false) (_ : o.isWalk = false) : Keeps M w.heap.size W (W.putObj l o') := by
  have hg := grownBy_putObj' W l o'
  refine ⟨hg.os, hg.tape, hg.output, hg.size, fun k x hx _ hk => ?_⟩
  have hlt := (Array.getElem?_eq_some_iff.1 hx).1
  by_cases e : k = l
  · subst e
    rw [h] at hx; cases hx
    rcases hk with hk | hk
    · omega
    · rw [hc] at hk; cases hk
  · rw [hg.block k hlt (by simp [e])]; exact hx
theorem Keeps.below (h : Keeps M n W W') {B : Nat} (hB : B ≤ n) (hS : B ≤ W.heap.size) (hM : ∀ k, M k → B ≤ k) : Below B W W' :=
  ⟨h.os, h.tape, h.output, h.size, fun k hk => by
    have hl : k < W.heap.size := by omega
    rw [Array.getElem?_eq_getElem hl]
    exact h.block k _ (Array.getElem?_eq_getElem hl) (fun e => by have := hM k e; omega) (.inl (by omega))⟩
theorem Keeps.cells (h : Keeps M n W W') {b : Nat} {c : Array Value} {t : TypeId} {f : Nat × Nat} (hb : W.heap[b]? = some (.cells c t f)) (hm : ¬ M b) : W'.heap[b]? = some (.cells c t f) :=
  h.block b _ hb hm (.inr rfl)
theorem Keeps.cell (h : Keeps M n W W') {b o : Nat} (hb : b < W.heap.size) (hn : b < n) (hm : ¬ M b) : W'.cell? ⟨b, o, none⟩ = W.cell? ⟨b, o, none⟩ :=
  World.cell?_of_block (w := W) (a := ⟨b, o, none⟩) (by
    show W'.heap[b]? = W.heap[b]?
    rw [Array.getElem?_eq_getElem hb]
    exact h.block b _ (Array.getElem?_eq_getElem hb) hm (.inl hn))
end

end Go.Proofs.Ytbbolibkheelmaa
namespace Go.Proofs.Ytbbolibkheelmaa

/-- A fence that lets all in. -/
structure Open (F : Fence) : Prop where
  fn : ∀ f, F.fn f
  depth : F.depth = none
  calls : ∀ {n : Nat} {P : Program} {f : FuncId} {args : Array Value} {w : World} {R : Ending → World → Prop}, Calls P f args w R → CallsIn F n P f args w R

theorem open_wide : Open Fence.wide := ⟨fun _ => trivial, rfl, fun h => callsIn_wide.2 h⟩
theorem Open.inRound {F : Fence} (h : Open F) (l : Nat) : Open (F.inRound l) := ⟨h.fn, h.depth, fun hc => CallsIn.inRound l (h.calls hc)⟩

section
variable {F : Fence} {n : Nat} {P : Program} {ops : Array Oper} {md : Region.Mode} {w : World}

theorem semAt_of {ro : Option Nat} {ρ : Operand → Value} {o : Oper} (h : ∀ c, o.op ≠ .defer c) : Oper.semAt ro ρ o = execOp ρ o := by
  unfold Oper.semAt
  split
  · rename_i l c hc; exact absurd hc (h c)
  · rfl

theorem not_defer_of_still {o : Oper} {a : Act} {K : Act → Prop} (h : o.still P a w K) : ∀ c, o.op ≠ .defer c := by
  intro c hc
  unfold Oper.still execOp at h
  rw [hc] at h
  simp only [Sem.run_bind] at h
  generalize (resolve a.eval c o.type).run P w = r at h
  cases r with
  | ok d w' => simp [Result.andThen, Oper.stillUpon] at h
  | halt x w' => simp [Result.andThen, Oper.stillUpon] at h

theorem wpIn_of_still (hF : Open F) {o : Oper} {a : Act} {K : Act → Prop} {K' : Act → World → Prop} {Q' : Exit → Act → World → Prop} (h : ∀ a, K a → K' a w) (hh : o.still P a w K) : o.wpIn F n P a w K' Q' := by
  refine ⟨fun f _ => hF.fn f, ?_⟩
  rw [semAt_of (not_defer_of_still hh)]
  unfold Oper.still at hh
  generalize (execOp a.eval o).run P w = r at *
  cases r with
  | ok x w' =>
    cases x <;> simp only [Oper.stillUpon] at hh <;> simp only [Oper.uponIn]
    case enter f args =>
      obtain ⟨rfl, v, hc, hn⟩ := hh
      exact ⟨fun hd => by rw [hF.depth] at hd; simp at hd, hF.calls (hc.mono fun e w'' ⟨he, hw⟩ => by subst he; subst hw; exact h _ hn)⟩
    all_goals (obtain ⟨rfl, h2⟩ := hh; exact h _ h2)
  | halt x w' => simp only [Oper.stillUpon] at hh

theorem wpOpIn_of_stOp (hF : Open F) {i : Nat} {a : Act} {K : Act → Prop} {K' : Act → World → Prop} {Q' : Exit → Act → World → Prop} (h : ∀ a, K a → K' a w) (hh : stOp P ops w i K a) : wpOpIn F n P ops Q' i K' a w := by
  unfold stOp at hh
  unfold wpOpIn
  split
  · rename_i ho; simp only [ho] at hh; exact h _ hh
  · rename_i o ho
    simp only [ho] at hh
    split
    · rename_i hw; simp only [hw, if_true] at hh; exact wpIn_of_still hF h hh
    · rename_i hw; simp only [hw] at hh; exact ⟨fun f _ => hF.fn f, h _ hh⟩

theorem wpAnyIn_of_head (hF : Open F) {m g : Nat} {L : Array Bool → Act → Prop} {Q' : Exit → Act → World → Prop} (hL : ∀ listed a, L listed a → wpAnyIn F n P md ops Q' g listed a w) :
    ∀ (f : Nat) (listed : Array Bool) (a : Act), wpAnyL P md ops w m L f listed a → wpAnyIn F n P md ops Q' (f + g) listed a w
  | 0, listed, a, h => by rw [Nat.zero_add]; exact hL _ _ h
  | f + 1, listed, a, h => by
    rw [show f + 1 + g = (f + g) + 1 by omega]
    exact ⟨fun h0 => absurd h0 h.1, fun i hi => wpOpIn_of_stOp hF (fun a' h' => wpAnyIn_of_head hF hL f _ a' h') (h.2 i hi).2⟩

theorem wpAnyIn_of_seq {Q' : Exit → Act → World → Prop} : ∀ (l : List Oper) (k : Nat) (listed : Array Bool) (a : Act) (w : World), (∀ j, l[j]? = ops[k + j]?) →
    Region.seqB md ops l.length k listed = true → wpListIn F n P ops Q' l a w → wpAnyIn F n P md ops Q' l.length listed a w
  | [], _, _, _, _, _, hB, h => ⟨by simpa [Region.seqB] using hB, h⟩
  | o :: l, k, listed, a, w, hl, hB, h => by
    have h0 : ops[k]? = some o := by simpa using (hl 0).symm
    simp only [List.length_cons, Region.seqB, Bool.and_eq_true, decide_eq_true_eq] at hB
    refine ⟨fun h1 => (by rw [hB.1] at h1; cases h1), fun i hi => ?_⟩
    rw [hB.1] at hi
    have hik : i = k := by simpa using hi
    subst hik
    have hw : wpOpIn F n P ops Q' i (wpListIn F n P ops Q' l) a w := by unfold wpOpIn; simp only [h0]; exact h
    exact wpOpIn_mono (fun a' w' h' => wpAnyIn_of_seq l (i + 1) _ a' w' (fun j => by have := hl (j + 1); simpa [Nat.add_assoc, Nat.add_comm 1 j] using this) hB.2 h') hw

/-- The law. -/
theorem wpIn_region_still_tail (hF : Open F) {id : Nat} {Q : Exit → Act → World → Prop} {a : Act} {w : World} {l : List Oper} (m : Nat) (hm : P.follows .mixedOrders = true) (hB : Region.lexTailB .any l.toArray m = true)
    (h : wpStill P l.toArray { w with drawn := w.drawn + 1 } (fun a' => wpListIn F n P l.toArray Q (l.drop m) a' { w with drawn := w.drawn + 1 }) (l.take m) a) : (Code.region id l.toArray true).wpIn F n P Q a w := by
  simp only [Region.lexTailB, Bool.and_eq_true, decide_eq_true_eq] at hB
  obtain ⟨⟨⟨⟨hsel, hn⟩, hs⟩, hc⟩, hlex⟩ := hB
  have hn' : m < l.length := by simpa using hn
  have htl : (l.take m).length = m := by simp; omega
  have hdl : (l.drop m).length = l.toArray.size - m := by simp
  have inv0 : HeadInv .any l.toArray m (Array.replicate l.toArray.size false) :=
    ⟨by simp, fun j oj _ hl => (by rw [getD_replicate_false] at hl; cases hl), fun t _ ht => getD_in (by simpa using ht) (getD_replicate_false _ _)⟩
  have H := wpAnyL_lex (md := .any) (g := l.toArray.size - m) hsel hs hc hn (l.take m) 0 _ a (fun j hj => by
    have hj' : j < m := by rw [htl] at hj; exact hj
    simp [hj']) (by simpa using htl) inv0 (by rw [htl]; exact hlex) h
  refine wpIn_region_any hm ?_
  have := wpAnyIn_of_head (n := n) hF (Q' := Q) (g := l.toArray.size - m) (fun listed a' hL => by
    have := wpAnyIn_of_seq (F := F) (n := n) (md := .any) (Q' := Q) (l.drop m) m listed a' { w with drawn := w.drawn + 1 } (fun j => by simp [List.getElem?_drop]) (by rw [hdl]; exact hL.1) hL.2
    rwa [hdl] at this) _ _ _ H
  rw [htl, show m + (l.toArray.size - m) = l.toArray.size by omega] at this
  exact this
end
end Go.Proofs.Ytbbolibkheelmaa
namespace Go.Proofs.Ytbbolibkheelmaa
open Go.RowKit Go.Shelf

/-- The book-keeping of a range over a function. -/
def isBook : Obj → Bool | .loop _ => true | .deferred _ => true | _ => false

/-- The steps that an iterator takes by itself: whatever lay below B, and whatever is no book-keeping, lies as it lay. -/
structure Calm (B : Nat) (W W' : World) : Prop where
  os : W'.os = W.os
  tape : W'.tape = W.tape
  output : W'.output = W.output
  size : W.heap.size ≤ W'.heap.size
  block : ∀ k o, W.heap[k]? = some o → (k < B ∨ isBook o = false) → W'.heap[k]? = some o
section
variable {B : Nat} {W W' W1 : World}
theorem Calm.refl (B : Nat) (W : World) : Calm B W W := ⟨rfl, rfl, rfl, Nat.le_refl _, fun _ _ h _ => h⟩
theorem Calm.trans (h : Calm B W W') (k : Calm B W' W1) : Calm B W W1 :=
  ⟨k.os.trans h.os, k.tape.trans h.tape, k.output.trans h.output, Nat.le_trans h.size k.size, fun i o ho hc => k.block i o (h.block i o ho hc) hc⟩
theorem Calm.mono (h : Calm B W W') {B' : Nat} (hB : B' ≤ B) : Calm B' W W' := ⟨h.os, h.tape, h.output, h.size, fun k o ho hc => h.block k o ho (hc.imp (fun h => Nat.lt_of_lt_of_le h hB) id)⟩
theorem calm_alloc (B : Nat) (W : World) (o : Obj) : Calm B W (W.alloc o) :=
  ⟨rfl, rfl, rfl, by simp, fun k x hx _ => (Below.heap_alloc W o k (Array.getElem?_eq_some_iff.1 hx).1).trans hx⟩
theorem calm_put {l : Nat} {o : Obj} (o' : Obj) (hl : W.heap[l]? = some o) (hB : B ≤ l) (hb : isBook o = true) : Calm B W (W.putObj l o') := by
  have hg := grownBy_putObj' W l o'
  refine ⟨hg.os, hg.tape, hg.output, hg.size, fun k x hx hc => ?_⟩
  by_cases e : k = l
  · subst e
    rw [hl] at hx; cases hx
    rcases hc with hc | hc
    · omega
    · rw [hb] at hc; cases hc
  · rw [hg.block k (Array.getElem?_eq_some_iff.1 hx).1 (by simp [e])]; exact hx
theorem SameBut.calm (h : SameBut (fun _ => False) W W') (B : Nat) : Calm B W W' :=
  ⟨h.os, h.tape, h.output, h.size, fun k o ho _ => by rw [h.block k (Array.getElem?_eq_some_iff.1 ho).1 (fun e => e)]; exact ho⟩
theorem Calm.below (h : Calm B W W') {B' : Nat} (hB : B' ≤ B) (hS : B' ≤ W.heap.size) : Below B' W W' :=
  ⟨h.os, h.tape, h.output, h.size, fun k hk => by
    have hl : k < W.heap.size := by omega
    rw [Array.getElem?_eq_getElem hl]
    exact h.block k _ (Array.getElem?_eq_getElem hl) (.inl (by omega))⟩
theorem Calm.cells (h : Calm B W W') {b : Nat} {c : Array Value} {t : TypeId} {f : Nat × Nat} (hb : W.heap[b]? = some (.cells c t f)) : W'.heap[b]? = some (.cells c t f) := h.block b _ hb (.inr rfl)
theorem same_put {M : Nat → Prop} {l : Nat} (h : SameBut M W W') (o' : Obj) (hl : M l ∨ W.heap.size ≤ l) : SameBut M W (W'.putObj l o') := by
  have hg := grownBy_putObj' W' l o'
  exact ⟨hg.os.trans h.os, hg.tape.trans h.tape, hg.output.trans h.output, Nat.le_trans h.size hg.size, fun k hk hm => by
    rw [hg.block k (Nat.lt_of_lt_of_le hk h.size) (by intro e; cases e; rcases hl with hl | hl; exact hm hl; omega)]; exact h.block k hk hm⟩
end

/-- What an iterator's own steps leave as it is. -/
def Stable {β : Type} (B : Nat) (I : β → World → Prop) : Prop := ∀ s W W', I s W → Calm B W W' → I s W'
theorem Stable.and {β : Type} {B : Nat} {I J : β → World → Prop} (h : Stable B I) (k : Stable B J) : Stable B (fun s W => I s W ∧ J s W) := fun s W W' hs hc => ⟨h s W W' hs.1 hc, k s W W' hs.2 hc⟩

theorem stable_same {β : Type} {M : Nat → Prop} {W : World} {B : Nat} (hB : W.heap.size ≤ B) : Stable B (fun (_ : β) W' => SameBut M W W') := fun _ X Y h hc =>
  ⟨hc.os.trans h.os, hc.tape.trans h.tape, hc.output.trans h.output, Nat.le_trans h.size hc.size, fun k hk hm => by
    have hx := h.block k hk hm
    have hl : k < X.heap.size := Nat.lt_of_lt_of_le hk h.size
    rw [Array.getElem?_eq_getElem hl] at hx
    rw [hc.block k _ (Array.getElem?_eq_getElem hl) (.inl (by omega))]; exact hx⟩

/-- An iterator that yields just xs, in this order, or a part of it if a round says 'no more'. C: the blocks that it reads. -/
def Seq {α : Type} (F : Fence) (P : Program) (g : Nat) (lb : Array Value) (encs : α → Array Value) (xs : List α) (C : Nat → Prop) (w : World) : Prop :=
  ∀ (l : Nat) (R : Nat → Prop) (J Jx : List α → World → Prop) (W : World),
    SameBut (fun _ => False) w W → (∀ k, R k → k < W.heap.size) → (∀ k, C k → ¬ R k) → Stable W.heap.size J → Stable W.heap.size Jx →
    (∀ pre x W1, pre ++ [x] <+: xs → J pre W1 → YieldAt F 0 P l (encs x) W1 fun e W' =>
      (e = .returned (.bool true) ∧ J (pre ++ [x]) W' ∧ SameBut R W1 W') ∨ (e = .returned (.bool false) ∧ Jx (pre ++ [x]) W' ∧ SameBut R W1 W')) →
    J [] W →
    CallsIn F 0 P g (#[.func (.yield l) #[] #[]] ++ lb) W fun e W' => (∃ v, e = .returned v) ∧ (J xs W' ∨ ∃ pre, pre <+: xs ∧ Jx pre W')

theorem Seq.later {α : Type} {F : Fence} {P : Program} {g : Nat} {lb : Array Value} {encs : α → Array Value} {xs : List α} {C : Nat → Prop} {w w' : World}
    (h : Seq F P g lb encs xs C w) (hs : SameBut (fun _ => False) w w') : Seq F P g lb encs xs C w' :=
  fun l R J Jx W hW => h l R J Jx W (hs.trans hW)
theorem Seq.inRound {α : Type} {F : Fence} {P : Program} {g : Nat} {lb : Array Value} {encs : α → Array Value} {xs : List α} {C : Nat → Prop} {w : World} (l : Nat)
    (h : Seq F P g lb encs xs C w) : Seq (F.inRound l) P g lb encs xs C w := h

/-- How the body of a round may be left. -/
def rangeQ {α : Type} (M : Nat → Prop) (I : List α → World → Prop) (Ix : Code → List α → World → Prop) (xs : List α) (W : World) : Exit → Act → World → Prop
  | .normal, _, W' => SameBut M W W' ∧ I xs W'
  | .ret, _, W' => SameBut M W W' ∧ Ix .ret xs W'
  | .exit id, _, W' => SameBut M W W' ∧ Ix (.exit id) xs W'
  | .goto t, _, W' => SameBut M W W' ∧ Ix (.goto t) xs W'
  | .panic _, _, _ => False
  | .outgrown, _, _ => False

section
variable {F : Fence} {P : Program}

/-- One round, seen from the iterator: the loop's record is D's, its rounds write M. -/
theorem range_round {α : Type} {ps : Array Tmp} {assign body : Code} {a : Act} {B l D : Nat} {rec : LoopState → Option Code → Loop} (hF : ∀ f, F.fn f) {fn : FuncId}
    (hrec : rec = fun st pe => { state := st, pending := pe, fn, tmps := a.tmps, params := ps, assign, body, defers := D }) (hBl : B ≤ l)
    {encs : α → Array Value} (hps : ∀ x, (encs x).size = ps.size) {M : Nat → Prop} (hM : ∀ k, M k → k < B)
    {I : List α → World → Prop} {Ix : Code → List α → World → Prop} (hI : Stable B I) (hIx : ∀ c, Stable B (Ix c)) {Ax : α → Act → World → Prop} (hAx : ∀ x a', Stable B (fun (_ : Unit) W => Ax x a' W))
    {pre : List α} {x : α} {W : World} (hl : W.heap[l]? = some (.loop (rec .ready none))) (_hi : I pre W)
    (hassign : ∀ (K : Act → World → Prop), (∀ a' W', SameBut M W W' → I pre W' → Ax x a' W' → K a' W') →
      assign.wpIn (F.inRound l) 0 P (Exit.then K (fun _ _ _ => False)) { tmps := (ps.zip (encs x)).foldl (fun t (p, v) => t.setIfInBounds p v) a.tmps, defers := [] } W)
    (hbody : ∀ (a' : Act) (W' : World), (∃ r, W'.heap[l]? = some (.loop r)) → I pre W' → Ax x a' W' → body.wpIn (F.inRound l) 0 P (rangeQ M I Ix (pre ++ [x]) W') a' W') :
    YieldAt F 0 P l (encs x) W fun e W' =>
      (e = .returned (.bool true) ∧ (I (pre ++ [x]) W' ∧ W'.heap[l]? = some (.loop (rec .ready none))) ∧ SameBut (fun k => M k ∨ k = l) W W') ∨
      (e = .returned (.bool false) ∧ (∃ c, Ix c (pre ++ [x]) W' ∧ W'.heap[l]? = some (.loop (rec .done (some c)))) ∧ SameBut (fun k => M k ∨ k = l) W W') := by
  have hy := run_yield (P := P) (args := encs x) hl (by rw [hrec]; exact hps x)
  rw [hrec] at hy
  refine ⟨fn, _, assign, body, hy, roundIn_of_wpIn (hF fn) (hassign _ ?_)⟩
  intro a' Wa hs hia hax
  have hMl : ¬ M l := fun e => by have := hM l e; omega
  have hlW : l < W.heap.size := (Array.getElem?_eq_some_iff.1 hl).1
  have hla : Wa.heap[l]? = some (.loop (rec .ready none)) := by rw [hs.block l hlW hMl]; exact hl
  have hlt : l < Wa.heap.size := (Array.getElem?_eq_some_iff.1 hla).1
  refine ⟨_, run_beginRound hla (by rw [hrec]), ?_⟩
  have hl2 : (Wa.putObj l (.loop { rec .ready none with state := .busy })).heap[l]? = some (.loop { rec .ready none with state := .busy }) := World.putObj_heap_same hlt
  have hca : Calm B Wa (Wa.putObj l (.loop { rec .ready none with state := .busy })) := calm_put _ hla hBl rfl
  refine wpIn_mono (hbody a' _ ⟨_, hl2⟩ (hI _ _ _ hia hca) (hAx x a' () _ _ hax hca)) ?_
  have hs2 : SameBut (fun k => M k ∨ k = l) W (Wa.putObj l (.loop { rec .ready none with state := .busy })) := same_put (hs.mono fun k h => .inl h) _ (.inl (.inr rfl))
  have fin : ∀ (jump : Option Code) (W3 : World), SameBut M (Wa.putObj l (.loop { rec .ready none with state := .busy })) W3 →
      (Instr.endRound l jump).run P W3 = .ok (.bool jump.isNone) (W3.putObj l (.loop (rec (if jump.isNone then .ready else .done) jump))) ∧
      Calm B W3 (W3.putObj l (.loop (rec (if jump.isNone then .ready else .done) jump))) ∧
      (W3.putObj l (.loop (rec (if jump.isNone then .ready else .done) jump))).heap[l]? = some (.loop (rec (if jump.isNone then .ready else .done) jump)) ∧
      SameBut (fun k => M k ∨ k = l) W (W3.putObj l (.loop (rec (if jump.isNone then .ready else .done) jump))) := fun jump W3 h3 => by
    have hl3 : W3.heap[l]? = some (.loop { rec .ready none with state := .busy }) := by rw [h3.block l (by rw [World.putObj_size]; exact hlt) hMl]; exact hl2
    have hr := run_endRound (P := P) jump hl3
    refine ⟨by rw [hr, hrec], calm_put _ hl3 hBl rfl, World.putObj_heap_same (Array.getElem?_eq_some_iff.1 hl3).1, same_put (hs2.trans (h3.mono fun k h => .inl h)) _ (.inl (.inr rfl))⟩
  rintro e a3 W3 hp
  cases e with
  | normal =>
    obtain ⟨hs3, hi3⟩ := hp
    obtain ⟨hr, hc, hl4, hs4⟩ := fin none W3 hs3
    exact ⟨_, _, hr, .inl ⟨rfl, ⟨hI _ _ _ hi3 hc, hl4⟩, hs4⟩⟩
  | ret =>
    obtain ⟨hs3, hi3⟩ := hp
    obtain ⟨hr, hc, hl4, hs4⟩ := fin (some .ret) W3 hs3
    exact ⟨_, _, hr, .inr ⟨rfl, ⟨.ret, hIx _ _ _ _ hi3 hc, hl4⟩, hs4⟩⟩
  | exit id =>
    obtain ⟨hs3, hi3⟩ := hp
    obtain ⟨hr, hc, hl4, hs4⟩ := fin (some (.exit id)) W3 hs3
    exact ⟨_, _, hr, .inr ⟨rfl, ⟨.exit id, hIx _ _ _ _ hi3 hc, hl4⟩, hs4⟩⟩
  | goto t =>
    obtain ⟨hs3, hi3⟩ := hp
    obtain ⟨hr, hc, hl4, hs4⟩ := fin (some (.goto t)) W3 hs3
    exact ⟨_, _, hr, .inr ⟨rfl, ⟨.goto t, hIx _ _ _ _ hi3 hc, hl4⟩, hs4⟩⟩
  | panic ch => exact hp.elim
  | outgrown => exact hp.elim

/-- The statement 'for .. := range g', in a function's own frame. -/
theorem wpIn_range {α : Type} {g : Operand} {ps : Array Tmp} {assign body : Code} {Q : Exit → Act → World → Prop} {a : Act} {w : World} (hO : Open F) (hro : F.round = none)
    {gf : Nat} {lb : Array Value} (hg : a.eval g = .func (.func gf) #[] lb) (eg : ∀ args w, (callFunc gf args).run P w = .ok (.enter gf args) w)
    {encs : α → Array Value} {xs : List α} {C : Nat → Prop} (hseq : Seq F P gf lb encs xs C w) (hps : ∀ x, (encs x).size = ps.size)
    (M : Nat → Prop) (hM : ∀ k, M k → k < w.heap.size) (hC : ∀ k, C k → k < w.heap.size ∧ ¬ M k)
    (I : List α → World → Prop) (Ix : Code → List α → World → Prop) (hI : Stable w.heap.size I) (hIx : ∀ c, Stable w.heap.size (Ix c)) (h0 : I [] w)
    (Ax : α → Act → World → Prop) (hAx : ∀ x a', Stable w.heap.size (fun (_ : Unit) W => Ax x a' W))
    (hassign : ∀ (l : Nat) (pre : List α) (x : α) (W : World) (K : Act → World → Prop), pre ++ [x] <+: xs → I pre W → (∀ a' W', SameBut M W W' → I pre W' → Ax x a' W' → K a' W') →
      assign.wpIn (F.inRound l) 0 P (Exit.then K (fun _ _ _ => False)) { tmps := (ps.zip (encs x)).foldl (fun t (p, v) => t.setIfInBounds p v) a.tmps, defers := [] } W)
    (hbody : ∀ (l : Nat) (pre : List α) (x : α) (a' : Act) (W : World), pre ++ [x] <+: xs → w.heap.size ≤ l → (∃ r, W.heap[l]? = some (.loop r)) → I pre W → Ax x a' W → body.wpIn (F.inRound l) 0 P (rangeQ M I Ix (pre ++ [x]) W) a' W)
    (hdone : ∀ (W : World), I xs W → W.heap[w.heap.size]? = some (.deferred (some [])) → Q .normal { a with defers := { target := .collected w.heap.size, args := #[] } :: a.defers } W)
    (hstop : ∀ (c : Code) (pre : List α) (W : World), pre <+: xs → Ix c pre W → W.heap[w.heap.size]? = some (.deferred (some [])) → c.wpIn F 0 P Q { a with defers := { target := .collected w.heap.size, args := #[] } :: a.defers } W) :
    (Code.rangeFunc g ps assign body).wpIn F 0 P Q a w := by
  refine wpIn_rangeFunc ?_
  intro fn _
  rw [hro]
  obtain ⟨rec, hrec⟩ : ∃ rec : LoopState → Option Code → Loop, rec = fun st pe => { state := st, pending := pe, fn, tmps := a.tmps, params := ps, assign, body, defers := w.heap.size } := ⟨_, rfl⟩
  obtain ⟨W1, hW1⟩ : ∃ W1, (w.alloc (.deferred (some []))).alloc (.loop (rec .ready none)) = W1 := ⟨_, rfl⟩
  have hsz1 : W1.heap.size = w.heap.size + 2 := by rw [← hW1]; simp
  have hL1 : W1.heap[w.heap.size + 1]? = some (.loop (rec .ready none)) := by
    rw [← hW1]; have := World.alloc_heap_new (w.alloc (.deferred (some []))) (.loop (rec .ready none)); rwa [World.size_alloc] at this
  have hK1 : W1.heap[w.heap.size]? = some (.deferred (some [])) := by
    rw [← hW1]; exact (Below.heap_alloc _ _ _ (by simp)).trans (World.alloc_heap_new w _)
  have hc1 : Calm w.heap.size w W1 := by rw [← hW1]; exact (calm_alloc _ _ _).trans (calm_alloc _ _ _)
  have hs1 : SameBut (fun _ => False) w W1 := by rw [← hW1]; exact ((SameBut.refl _ w).alloc _).alloc _
  refine ⟨w.heap.size + 1, [{ target := .collected w.heap.size, args := #[] }], W1, { target := .fn (.func gf) lb, args := #[.func (.yield (w.heap.size + 1)) #[] #[]] }, W1, gf,
    #[.func (.yield (w.heap.size + 1)) #[] #[]] ++ lb, W1, ?_, ?_, ?_, ?_, fun h => (by rw [hO.depth] at h; cases h), ?_⟩
  · rw [← hW1, hrec]; exact run_enterLoop_outer _ _ _ _ _
  · simp only [resolve, hg]
    simp [go_sem]
  · intro f' _; exact hO.fn f'
  · simp [invoke, go_sem, eg]
  · refine (hseq (w.heap.size + 1) (fun k => M k ∨ k = w.heap.size + 1)
      (fun pre W => (I pre W ∧ W.heap[w.heap.size + 1]? = some (.loop (rec .ready none))) ∧ W.heap[w.heap.size]? = some (.deferred (some [])))
      (fun pre W => (∃ c, Ix c pre W ∧ W.heap[w.heap.size + 1]? = some (.loop (rec .done (some c)))) ∧ W.heap[w.heap.size]? = some (.deferred (some [])))
      W1 hs1 ?_ ?_ ?_ ?_ ?_ ⟨⟨hI _ _ _ h0 hc1, hL1⟩, hK1⟩).mono ?_
    · rintro k (hk | rfl)
      · have := hM k hk; omega
      · omega
    · rintro k hk (h | rfl)
      · exact (hC k hk).2 h
      · have := (hC _ hk).1; omega
    · rintro s W W' ⟨⟨h1, h2⟩, h3⟩ hc
      exact ⟨⟨hI _ _ _ h1 (hc.mono (by omega)), hc.block _ _ h2 (.inl (by omega))⟩, hc.block _ _ h3 (.inl (by omega))⟩
    · rintro s W W' ⟨⟨c, h1, h2⟩, h3⟩ hc
      exact ⟨⟨c, hIx c _ _ _ h1 (hc.mono (by omega)), hc.block _ _ h2 (.inl (by omega))⟩, hc.block _ _ h3 (.inl (by omega))⟩
    · rintro pre x W hx ⟨⟨hi, hl⟩, hk⟩
      obtain ⟨f', t', as', bo', hy, hR⟩ := range_round (F := F) (P := P) hO.fn hrec (Nat.le_succ _) hps hM hI hIx hAx hl hi (fun K hK => hassign _ pre x W K hx hi hK) (fun a' W' hr hi' ha' => hbody _ pre x a' W' hx (by omega) hr hi' ha')
      have hD : ∀ W', SameBut (fun k => M k ∨ k = w.heap.size + 1) W W' → W'.heap[w.heap.size]? = some (.deferred (some [])) := fun W' hs => by
        rw [hs.block _ (Array.getElem?_eq_some_iff.1 hk).1 (by rintro (h | h); have := hM _ h; omega; omega)]; exact hk
      refine ⟨f', t', as', bo', hy, hR.mono ?_⟩
      rintro e W' (⟨rfl, h1, h2⟩ | ⟨rfl, h1, h2⟩)
      · exact .inl ⟨rfl, ⟨h1, hD _ h2⟩, h2⟩
      · exact .inr ⟨rfl, ⟨h1, hD _ h2⟩, h2⟩
    · rintro e W2 ⟨⟨v, rfl⟩, (⟨⟨hi, hl⟩, hk⟩ | ⟨pre, hpre, ⟨c, hi, hl⟩, hk⟩)⟩
      · refine ⟨none, _, by have := run_endLoop (P := P) hl (by rw [hrec]; simp); rw [hrec] at this; exact this, ?_⟩
        exact hdone _ (hI _ _ _ hi (calm_put _ hl (by omega) rfl)) ((World.putObj_heap_other (by omega)).trans hk)
      · refine ⟨some c, _, by have := run_endLoop (P := P) hl (by rw [hrec]; simp); rw [hrec] at this; exact this, ?_⟩
        exact hstop c pre _ hpre (hIx c _ _ _ hi (calm_put _ hl (by omega) rfl)) ((World.putObj_heap_other (by omega)).trans hk)

/-- The same, in a round of another loop. -/
theorem wpIn_range_inner {α : Type} {l₀ : Nat} {r₀ : Loop} {g : Operand} {ps : Array Tmp} {assign body : Code} {Q : Exit → Act → World → Prop} {a : Act} {w : World} (hO : Open F) (hro : F.round = some l₀)
    (hr0 : w.heap[l₀]? = some (.loop r₀))
    {gf : Nat} {lb : Array Value} (hg : a.eval g = .func (.func gf) #[] lb) (eg : ∀ args w, (callFunc gf args).run P w = .ok (.enter gf args) w)
    {encs : α → Array Value} {xs : List α} {C : Nat → Prop} (hseq : Seq F P gf lb encs xs C w) (hps : ∀ x, (encs x).size = ps.size)
    (M : Nat → Prop) (hM : ∀ k, M k → k < w.heap.size) (hC : ∀ k, C k → k < w.heap.size ∧ ¬ M k)
    (I : List α → World → Prop) (Ix : Code → List α → World → Prop) (hI : Stable w.heap.size I) (hIx : ∀ c, Stable w.heap.size (Ix c)) (h0 : I [] w)
    (Ax : α → Act → World → Prop) (hAx : ∀ x a', Stable w.heap.size (fun (_ : Unit) W => Ax x a' W))
    (hassign : ∀ (l : Nat) (pre : List α) (x : α) (W : World) (K : Act → World → Prop), pre ++ [x] <+: xs → I pre W → (∀ a' W', SameBut M W W' → I pre W' → Ax x a' W' → K a' W') →
      assign.wpIn (F.inRound l) 0 P (Exit.then K (fun _ _ _ => False)) { tmps := (ps.zip (encs x)).foldl (fun t (p, v) => t.setIfInBounds p v) a.tmps, defers := [] } W)
    (hbody : ∀ (l : Nat) (pre : List α) (x : α) (a' : Act) (W : World), pre ++ [x] <+: xs → w.heap.size ≤ l → (∃ r, W.heap[l]? = some (.loop r)) → I pre W → Ax x a' W → body.wpIn (F.inRound l) 0 P (rangeQ M I Ix (pre ++ [x]) W) a' W)
    (hdone : ∀ (W : World), I xs W → Q .normal a W)
    (hstop : ∀ (c : Code) (pre : List α) (W : World), pre <+: xs → Ix c pre W → c.wpIn F 0 P Q a W) :
    (Code.rangeFunc g ps assign body).wpIn F 0 P Q a w := by
  refine wpIn_rangeFunc ?_
  intro fn _
  rw [hro]
  obtain ⟨rec, hrec⟩ : ∃ rec : LoopState → Option Code → Loop, rec = fun st pe => { state := st, pending := pe, fn, tmps := a.tmps, params := ps, assign, body, defers := r₀.defers } := ⟨_, rfl⟩
  obtain ⟨W1, hW1⟩ : ∃ W1, w.alloc (.loop (rec .ready none)) = W1 := ⟨_, rfl⟩
  have hsz1 : W1.heap.size = w.heap.size + 1 := by rw [← hW1]; simp
  have hL1 : W1.heap[w.heap.size]? = some (.loop (rec .ready none)) := by rw [← hW1]; exact World.alloc_heap_new w _
  have hc1 : Calm w.heap.size w W1 := by rw [← hW1]; exact calm_alloc _ _ _
  have hs1 : SameBut (fun _ => False) w W1 := by rw [← hW1]; exact (SameBut.refl _ w).alloc _
  refine ⟨w.heap.size, [], W1, { target := .fn (.func gf) lb, args := #[.func (.yield w.heap.size) #[] #[]] }, W1, gf,
    #[.func (.yield w.heap.size) #[] #[]] ++ lb, W1, ?_, ?_, ?_, ?_, fun h => (by rw [hO.depth] at h; cases h), ?_⟩
  · rw [← hW1, hrec]; exact run_enterLoop_inner hr0 _ _ _ _ _
  · simp only [resolve, hg]
    simp [go_sem]
  · intro f' _; exact hO.fn f'
  · simp [invoke, go_sem, eg]
  · refine (hseq w.heap.size (fun k => M k ∨ k = w.heap.size)
      (fun pre W => I pre W ∧ W.heap[w.heap.size]? = some (.loop (rec .ready none)))
      (fun pre W => ∃ c, Ix c pre W ∧ W.heap[w.heap.size]? = some (.loop (rec .done (some c))))
      W1 hs1 ?_ ?_ ?_ ?_ ?_ ⟨hI _ _ _ h0 hc1, hL1⟩).mono ?_
    · rintro k (hk | rfl)
      · have := hM k hk; omega
      · omega
    · rintro k hk (h | rfl)
      · exact (hC k hk).2 h
      · have := (hC _ hk).1; omega
    · rintro s W W' ⟨h1, h2⟩ hc
      exact ⟨hI _ _ _ h1 (hc.mono (by omega)), hc.block _ _ h2 (.inl (by omega))⟩
    · rintro s W W' ⟨c, h1, h2⟩ hc
      exact ⟨c, hIx c _ _ _ h1 (hc.mono (by omega)), hc.block _ _ h2 (.inl (by omega))⟩
    · rintro pre x W hx ⟨hi, hl⟩
      obtain ⟨f', t', as', bo', hy, hR⟩ := range_round (F := F) (P := P) hO.fn hrec (Nat.le_refl _) hps hM hI hIx hAx hl hi (fun K hK => hassign _ pre x W K hx hi hK) (fun a' W' hr hi' ha' => hbody _ pre x a' W' hx (Nat.le_refl _) hr hi' ha')
      refine ⟨f', t', as', bo', hy, hR.mono ?_⟩
      rintro e W' (⟨rfl, h1, h2⟩ | ⟨rfl, h1, h2⟩)
      · exact .inl ⟨rfl, h1, h2⟩
      · exact .inr ⟨rfl, h1, h2⟩
    · rintro e W2 ⟨⟨v, rfl⟩, (⟨hi, hl⟩ | ⟨pre, hpre, c, hi, hl⟩)⟩
      · refine ⟨none, _, by have := run_endLoop (P := P) hl (by rw [hrec]; simp); rw [hrec] at this; exact this, ?_⟩
        exact hdone _ (hI _ _ _ hi (calm_put _ hl (Nat.le_refl _) rfl))
      · refine ⟨some c, _, by have := run_endLoop (P := P) hl (by rw [hrec]; simp); rw [hrec] at this; exact this, ?_⟩
        exact hstop c pre _ hpre (hIx c _ _ _ hi (calm_put _ hl (Nat.le_refl _) rfl))
end
end Go.Proofs.Ytbbolibkheelmaa
namespace Go.Proofs.Ytbbolibkheelmaa
open Go.RowKit Go.Shelf

attribute [local go_sem] Oper.semAt_some

/-- A place of the part p. -/
abbrev placeV (p t : Nat) : Value := .agg #[.int .i64 p, .int .i64 t]
/-- How far an iterator has come, read off its cell. -/
def atOf (w : World) (v : Value) : Nat := match w.cell? ⟨blkOf v, 1, none⟩ with | some (.int _ n) => n.toNat | _ => 0

theorem range_pre {k N : Nat} (h : k < N) : List.range k ++ [k] <+: List.range N := by
  have := List.range_add (n := k + 1) (m := N - (k + 1))
  rw [show k + 1 + (N - (k + 1)) = N by omega] at this
  exact ⟨_, by rw [← List.range_succ]; exact this.symm⟩

def Blk (w : World) (b : Nat) (c : Array Value) : Prop := ∃ t, w.heap[b]? = some (.cells c t (0, 0))
theorem Blk.lt {w : World} {b : Nat} {c : Array Value} (h : Blk w b c) : b < w.heap.size := by obtain ⟨t, h⟩ := h; exact lt_of_block h
theorem Blk.cell {w : World} {b i : Nat} {c : Array Value} (h : Blk w b c) : w.cell? ⟨b, i, none⟩ = c[i]? := by obtain ⟨t, h⟩ := h; exact cell_of_row w b i _ _ _ h
theorem Blk.frozen {w : World} {b i : Nat} {c : Array Value} (h : Blk w b c) : w.frozen? ⟨b, i, none⟩ = false := by obtain ⟨t, h⟩ := h; exact frozen_of_row w b i _ _ h
theorem Blk.same {M : Nat → Prop} {w w' : World} {b : Nat} {c : Array Value} (h : Blk w b c) (hs : SameBut M w w') (hm : ¬ M b) : Blk w' b c := by
  have hl := h.lt
  obtain ⟨t, h⟩ := h; exact ⟨t, by rw [hs.block b hl hm]; exact h⟩
theorem Blk.calm {B : Nat} {w w' : World} {b : Nat} {c : Array Value} (h : Blk w b c) (hs : Calm B w w') : Blk w' b c := by
  obtain ⟨t, h⟩ := h; exact ⟨t, hs.cells h⟩
theorem Blk.below {B : Nat} {w w' : World} {b : Nat} {c : Array Value} (h : Blk w b c) (hs : Below B w w') (hb : b < B) : Blk w' b c := by
  obtain ⟨t, h⟩ := h; exact ⟨t, by rw [hs.block b hb]; exact h⟩
theorem Blk.new (w : World) (c : Array Value) (t : TypeId) : Blk (w.alloc (.cells c t)) w.heap.size c := ⟨t, heap_alloc_new w _⟩
theorem Blk.alloc {w : World} {b : Nat} {c : Array Value} (h : Blk w b c) (o : Obj) : Blk (w.alloc o) b c := h.calm (calm_alloc 0 w o)

set_option maxRecDepth 100000 in
set_option maxHeartbeats 1000000 in
theorem places_seq {F : Fence} (hO : Open F) (hro : F.round = none) {B1 B2 p N : Nat} {w : World} (h1 : Blk w B1 #[.int .i64 p]) (h2 : Blk w B2 #[.int .i64 p, .int .i64 N]) (hN : N ≤ 1000) :
    Seq F Try.prog 103 #[.pointer (some ⟨B1, 0, none⟩), .pointer (some ⟨B2, 0, none⟩)] (fun x => #[placeV p x]) (List.range N) (fun k => k = B1 ∨ k = B2) w := by
  intro l R J Jx W hW hR hCR hJ hJx hY h0
  have hF := hO.fn
  have hd := hO.depth
  have g1 := h1.same hW (fun e => e)
  have g2 := h2.same hW (fun e => e)
  have hm1 : ¬ R B1 := hCR _ (.inl rfl)
  have hm2 : ¬ R B2 := hCR _ (.inr rfl)
  refine callsIn_of_wp Try.func103 rfl (hF _) ?_ hro
  simp only [Try.ntmps103, List.size_toArray, List.length_cons, List.length_nil, Nat.reduceAdd, Nat.reduceSub, Array.replicate_succ, Array.replicate_zero, List.push_toArray, List.append_toArray, List.nil_append, List.cons_append]
  have hc1 := g1.cell (i := 0)
  gi_wp2
  gi_loopw [4] (fun v wr => ∃ (k b : Nat), k ≤ N ∧ v = .pointer (some ⟨b, 0, none⟩) ∧ W.heap.size ≤ b ∧ Blk wr b #[.int .i64 p, .int .i64 k] ∧ J (List.range k) wr ∧ Blk wr B2 #[.int .i64 p, .int .i64 N] ∧ W.heap.size ≤ wr.heap.size) (fun v wr => N - atOf wr v)
  case atStart => exact ⟨0, W.heap.size, by omega, rfl, Nat.le_refl _, Blk.new W _ _, hJ _ _ _ h0 (calm_alloc _ _ _), g2.alloc _, by simp⟩
  case round =>
    obtain ⟨k, b, hk, rfl, hbn, hblk, hJk, hb2, hsz⟩ := hrel
    have hcc2 := hb2.cell (i := 0)
    have hcc3 := hb2.cell (i := 1)
    have hq0 := hblk.cell (i := 0)
    have hq1 := hblk.cell (i := 1)
    by_cases hlt : k < N
    · have hne : (k == N) = false := by simp; omega
      obtain ⟨fn, tmps, assign, body, hy, hRd⟩ := hY _ k wr (range_pre hlt) hJk
      unfold placeV at hy
      gi_wp2
      refine hRd.mono ?_
      rintro e W3 (⟨rfl, hJ3, hk3⟩ | ⟨rfl, hJx3, _⟩)
      · have hblk3 := hblk.same hk3 (fun e => by have := hR b e; omega)
        have hb23 := hb2.same hk3 hm2
        have hsz3 := hk3.size
        have hr0 := hblk3.cell (i := 0)
        have hr1 := hblk3.cell (i := 1)
        have hbW : b < W3.heap.size := hblk3.lt
        have hat : atOf wr (.pointer (some ⟨b, 0, none⟩)) = k := by simp [atOf, hq1]
        clear hq0 hq1 hcc2 hcc3
        gi_wp2
        go_roundw
        case rel => exact ⟨k + 1, W3.heap.size, by omega, rfl, by omega, Blk.new W3 _ _, by rw [List.range_succ]; exact hJ _ _ _ hJ3 (calm_alloc _ _ _), hb23.alloc _, by simp; omega⟩
        case measure =>
          rw [hat]
          have : atOf (W3.alloc (.cells #[.int .i64 p, .int .i64 (k + 1)] 89)) (.pointer (some ⟨W3.heap.size, 0, none⟩)) = k + 1 := by simp [atOf]
          rw [this]; omega
      · gi_wp2
        refine bodyPost_ret (results_none rfl _ _ _) rfl ?_
        exact ⟨⟨_, rfl⟩, .inr ⟨List.range k ++ [k], range_pre hlt, hJx3⟩⟩
    · obtain rfl : k = N := by omega
      gi_wp2
      go_end0
      exact ⟨⟨_, rfl⟩, .inl hJk⟩

end Go.Proofs.Ytbbolibkheelmaa
