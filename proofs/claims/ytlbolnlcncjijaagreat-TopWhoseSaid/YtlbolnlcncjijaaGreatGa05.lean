/- What holds of a world in which abstract code runs. What operations do that lay or write. Slices that are made, and that grow. -/
import Derived.Test.YtlbolnlcncjijaaGreatGa04
import Derived.Laws.MakeOwn
import Derived.Maps.AppendAt
namespace Go.Proofs.YtlbolnlcncjijaaGreat
open Go.RowKit

def Pre (rho rho' : List Nat) : Prop := ∀ (id b : Nat), rho[id]? = some b → rho'[id]? = some b
theorem Pre.refl (rho : List Nat) : Pre rho rho := fun _ _ h => h
theorem Pre.trans {a b c : List Nat} (h : Pre a b) (k : Pre b c) : Pre a c := fun i x e => k i x (h i x e)
theorem Pre.app (rho : List Nat) (b : Nat) : Pre rho (rho ++ [b]) := fun i x e => by
  rw [List.getElem?_append_left (List.getElem?_eq_some_iff.1 e).1]; exact e

theorem Rel.mono {g g' : GP} {rho rho' : List Nat} (hg : g.le g') (hr : Pre rho rho') {x : AV} {v : Value} (h : Rel g rho x v) : Rel g' rho' x v := by
  induction h with
  | p h => exact .p (h.mono hg)
  | loc h => exact .loc (hr _ _ h)
  | agg cs vs hl h1 _ ih => exact .agg cs vs hl h1 ih
  | clo f fi cap vf vs hl hl2 _ _ ih ih2 => exact .clo f fi cap vf vs hl hl2 ih ih2
  | sli h hn hc hm => exact .sli (hr _ _ h) hn hc hm
  | mpl h => exact .mpl (hr _ _ h)
  | tup cs vs hl _ ih => exact .tup cs vs hl ih
theorem RelL.mono {g g' : GP} {rho rho' : List Nat} (hg : g.le g') (hr : Pre rho rho') {cs : List AV} {vs : List Value} (h : RelL g rho cs vs) : RelL g' rho' cs vs :=
  ⟨h.len, h.one, fun i x v hx hv => (h.at_ i x v hx hv).mono hg hr⟩

def GP.fz (g : GP) (b lo hi : Nat) (f : Nat → Value) : GP := { g with frz := fun b' o => if b' = b ∧ lo ≤ o ∧ o < hi then some (f o) else g.frz b' o }
def GP.tk (g : GP) (t : Nat) (x : Value × TypeId × Nat) : GP := { g with tok := fun t' => if t' = t then some x else g.tok t' }
theorem GP.le_fz (g : GP) {b lo hi : Nat} (f : Nat → Value) (h : ∀ o, lo ≤ o → o < hi → g.frz b o = none) : g.le (g.fz b lo hi f) :=
  ⟨fun b' o v e => by
    simp only [GP.fz]
    by_cases hc : b' = b ∧ lo ≤ o ∧ o < hi
    · obtain ⟨rfl, h1, h2⟩ := hc
      rw [h o h1 h2] at e; cases e
    · rw [if_neg hc]; exact e, fun _ _ e => e, rfl⟩
theorem GP.le_tk (g : GP) {t : Nat} (x : Value × TypeId × Nat) (h : g.tok t = none) : g.le (g.tk t x) :=
  ⟨fun _ _ _ e => e, fun t' v e => by
    simp only [GP.tk]
    by_cases hc : t' = t
    · subst hc; rw [h] at e; cases e
    · rw [if_neg hc]; exact e, rfl⟩

def rowB : Value → Option Nat
  | .slice a n c => if n < c then some ((a.map (·.block)).getD 0) else none
  | _ => none
def TokAt (n0 : Nat) (g : GP) (w : World) (t : Nat) : Prop :=
  ∃ v e sz, g.tok t = some (v, e, sz) ∧ ∀ b, rowB v = some b → ∃ n xs, w.ownsRow n0 e sz v n xs ∧ ∀ o, n * sz ≤ o → g.frz b o = none

structure OwnStep (n0 : Nat) (R O : Nat → Prop) (g g' : GP) (w w' : World) : Prop where
  gle : g.le g'
  agree : Agree g' w'
  os : w'.os = w.os
  tape : w'.tape = w.tape
  output : w'.output = w.output
  size : w.heap.size ≤ w'.heap.size
  own : ∀ k, O k → n0 ≤ k ∧ ¬ R k
  block : ∀ k, k < w.heap.size → ¬ O k → w'.heap[k]? = w.heap[k]?
  frz : ∀ b o, b < w.heap.size → ¬ O b → g'.frz b o = g.frz b o

structure ArgsP (g : GP) (args : List PV) (vs : List Value) : Prop where
  len : args.length = vs.length
  at_ : ∀ (i : Nat) (x : PV) (v : Value), args[i]? = some x → vs[i]? = some v → RelP g x v

structure Env (P : Program) (F : Fence) where
  n0 : Nat
  g0 : GP
  rho0 : List Nat
  Φ : (Nat → Prop) → Option (List (List PV)) → GP → World → Prop
  stab : ∀ (R O : Nat → Prop) (ys : Option (List (List PV))) (g g' : GP) (w w' : World), Φ R ys g w → OwnStep n0 R O g g' w w' → Φ R ys g' w'
  yld : ∀ (R : Nat → Prop) (y : List PV) (l : List (List PV)) (g : GP) (w : World) (us : List Value), Φ R (some (y :: l)) g w → Agree g w → ArgsP g y us → (∀ k, R k → k < w.heap.size) →
    YieldAt F 0 P g.yl us.toArray w fun e w' => ∃ (R' : Nat → Prop) (g' : GP), g.le g' ∧ Agree g' w' ∧ (∀ k, R' k → R k ∨ w.heap.size ≤ k) ∧ (∀ k, R' k → k < w'.heap.size) ∧ w.heap.size ≤ w'.heap.size ∧
      (∀ k, k < w.heap.size → n0 ≤ k → ¬ R k → w'.heap[k]? = w.heap[k]? ∧ ∀ o, g'.frz k o = g.frz k o) ∧
      ((e = .returned (.bool true) ∧ Φ R' (some l) g' w') ∨ (e = .returned (.bool false) ∧ Φ R' none g' w'))

def ABlk.mine : ABlk → Bool
  | .cells _ | .mp _ | .mpz _ | .prz _ _ _ | .prt _ _ => true
  | _ => false
def ABlk.lowN : ABlk → Nat
  | .prt n _ => n
  | .prz n _ _ => n
  | _ => 0
structure Inv {P : Program} {F : Fence} (E : Env P F) (g : GP) (rho : List Nat) (R : Nat → Prop) (ks : List Nat) (loc : List ABlk) (live : List Nat) (ys : Option (List (List PV))) (w : World) : Prop where
  agree : Agree g w
  fr : E.Φ R ys g w
  low : E.n0 ≤ w.heap.size
  len : rho.length = loc.length
  locs : LocAt g rho w loc
  rlt : ∀ (id b : Nat), rho[id]? = some b → E.n0 ≤ b ∧ b < w.heap.size ∧ ¬ R b
  own : ∀ (id : Nat) (k : ABlk) (b : Nat), loc[id]? = some k → k.mine = true → rho[id]? = some b → ∀ o, k.lowN ≤ o → g.frz b o = none
  dis : ∀ (id id' b : Nat), rho[id]? = some b → rho[id']? = some b → id = id'
  toks : ∀ t ∈ live, TokAt E.n0 g w t
  tdis : ∀ t ∈ live, ∀ (v : Value) (e : TypeId) (sz b : Nat), g.tok t = some (v, e, sz) → rowB v = some b →
    ((∀ id : Nat, rho[id]? ≠ some b) ∧ ¬ R b) ∧ ∀ t' ∈ live, ∀ (v' : Value) (e' : TypeId) (sz' : Nat), g.tok t' = some (v', e', sz') → rowB v' = some b → t' = t
  nodup : live.Nodup
  rsz : ∀ k, R k → k < w.heap.size
  ksnd : ks.Nodup
  marks : ∀ k ∈ ks, E.n0 ≤ k ∧ ¬ R k ∧ w.heap[k]? = some (.deferred (some []))

section
variable {P : Program} {F : Fence} {E : Env P F} {g g' : GP} {rho ks : List Nat} {R : Nat → Prop} {loc : List ABlk} {live : List Nat} {ys : Option (List (List PV))} {w w' : World}

theorem Agree.lt (h : Agree g w) {b o : Nat} {v : Value} (e : g.frz b o = some v) : b < w.heap.size := (h.frz b o v e).lt
theorem Agree.mono {g' : GP} (h : Agree g' w) (hg : g.le g') : Agree g w :=
  ⟨fun b o v e => h.frz b o v (hg.frz b o v e), let ⟨N, hN⟩ := h.fin; ⟨N, fun t ht => by
    cases e : g.tok t with
    | none => rfl
    | some x => have := hg.tok t x e; rw [hN t ht] at this; cases this⟩⟩
theorem Agree.keep (h : Agree g w) (hk : ∀ b o v, g.frz b o = some v → w'.heap[b]? = w.heap[b]?) : Agree g w' :=
  ⟨fun b o v e => (h.frz b o v e).keep (hk b o v e), h.fin⟩

theorem EntsP.mono {es : List (PV × PV)} {l : List MapEntry} (h : EntsP g es l) (hg : g.le g') : EntsP g' es l :=
  ⟨h.len, fun i x e h1 h2 => ⟨(h.at_ i x e h1 h2).1.mono hg, (h.at_ i x e h1 h2).2.mono hg⟩⟩
def ABlk.turns : ABlk → Bool
  | .cells _ | .mp _ | .half _ | .mpz _ | .prz _ _ _ | .prt _ _ => true
  | _ => false
theorem BlkAt.keep {b : Nat} {k : ABlk} {rho' : List Nat} (h : BlkAt g rho w b k) (hg : g.le g') (hr : Pre rho rho') (hk : k.turns = true → w'.heap[b]? = w.heap[b]?) : BlkAt g' rho' w' b k := by
  cases k with
  | cells cs =>
    obtain ⟨vs, us, t, hb, hrl⟩ := h
    exact ⟨vs, us, t, (hk rfl).trans hb, hrl.mono hg hr⟩
  | mp es =>
    obtain ⟨ents, clk, hb, he⟩ := h
    exact ⟨ents, clk, (hk rfl).trans hb, he.mono hg⟩
  | half cs =>
    obtain ⟨vs, us, t, hb, hrl, hf⟩ := h
    exact ⟨vs, us, t, (hk rfl).trans hb, hrl.mono hg hr, fun j v hv => hg.frz _ _ _ (hf j v hv)⟩
  | frz cs =>
    obtain ⟨f, hf⟩ := h
    exact ⟨f, fun j x hx => ⟨hg.cel (hf j x hx).1, (hf j x hx).2.mono hg⟩⟩
  | mpz es =>
    obtain ⟨ents, clk, hb, he⟩ := h
    exact ⟨ents, clk, (hk rfl).trans hb, he.mono hg⟩
  | mfz es =>
    obtain ⟨l, hf, hr⟩ := h
    exact ⟨l, hg.frz _ _ _ hf, hr.mono hg⟩
  | prz n m cs =>
    obtain ⟨vs, us, t, hb, hrl, hf⟩ := h
    exact ⟨vs, us, t, (hk rfl).trans hb, hrl.mono hg hr, fun j v hj hv => hg.frz _ _ _ (hf j v hj hv)⟩
  | prt n cs =>
    obtain ⟨vs, us, t, hb, hrl, hf⟩ := h
    exact ⟨vs, us, t, (hk rfl).trans hb, hrl.mono hg hr, fun j v hj hv => hg.frz _ _ _ (hf j v hj hv)⟩
  | dead => trivial

theorem ownsRow_keep {n0 : Nat} {e : TypeId} {sz n : Nat} {v : Value} {xs : List Value} (h : w.ownsRow n0 e sz v n xs) (hk : ∀ b, v.ownBlock = some b → w'.heap[b]? = w.heap[b]?) : w'.ownsRow n0 e sz v n xs := by
  refine ⟨h.1, ?_⟩
  rcases h.2 with hn | ⟨b, cap, cur, rfl, hb, hgg, rest⟩
  · exact .inl hn
  · exact .inr ⟨b, cap, cur, rfl, hb, (hk b rfl).trans hgg, rest⟩
theorem rowB_row {n0 : Nat} {v : Value} {b n : Nat} {e : TypeId} {sz : Nat} {xs : List Value} (h : rowB v = some b) (ho : w.ownsRow n0 e sz v n xs) :
    ∃ c cur, v = .slice (some ⟨b, 0, none⟩) n c ∧ n < c ∧ n0 ≤ b ∧ w.heap[b]? = some (.cells cur e (0, 0)) ∧ c ≤ maxLen ∧ cur.size = c * sz ∧ cur.toList.take (n * sz) = xs := by
  rcases ho.2 with ⟨rfl, rfl⟩ | ⟨b', cap, cur, rfl, hb, hgg, hn, hc, hs, ht⟩
  · simp [rowB] at h
  · simp only [rowB] at h
    split at h
    · simp at h
      subst h
      exact ⟨cap, cur, rfl, by assumption, hb, hgg, hc, hs, ht⟩
    · cases h
theorem rowB_own {n0 : Nat} {v : Value} {b n : Nat} {e : TypeId} {sz : Nat} {xs : List Value} (h : rowB v = some b) (ho : w.ownsRow n0 e sz v n xs) : v.ownBlock = some b := by
  obtain ⟨c, cur, rfl, _⟩ := rowB_row h ho
  rfl

theorem OwnStep.refl (n0 : Nat) (R : Nat → Prop) {g : GP} {w : World} (h : Agree g w) : OwnStep n0 R (fun _ => False) g g w w :=
  ⟨GP.le.refl g, h, rfl, rfl, rfl, Nat.le_refl _, fun _ h => h.elim, fun _ _ _ => rfl, fun _ _ _ _ => rfl⟩

theorem Inv.grow (h : Inv E g rho R ks loc live ys w) (hs : OwnStep E.n0 R (fun _ => False) g g' w w') : Inv E g' rho R ks loc live ys w' := by
  have hg := hs.gle
  have hk : ∀ b, b < w.heap.size → w'.heap[b]? = w.heap[b]? := fun b hb => hs.block b hb (fun h => h)
  have hn : ∀ b o, b < w.heap.size → g'.frz b o = g.frz b o := fun b o hb => hs.frz b o hb (fun h => h)
  have hz := hs.size
  have tok : ∀ t ∈ live, g'.tok t = g.tok t := fun t ht => by
    obtain ⟨v, e, sz, h1, _⟩ := h.toks t ht
    rw [h1]; exact hg.tok _ _ h1
  refine ⟨hs.agree, E.stab _ _ _ _ _ _ _ h.fr hs, Nat.le_trans h.low hz, h.len, ?_, ?_, ?_, h.dis, ?_, ?_, h.nodup, fun k hk => Nat.lt_of_lt_of_le (h.rsz k hk) hz, h.ksnd, ?_⟩
  · intro id k b h1 h2
    exact (h.locs id k b h1 h2).keep hg (Pre.refl _) (fun _ => hk b (h.rlt id b h2).2.1)
  · intro id b h1
    obtain ⟨h2, h3, h4⟩ := h.rlt id b h1
    exact ⟨h2, Nat.lt_of_lt_of_le h3 hz, h4⟩
  · intro id k b h1 hm h2 o ho
    exact (hn b o (h.rlt id b h2).2.1).trans (h.own id k b h1 hm h2 o ho)
  · intro t ht
    obtain ⟨v, e, sz, h1, h2⟩ := h.toks t ht
    refine ⟨v, e, sz, hg.tok _ _ h1, fun b hb' => ?_⟩
    obtain ⟨n, xs, h3, h4⟩ := h2 b hb'
    have hlt := (h3.lt b (rowB_own hb' h3)).2
    exact ⟨n, xs, ownsRow_keep h3 (fun b' hb2 => hk b' (h3.lt b' hb2).2), fun o ho => (hn b o hlt).trans (h4 o ho)⟩
  · intro t ht v e sz b h1 h2
    rw [tok t ht] at h1
    obtain ⟨h3, h4⟩ := h.tdis t ht v e sz b h1 h2
    refine ⟨h3, fun t' ht' v' e' sz' h5 h6 => ?_⟩
    rw [tok t' ht'] at h5
    exact h4 t' ht' v' e' sz' h5 h6
  · intro k hk'
    obtain ⟨h1, h2, h3⟩ := h.marks k hk'
    exact ⟨h1, h2, (hk k (Array.getElem?_eq_some_iff.1 h3).1).trans h3⟩

theorem Inv.drew (h : Inv E g rho R ks loc live ys w) : Inv E g rho R ks loc live ys w.drew :=
  h.grow ⟨GP.le.refl g, h.agree.keep (fun _ _ _ _ => rfl), rfl, rfl, rfl, Nat.le_refl _, fun _ h => h.elim, fun _ _ _ => rfl, fun _ _ _ _ => rfl⟩

theorem Inv.step_alloc (_ : Inv E g rho R ks loc live ys w) (w1 : World) (hw1 : w1.heap = w.heap) (ho : w1.os = w.os) (htp : w1.tape = w.tape) (hou : w1.output = w.output) (o : Obj) (hg : g.le g') (hA : Agree g' (w1.alloc o)) (hn : ∀ b o, b < w.heap.size → g'.frz b o = g.frz b o) :
    OwnStep E.n0 R (fun _ => False) g g' w (w1.alloc o) :=
  ⟨hg, hA, ho, htp, hou, by simp [hw1], fun _ h => h.elim, fun k hk _ => by rw [Below.heap_alloc w1 _ k (by rw [hw1]; exact hk), hw1], fun b o hb _ => hn b o hb⟩

theorem Inv.box (h : Inv E g rho R ks loc live ys w) {cs : List AV} {vs us : List Value} (t : TypeId) (hr : RelL g rho cs vs) :
    Inv E g (rho ++ [w.heap.size]) R ks (loc ++ [.cells cs]) live ys (w.alloc (.cells (vs ++ us).toArray t)) := by
  have hk : ∀ b, b < w.heap.size → (w.alloc (.cells (vs ++ us).toArray t)).heap[b]? = w.heap[b]? := fun b hb => Below.heap_alloc w _ b hb
  have hA : Agree g (w.alloc (.cells (vs ++ us).toArray t)) := h.agree.keep (fun b o v e => hk b (h.agree.lt e))
  have hi := h.grow (h.step_alloc w rfl rfl rfl rfl _ (GP.le.refl g) hA (fun _ _ _ => rfl))
  have cutr : ∀ {id : Nat} {b : Nat}, (rho ++ [w.heap.size])[id]? = some b → rho[id]? = some b ∨ (id = loc.length ∧ b = w.heap.size) := by
    intro id b h2
    by_cases hid : id < loc.length
    · rw [List.getElem?_append_left (by rw [h.len]; exact hid)] at h2
      exact .inl h2
    · have e : id = loc.length := by
        have := (List.getElem?_eq_some_iff.1 h2).1
        simp [h.len] at this; omega
      subst e
      rw [List.getElem?_append_right (by rw [h.len]; exact Nat.le_refl _), h.len] at h2
      simp at h2
      exact .inr ⟨rfl, h2.symm⟩
  have cut : ∀ {id : Nat} {k : ABlk} {b : Nat}, (loc ++ [.cells cs])[id]? = some k → (rho ++ [w.heap.size])[id]? = some b → (loc[id]? = some k ∧ rho[id]? = some b) ∨ (id = loc.length ∧ k = .cells cs ∧ b = w.heap.size) := by
    intro id k b h1 h2
    rcases cutr h2 with h3 | ⟨rfl, rfl⟩
    · have hid : id < loc.length := by rw [← h.len]; exact (List.getElem?_eq_some_iff.1 h3).1
      rw [List.getElem?_append_left hid] at h1
      exact .inl ⟨h1, h3⟩
    · rw [List.getElem?_append_right (Nat.le_refl _)] at h1
      simp at h1
      exact .inr ⟨rfl, h1.symm, rfl⟩
  refine ⟨hA, hi.fr, hi.low, by simp [h.len], ?_, ?_, ?_, ?_, hi.toks, ?_, hi.nodup, hi.rsz, hi.ksnd, hi.marks⟩
  · intro id k b h1 h2
    rcases cut h1 h2 with ⟨h1, h2⟩ | ⟨rfl, rfl, rfl⟩
    · refine (hi.locs id k b h1 h2).keep (GP.le.refl g) (Pre.app _ _) (fun _ => rfl)
    · exact ⟨vs, us, t, heap_alloc_new w _, hr.mono (GP.le.refl g) (Pre.app _ _)⟩
  · intro id b h1
    rcases cutr h1 with h1 | ⟨rfl, rfl⟩
    · exact hi.rlt id b h1
    · exact ⟨h.low, by simp, fun hR => by have := h.rsz _ hR; omega⟩
  · intro id cs' b h1 hm h2
    rcases cut h1 h2 with ⟨h1, h2⟩ | ⟨rfl, h3, rfl⟩
    · exact h.own id cs' b h1 hm h2
    · intro o _
      cases e : g.frz w.heap.size o with
      | none => rfl
      | some v => have := h.agree.lt e; omega
  · intro id id' b h1 h2
    rcases cutr h1 with h1 | ⟨rfl, rfl⟩
    · rcases cutr h2 with h2 | ⟨rfl, rfl⟩
      · exact h.dis id id' b h1 h2
      · have := (h.rlt id _ h1).2.1; omega
    · rcases cutr h2 with h2 | ⟨rfl, -⟩
      · have := (h.rlt id' _ h2).2.1; omega
      · rfl
  · intro t' ht v e sz b h1 h2
    obtain ⟨h3, h4⟩ := h.tdis t' ht v e sz b h1 h2
    refine ⟨⟨fun id h6 => ?_, h3.2⟩, h4⟩
    rcases cutr h6 with h6 | ⟨-, rfl⟩
    · exact h3.1 id h6
    · obtain ⟨v', e', sz', h7, h8⟩ := h.toks t' ht
      rw [h1] at h7
      simp only [Option.some.injEq, Prod.mk.injEq] at h7
      obtain ⟨rfl, rfl, rfl⟩ := h7
      obtain ⟨n, xs, h9, _⟩ := h8 _ h2
      have := (h9.lt _ (rowB_own h2 h9)).2
      omega

theorem Inv.lay (h : Inv E g rho R ks loc live ys w) (cs : List Value) (t : TypeId) (h1 : ∀ v ∈ cs, v.oneCell' = true) (m : Nat) (hm : m ≤ cs.length) (w1 : World) (hw1 : w1.heap = w.heap) (ho : w1.os = w.os) (htp : w1.tape = w.tape) (hou : w1.output = w.output) :
    Inv E (g.fz w.heap.size 0 m (fun o => cs.getD o undef)) rho R ks loc live ys (w1.alloc (.cells cs.toArray t)) ∧ g.le (g.fz w.heap.size 0 m (fun o => cs.getD o undef)) := by
  have none : ∀ o, g.frz w.heap.size o = none := fun o => by
    cases e : g.frz w.heap.size o with
    | none => rfl
    | some v => have := h.agree.lt e; omega
  have hle := g.le_fz (b := w.heap.size) (lo := 0) (hi := m) (fun o => cs.getD o undef) (fun o _ _ => none o)
  have hk : ∀ b, b < w.heap.size → (w1.alloc (.cells cs.toArray t)).heap[b]? = w.heap[b]? := fun b hb => by rw [Below.heap_alloc w1 _ b (by rw [hw1]; exact hb), hw1]
  have hA : Agree (g.fz w.heap.size 0 m (fun o => cs.getD o undef)) (w1.alloc (.cells cs.toArray t)) := by
    refine ⟨fun b o v e => ?_, h.agree.fin⟩
    simp only [GP.fz] at e
    split at e
    · rename_i hc
      obtain ⟨rfl, -, h3⟩ := hc
      simp only [Option.some.injEq] at e
      subst e
      have hlt : o < cs.length := by omega
      have hnew := heap_alloc_new w1 (.cells cs.toArray t)
      rw [hw1] at hnew
      refine .inl ⟨?_, ?_⟩
      · rw [cell_of_row _ _ _ _ _ _ hnew]
        simp [List.getD_eq_getElem?_getD, List.getElem?_eq_getElem hlt]
      · rw [List.getD_eq_getElem?_getD, List.getElem?_eq_getElem hlt]
        exact h1 _ (List.getElem_mem hlt)
    · exact (h.agree.frz b o v e).keep (hk b (h.agree.lt e))
  refine ⟨h.grow (h.step_alloc w1 hw1 ho htp hou _ hle hA (fun b o hb => ?_)), hle⟩
  simp only [GP.fz]
  rw [if_neg (by omega)]

theorem Inv.set (h : Inv E g rho R ks loc live ys w) {id b : Nat} {cs cs' : List AV} (h1 : loc[id]? = some (.cells cs)) (h2 : rho[id]? = some b) {vs vs' us : List Value} {t : TypeId}
    (hb : w.heap[b]? = some (.cells (vs ++ us).toArray t (0, 0))) (hr : RelL g rho cs' vs') : Inv E g rho R ks (loc.set id (.cells cs')) live ys (w.setRow b (vs' ++ us).toArray) := by
  have oth : ∀ b', b' ≠ b → (w.setRow b (vs' ++ us).toArray).heap[b']? = w.heap[b']? := fun b' e => setRow_other w b b' _ e
  have get : ∀ {id' : Nat} {k : ABlk}, (loc.set id (.cells cs'))[id']? = some k → (id' = id ∧ k = .cells cs') ∨ (id' ≠ id ∧ loc[id']? = some k) := by
    intro id' k hk
    rw [List.getElem?_set] at hk
    split at hk
    · rename_i e
      split at hk
      · simp only [Option.some.injEq] at hk; exact .inl ⟨e.symm, hk.symm⟩
      · cases hk
    · rename_i e
      exact .inr ⟨fun e' => e e'.symm, hk⟩
  have hA : Agree g (w.setRow b (vs' ++ us).toArray) := h.agree.keep (fun b' o v e => oth b' (fun e' => by subst e'; rw [h.own id _ b' h1 rfl h2 o (Nat.zero_le _)] at e; cases e))
  have hst : OwnStep E.n0 R (fun k => k = b) g g w (w.setRow b (vs' ++ us).toArray) := ⟨GP.le.refl g, hA, rfl, rfl, rfl, by simp, fun k hk => by subst hk; exact ⟨(h.rlt id k h2).1, (h.rlt id k h2).2.2⟩, fun k _ hk => oth k hk, fun _ _ _ _ => rfl⟩
  refine ⟨hA, E.stab _ _ _ _ _ _ _ h.fr hst, by simpa using h.low, by simp [h.len], ?_, ?_, ?_, h.dis, ?_, h.tdis, h.nodup, fun k hk => by simpa using h.rsz k hk, h.ksnd, fun k hk => ?_⟩
  · intro id' k b' h3 h4
    rcases get h3 with ⟨rfl, rfl⟩ | ⟨hne, h3⟩
    · rw [h2] at h4
      simp only [Option.some.injEq] at h4
      subst h4
      exact ⟨vs', us, t, setRow_heap w b _ _ t _ hb, hr⟩
    · exact (h.locs id' k b' h3 h4).keep (GP.le.refl g) (Pre.refl _) (fun _ => oth b' (fun e => hne (h.dis id' id b' h4 (e ▸ h2))))
  · intro id' b' h3
    simpa using h.rlt id' b' h3
  · intro id' c b' h3 hm h4
    rcases get h3 with ⟨rfl, rfl⟩ | ⟨hne, h3⟩
    · rw [h2] at h4
      simp only [Option.some.injEq] at h4
      subst h4
      exact fun o ho => h.own id' _ b h1 rfl h2 o ho
    · exact h.own id' c b' h3 hm h4
  · intro t' ht
    obtain ⟨v, e, sz, h3, h4⟩ := h.toks t' ht
    refine ⟨v, e, sz, h3, fun b' hb' => ?_⟩
    obtain ⟨n, xs, h5, h6⟩ := h4 b' hb'
    refine ⟨n, xs, ownsRow_keep h5 (fun b2 hb2 => oth b2 (fun e' => ?_)), h6⟩
    have := rowB_own hb' h5
    rw [this] at hb2
    simp only [Option.some.injEq] at hb2
    subst hb2
    subst e'
    exact (h.tdis t' ht v e sz b' h3 hb').1.1 id h2
  · obtain ⟨h3, h4, h5⟩ := h.marks k hk
    exact ⟨h3, h4, (oth k (fun e => by subst e; rw [hb] at h5; cases h5)).trans h5⟩

theorem Inv.setP (h : Inv E g rho R ks loc live ys w) {id b m : Nat} {cs cs' : List AV} (h1 : loc[id]? = some (.prt m cs)) (h2 : rho[id]? = some b) {vs vs' us : List Value} {t : TypeId}
    (hb : w.heap[b]? = some (.cells (vs ++ us).toArray t (0, 0))) (hr : RelL g rho cs' vs') (hf : ∀ (j : Nat) (v : Value), j < m → vs[j]? = some v → g.frz b j = some v) (hlen : vs'.length = vs.length) (hsame : ∀ j : Nat, j < m → vs'[j]? = vs[j]?) : Inv E g rho R ks (loc.set id (.prt m cs')) live ys (w.setRow b (vs' ++ us).toArray) := by
  have oth : ∀ b', b' ≠ b → (w.setRow b (vs' ++ us).toArray).heap[b']? = w.heap[b']? := fun b' e => setRow_other w b b' _ e
  have get : ∀ {id' : Nat} {k : ABlk}, (loc.set id (.prt m cs'))[id']? = some k → (id' = id ∧ k = .prt m cs') ∨ (id' ≠ id ∧ loc[id']? = some k) := by
    intro id' k hk
    rw [List.getElem?_set] at hk
    split at hk
    · rename_i e
      split at hk
      · simp only [Option.some.injEq] at hk; exact .inl ⟨e.symm, hk.symm⟩
      · cases hk
    · rename_i e
      exact .inr ⟨fun e' => e e'.symm, hk⟩
  have hA : Agree g (w.setRow b (vs' ++ us).toArray) := by
    refine ⟨fun b' o v e => ?_, h.agree.fin⟩
    by_cases hbb : b' = b
    · subst hbb
      have hom : o < m := by
        rcases Nat.lt_or_ge o m with hlt | hge
        · exact hlt
        · rw [h.own id _ b' h1 rfl h2 o hge] at e; cases e
      rcases h.agree.frz b' o v e with ⟨e1, e2⟩ | ⟨ents, clk, -, e2⟩
      · refine .inl ⟨?_, e2⟩
        rw [cell_of_row _ _ _ _ t _ hb] at e1
        rw [cell_of_row _ _ _ _ t _ (setRow_heap w b' _ _ t _ hb), ← e1, List.getElem?_toArray, List.getElem?_toArray, List.getElem?_append, List.getElem?_append, hlen, hsame o hom]
      · rw [hb] at e2; cases e2
    · exact (h.agree.frz b' o v e).keep (oth b' hbb)
  have hst : OwnStep E.n0 R (fun k => k = b) g g w (w.setRow b (vs' ++ us).toArray) := ⟨GP.le.refl g, hA, rfl, rfl, rfl, by simp, fun k hk => by subst hk; exact ⟨(h.rlt id k h2).1, (h.rlt id k h2).2.2⟩, fun k _ hk => oth k hk, fun _ _ _ _ => rfl⟩
  refine ⟨hA, E.stab _ _ _ _ _ _ _ h.fr hst, by simpa using h.low, by simp [h.len], ?_, ?_, ?_, h.dis, ?_, h.tdis, h.nodup, fun k hk => by simpa using h.rsz k hk, h.ksnd, fun k hk => ?_⟩
  · intro id' k b' h3 h4
    rcases get h3 with ⟨rfl, rfl⟩ | ⟨hne, h3⟩
    · rw [h2] at h4
      simp only [Option.some.injEq] at h4
      subst h4
      exact ⟨vs', us, t, setRow_heap w b _ _ t _ hb, hr, fun j v hj hv => hf j v hj (by rw [← hsame j hj]; exact hv)⟩
    · exact (h.locs id' k b' h3 h4).keep (GP.le.refl g) (Pre.refl _) (fun _ => oth b' (fun e => hne (h.dis id' id b' h4 (e ▸ h2))))
  · intro id' b' h3
    simpa using h.rlt id' b' h3
  · intro id' c b' h3 hm h4
    rcases get h3 with ⟨rfl, rfl⟩ | ⟨hne, h3⟩
    · rw [h2] at h4
      simp only [Option.some.injEq] at h4
      subst h4
      exact fun o ho => h.own id' _ b h1 rfl h2 o ho
    · exact h.own id' c b' h3 hm h4
  · intro t' ht
    obtain ⟨v, e, sz, h3, h4⟩ := h.toks t' ht
    refine ⟨v, e, sz, h3, fun b' hb' => ?_⟩
    obtain ⟨n, xs, h5, h6⟩ := h4 b' hb'
    refine ⟨n, xs, ownsRow_keep h5 (fun b2 hb2 => oth b2 (fun e' => ?_)), h6⟩
    have := rowB_own hb' h5
    rw [this] at hb2
    simp only [Option.some.injEq] at hb2
    subst hb2
    subst e'
    exact (h.tdis t' ht v e sz b' h3 hb').1.1 id h2
  · obtain ⟨h3, h4, h5⟩ := h.marks k hk
    exact ⟨h3, h4, (oth k (fun e => by subst e; rw [hb] at h5; cases h5)).trans h5⟩

theorem Inv.fewer (h : Inv E g rho R ks loc live ys w) {live' : List Nat} (hs : live'.Sublist live) : Inv E g rho R ks loc live' ys w :=
  ⟨h.agree, h.fr, h.low, h.len, h.locs, h.rlt, h.own, h.dis, fun t ht => h.toks t (hs.subset ht), fun t ht v e sz b h1 h2 =>
    let ⟨h3, h4⟩ := h.tdis t (hs.subset ht) v e sz b h1 h2; ⟨h3, fun t' ht' => h4 t' (hs.subset ht')⟩, h.nodup.sublist hs, h.rsz, h.ksnd, h.marks⟩

theorem Inv.token (h : Inv E g rho R ks loc live ys w) {t : Nat} (hnew : g.tok t = none) {v : Value} {e : TypeId} {sz : Nat}
    (hat : ∀ b, rowB v = some b → (∃ n xs, w.ownsRow E.n0 e sz v n xs ∧ ∀ o, n * sz ≤ o → g.frz b o = none) ∧ ((∀ id : Nat, rho[id]? ≠ some b) ∧ ¬ R b) ∧
      ∀ t' ∈ live, ∀ (v' : Value) (e' : TypeId) (sz' : Nat), g.tok t' = some (v', e', sz') → rowB v' ≠ some b) :
    Inv E (g.tk t (v, e, sz)) rho R ks loc (t :: live) ys w ∧ g.le (g.tk t (v, e, sz)) := by
  have hle := g.le_tk (v, e, sz) hnew
  have hnl : t ∉ live := fun hm => by
    obtain ⟨v', e', sz', h1, _⟩ := h.toks t hm
    rw [hnew] at h1; cases h1
  have hA : Agree (g.tk t (v, e, sz)) w := ⟨h.agree.frz, let ⟨N, hN⟩ := h.agree.fin; ⟨max N (t + 1), fun t' ht' => by
    simp only [GP.tk]
    rw [if_neg (by omega)]
    exact hN t' (by omega)⟩⟩
  have hi := h.grow ⟨hle, hA, rfl, rfl, rfl, Nat.le_refl _, fun _ h => h.elim, fun _ _ _ => rfl, fun _ _ _ _ => rfl⟩
  have get : ∀ {t' : Nat} {x : Value × TypeId × Nat}, t' ∈ t :: live → (g.tk t (v, e, sz)).tok t' = some x → (t' = t ∧ x = (v, e, sz)) ∨ (t' ∈ live ∧ g.tok t' = some x) := by
    intro t' x hm hx
    simp only [GP.tk] at hx
    split at hx
    · rename_i e'
      simp only [Option.some.injEq] at hx
      exact .inl ⟨e', hx.symm⟩
    · rename_i e'
      rcases List.mem_cons.1 hm with rfl | hm
      · exact absurd rfl e'
      · exact .inr ⟨hm, hx⟩
  refine ⟨⟨hA, hi.fr, hi.low, hi.len, hi.locs, hi.rlt, hi.own, hi.dis, fun t' ht' => ?_, fun t' ht' v' e' sz' b h1 h2 => ?_, List.nodup_cons.2 ⟨hnl, h.nodup⟩, hi.rsz, hi.ksnd, hi.marks⟩, hle⟩
  · rcases List.mem_cons.1 ht' with rfl | ht'
    · exact ⟨v, e, sz, by simp [GP.tk], fun b hb => (hat b hb).1⟩
    · exact hi.toks t' ht'
  · rcases get ht' h1 with ⟨rfl, h3⟩ | ⟨hm, h3⟩
    · simp only [Prod.mk.injEq] at h3
      obtain ⟨rfl, rfl, rfl⟩ := h3
      refine ⟨(hat b h2).2.1, fun t2 ht2 v2 e2 sz2 h4 h5 => ?_⟩
      rcases get ht2 h4 with ⟨rfl, _⟩ | ⟨hm2, h6⟩
      · rfl
      · exact absurd h5 ((hat b h2).2.2 t2 hm2 v2 e2 sz2 h6)
    · obtain ⟨h4, h5⟩ := h.tdis t' hm v' e' sz' b h3 h2
      refine ⟨h4, fun t2 ht2 v2 e2 sz2 h6 h7 => ?_⟩
      rcases get ht2 h6 with ⟨rfl, h8⟩ | ⟨hm2, h8⟩
      · simp only [Prod.mk.injEq] at h8
        obtain ⟨rfl, rfl, rfl⟩ := h8
        exact absurd h2 ((hat b h7).2.2 t' hm v' e' sz' h3)
      · exact h5 t2 hm2 v2 e2 sz2 h8 h7
end
end Go.Proofs.YtlbolnlcncjijaaGreat
namespace Go.Proofs.YtlbolnlcncjijaaGreat
open Go.RowKit Go.Shelf

structure ArgsRel (g : GP) (rho : List Nat) (args : List AV) (vs : List Value) : Prop where
  len : args.length = vs.length
  at_ : ∀ (i : Nat) (x : AV) (v : Value), args[i]? = some x → vs[i]? = some v → Rel g rho x v

def SemP (P : Program) (F : Fence) : FuncId → List AV → List Nat → (AV → AS → Prop) → AS → Prop := fun f args rd K s => Enters P f ∧ ∀ (E : Env P F) (g : GP) (rho : List Nat) (R : Nat → Prop) (ks : List Nat) (w : World) (vs : List Value),
  Inv E g rho R ks s.loc s.live s.ys w → ArgsRel g rho args vs → CallsIn F 0 P f vs.toArray w fun e w' => ∃ v av g' rho' R' loc' live' ys', e = .returned v ∧ Inv E g' rho' R' ks loc' live' ys' w' ∧ g.le g' ∧ Pre rho rho' ∧ Rel g' rho' av v ∧
    (∀ id ∈ rd, ∀ b, rho[id]? = some b → w'.heap[b]? = w.heap[b]?) ∧ K av { s with loc := loc', live := live', ys := ys' }

def IterC (P : Program) (F : Fence) : FuncId → List PV → List (List PV) → Prop := fun f args xs => Enters P f ∧ ∀ (E : Env P F) (g : GP) (R : Nat → Prop) (w : World) (vs : List Value), E.n0 = w.heap.size → Agree g w → E.Φ R (some xs) g w → (∀ k, R k → k < w.heap.size) → ArgsP g args vs →
  CallsIn F 0 P f vs.toArray w fun e w' => ∃ v g' R', e = .returned v ∧ g.le g' ∧ Agree g' w' ∧ (E.Φ R' (some []) g' w' ∨ E.Φ R' none g' w')
def SemK (P : Program) (F : Fence) : Con := ⟨SemP P F, IterC P F⟩

def Did {P : Program} {F : Fence} (E : Env P F) (g : GP) (rho ks : List Nat) (lst : Bool) (rd : List Nat) (w : World) (t : List (Nat × AV) × Nat) (K : AV → AS → Prop) (v : Value) (w' : World) : Prop :=
  ∃ av g' rho' R' s', Inv E g' rho' R' ks s'.loc s'.live s'.ys w' ∧ g.le g' ∧ Pre rho rho' ∧ Rel g' rho' av v ∧ (s'.t, s'.base) = t ∧ (lst = false → ∀ id ∈ rd, ∀ b, rho[id]? = some b → w'.heap[b]? = w.heap[b]?) ∧ K av s'
def EffOk (P : Program) (F : Fence) (a : Act) (w : World) (o : Oper) (R : Value → World → Prop) : Prop :=
  (∃ v w', (execOp a.eval o).run P w = .ok (.value v) w' ∧ R v w') ∨ (∃ w', (execOp a.eval o).run P w = .ok .skip w' ∧ R undef w') ∨
  (∃ f vs, (execOp a.eval o).run P w = .ok (.enter f vs) w ∧ CallsIn F 0 P f vs w fun e w' => ∃ v, e = .returned v ∧ R v w') ∨
  (∃ l fn tmps assign body, (execOp a.eval o).run P w = .ok (.round l fn tmps assign body) w ∧ RoundIn F 0 P l fn tmps assign body w fun e w' => ∃ v, e = .returned v ∧ R v w')

section
variable {P : Program} {F : Fence} {E : Env P F} {g : GP} {rho rd ks : List Nat} {R : Nat → Prop} {ys : Option (List (List PV))} {w : World} {s : AS} {a : Act} {o : Oper} {K : AV → AS → Prop} {lst : Bool}

theorem run_vw {m : Sem Value} {v : Value} {w w' : World} (h : m.run P w = .ok v w') : (do pure (Next.value (← m)) : Sem Next).run P w = .ok (.value v) w' := by
  rw [Sem.run_bind, h]; rfl
theorem run_uw {m : Sem Unit} {w w' : World} (h : m.run P w = .ok () w') : (do m; pure Next.skip : Sem Next).run P w = .ok .skip w' := by
  rw [Sem.run_bind, h]; rfl

theorem did_box (hI : Inv E g rho R ks s.loc s.live s.ys w) {cs : List AV} {vs : List Value} (us : List Value) (t : TypeId) (hr : RelL g rho cs vs) (hK : K (.loc s.loc.length 0) (mkOwn s cs)) :
    Did E g rho ks lst rd w (s.t, s.base) K (.pointer (some ⟨w.heap.size, 0, none⟩)) (w.alloc (.cells (vs ++ us).toArray t)) :=
  ⟨.loc s.loc.length 0, g, rho ++ [w.heap.size], R, mkOwn s cs, hI.box t hr, GP.le.refl g, Pre.app _ _, .loc (by rw [← hI.len]; simp), rfl, fun _ id _ b hb => Below.heap_alloc w _ b (hI.rlt id b hb).2.1, hK⟩

theorem eff_box {t : TypeId} {x : Operand} (hop : o.op = .box t x) {n : Nat} {x' : AX} (hx : cx x = some x') (hI : Inv E g rho R ks s.loc s.live s.ys w) (hT : Tmps g rho s a) (h : effQ (SemK P F) lst rd s K (.box n x')) :
    EffOk P F a w o (Did E g rho ks lst rd w (s.t, s.base) K) := by
  simp only [effQ] at h
  split at h
  · rename_i cs hcs
    obtain ⟨_, vs, hv, hr⟩ := cellsA_rel hcs (cx_rel hT hx)
    have := did_box (lst := lst) (rd := rd) hI [] t hr h
    rw [List.append_nil] at this
    refine .inl ⟨_, _, ?_, this⟩
    simp only [execOp, hop]
    exact run_vw (by simp [Instr.box, newVar, newRow, hv])
  · exact h.elim

theorem relL_single {x : PV} {v : Value} (h : RelP g x v) (h1 : v.oneCell' = true) : RelL g rho [.p x] [v] := RelL.one' (.p h) h1

theorem ofConst_tup {z : Value} {cs : List PV} : ofConst z ≠ .tup cs := by
  intro h
  unfold ofConst at h
  repeat' (split at h)
  all_goals cases h
theorem eff_newM {t : TypeId} (hop : o.op = .alloc t) {i : TypeInfo} (hi : P.info? t = some i) (hz : i.zero = some (.map none)) (hI : Inv E g rho R ks s.loc s.live s.ys w) (h : effQ (SemK P F) lst rd s K (.new (.tup [.any]))) :
    EffOk P F a w o (Did E g rho ks lst rd w (s.t, s.base) K) := by
  have run : (execOp a.eval o).run P w = .ok (.value (.pointer (some ⟨w.heap.size, 0, none⟩))) (w.alloc (.cells (Value.map none).cells t)) := by
    simp only [execOp, hop]
    exact run_vw (by simp [Instr.alloc, newVar, newRow, Sem.run_bind, zeroValue, typeInfo, hi, hz])
  have := did_box (lst := lst) (rd := rd) hI [] t (relL_single (.any (.map none)) rfl) h
  rw [List.append_nil] at this
  exact .inl ⟨_, _, run, this⟩
theorem eff_new {t : TypeId} (hop : o.op = .alloc t) {i : TypeInfo} {z : Value} (hi : P.info? t = some i) (hz : i.zero = some z) (hI : Inv E g rho R ks s.loc s.live s.ys w) (h : effQ (SemK P F) lst rd s K (.new (ofConst z))) :
    EffOk P F a w o (Did E g rho ks lst rd w (s.t, s.base) K) := by
  have run : (execOp a.eval o).run P w = .ok (.value (.pointer (some ⟨w.heap.size, 0, none⟩))) (w.alloc (.cells z.cells t)) := by
    simp only [execOp, hop]
    exact run_vw (by simp [Instr.alloc, newVar, newRow, Sem.run_bind, zeroValue, typeInfo, hi, hz])
  have hr := relP_const g z
  have fin : ∀ {cs : List AV} {vs : List Value}, z.cells = vs.toArray → RelL g rho cs vs → K (.loc s.loc.length 0) (mkOwn s cs) → EffOk P F a w o (Did E g rho ks lst rd w (s.t, s.base) K) := by
    intro cs vs he hr hK
    have := did_box (lst := lst) (rd := rd) hI [] t hr hK
    rw [List.append_nil] at this
    rw [he] at run
    exact .inl ⟨_, _, run, this⟩
  have one : ∀ {x : PV}, RelP g x z → z.oneCell' = true → z.cells = #[z] → K (.loc s.loc.length 0) (mkOwn s [.p x]) → EffOk P F a w o (Did E g rho ks lst rd w (s.t, s.base) K) := fun hx h1 hc hK => fin (vs := [z]) hc (relL_single hx h1) hK
  generalize hc : ofConst z = c at h hr
  cases hr with
  | any => simp [effQ] at h
  | agg cs vs hl h1 hh =>
    simp only [effQ] at h
    exact fin (vs := vs.toList) (by simp [Value.cells]) (RelLP.toRelL ⟨by simpa using hl, by simpa using h1, by simpa using hh⟩) h
  | val _ hu => exact one (.val _ hu) (oneCell_scalar hu) (by cases z <;> first | rfl | (simp [scalar] at hu)) (by simpa only [effQ] using h)
  | tup cs vs hl hh => exact absurd hc ofConst_tup
  | sl k sz es ad n c f hl hn hcc hm hk hz' hat hh => exact one (.sl k sz es ad n c f hl hn hcc hm hk hz' hat hh) rfl rfl (by simpa only [effQ] using h)
  | ptr cs off b o f hat hh => exact one (.ptr cs off b o f hat hh) rfl rfl (by simpa only [effQ] using h)
  | nilp => exact one .nilp rfl rfl (by simpa only [effQ] using h)
  | clo f fi cap vf vc hl hl2 hh hh2 => exact one (.clo f fi cap vf vc hl hl2 hh hh2) rfl rfl (by simpa only [effQ] using h)
  | yld => exact one .yld rfl rfl (by simpa only [effQ] using h)
  | und => simp [effQ] at h
  | mpf es b ents hl hat k1 k2 => exact one (.mpf es b ents hl hat k1 k2) rfl rfl (by simpa only [effQ] using h)

theorem eff_st {t : TypeId} {x y : Operand} (hop : o.op = .store t x y) {n : Nat} {x' y' : AX} (hn : sizeN P t = some n) (hx : cx x = some x') (hy : cx y = some y') (hI : Inv E g rho R ks s.loc s.live s.ys w) (hT : Tmps g rho s a)
    (h : effQ (SemK P F) lst rd s K (.st n x' y')) : EffOk P F a w o (Did E g rho ks lst rd w (s.t, s.base) K) := by
  have h0 := cx_rel hT hx
  have h1 := cx_rel hT hy
  unfold sizeN at hn
  rw [Option.map_eq_some_iff] at hn
  obtain ⟨ti, hti, hsz⟩ := hn
  simp only [effQ] at h
  split at h
  · rename_i id off new he hnew
    rw [he] at h0
    obtain ⟨hln, nv, hnv, hrn⟩ := cellsA_rel hnew h1
    generalize hv0 : a.eval x = v0 at h0
    cases h0 with
    | loc hb =>
      rename_i b
      split at h
      · rename_i cs hcs
        obtain ⟨hrd, hlen, hK⟩ := h
        obtain ⟨vs, us, ty, hblk, hr⟩ := hI.locs id _ b hcs hb
        have hnl : nv.length = n := by rw [← hrn.len, hln]
        have hvl := hr.len
        have hset := hI.set hcs hb hblk (hr.put hrn off)
        have key : (storeCells ⟨b, off, none⟩ nv 0).run P w = .ok () (w.setRow b ((vs.take off ++ nv ++ vs.drop (off + nv.length)) ++ us).toArray) := by
          have := run_storeCells_at (P := P) b off ty nv 0 _ w hblk (by simp; omega) hrn.one
          rw [this]
          congr 3
          simp only [Nat.add_zero]
          rw [List.take_append_of_le_length (by omega), List.drop_append_of_le_length (by omega)]
          simp
        refine .inr (.inl ⟨_, ?_, .p .und, g, rho, R, { s with loc := s.loc.set id (.cells (putCells cs off new)) }, hset, GP.le.refl g, Pre.refl rho, .p .und, rfl, fun hl id' hid' b' hb' => ?_, hK⟩)
        · simp only [execOp, hop]
          refine run_uw ?_
          have hsz2 : nv.toArray.size = n := by simpa using hnl
          rw [hv0]
          simp [Instr.storeAt, Instr.sureAddr, storeVar, Sem.run_bind, hnv, sizeOf, typeInfo, hti, hsz, hnl, key]
        · refine setRow_other w b b' _ (fun e => ?_)
          subst e
          have := hI.dis id id' b' hb hb'
          subst this
          rcases hrd with h | h
          · rw [hl] at h; cases h
          · exact h hid'
      · rename_i m cs hcs
        obtain ⟨hrd, hmo, hlen, hK⟩ := h
        obtain ⟨vs, us, ty, hblk, hr, hfr⟩ := hI.locs id _ b hcs hb
        have hnl : nv.length = n := by rw [← hrn.len, hln]
        have hvl := hr.len
        have hset := hI.setP hcs hb hblk (hr.put hrn off) hfr (by simp; omega) (fun j hj => by rw [List.append_assoc, List.getElem?_append_left (by rw [List.length_take]; omega), List.getElem?_take_of_lt (by omega)])
        have key : (storeCells ⟨b, off, none⟩ nv 0).run P w = .ok () (w.setRow b ((vs.take off ++ nv ++ vs.drop (off + nv.length)) ++ us).toArray) := by
          have := run_storeCells_at (P := P) b off ty nv 0 _ w hblk (by simp; omega) hrn.one
          rw [this]
          congr 3
          simp only [Nat.add_zero]
          rw [List.take_append_of_le_length (by omega), List.drop_append_of_le_length (by omega)]
          simp
        refine .inr (.inl ⟨_, ?_, .p .und, g, rho, R, { s with loc := s.loc.set id (.prt m (putCells cs off new)) }, hset, GP.le.refl g, Pre.refl rho, .p .und, rfl, fun hl id' hid' b' hb' => ?_, hK⟩)
        · simp only [execOp, hop]
          refine run_uw ?_
          have hsz2 : nv.toArray.size = n := by simpa using hnl
          rw [hv0]
          simp [Instr.storeAt, Instr.sureAddr, storeVar, Sem.run_bind, hnv, sizeOf, typeInfo, hti, hsz, hnl, key]
        · refine setRow_other w b b' _ (fun e => ?_)
          subst e
          have := hI.dis id id' b' hb hb'
          subst this
          rcases hrd with h | h
          · rw [hl] at h; cases h
          · exact h hid'
      · exact h.elim
  · exact h.elim

theorem rows_get {α : Type} : ∀ (n sz : Nat) (l : List PV) (i : Nat) (e : List PV), (rows sz n l)[i]? = some e → i < n ∧ e = (l.drop (i * sz)).take sz
  | 0, sz, l, i, e, h => by simp [rows] at h
  | n + 1, sz, l, 0, e, h => by simp [rows] at h; simp [h]
  | n + 1, sz, l, i + 1, e, h => by
    simp only [rows, List.getElem?_cons_succ] at h
    obtain ⟨h1, h2⟩ := rows_get (α := α) n sz (l.drop sz) i e h
    refine ⟨by omega, ?_⟩
    rw [h2, List.drop_drop, Nat.add_mul, Nat.one_mul, Nat.add_comm]
theorem rows_length : ∀ (n sz : Nat) (l : List PV), (rows sz n l).length = n
  | 0, _, _ => rfl
  | n + 1, sz, l => by simp [rows, rows_length n]

theorem repl_length {α : Type} (z : List α) : ∀ n, (repl n z).length = n * z.length
  | 0 => by simp [repl]
  | n + 1 => by simp [repl, repl_length z n, Nat.add_mul, Nat.add_comm]
theorem repl_get {α : Type} (z : List α) : ∀ (n i j : Nat), j < z.length → i < n → (repl n z)[i * z.length + j]? = z[j]?
  | 0, i, j, _, hi => by omega
  | n + 1, 0, j, hj, _ => by simp [repl, List.getElem?_append_left hj]
  | n + 1, i + 1, j, hj, hi => by
    have : (i + 1) * z.length + j = z.length + (i * z.length + j) := by rw [Nat.add_mul]; omega
    simp only [repl]
    rw [this, List.getElem?_append_right (by omega)]
    simp only [Nat.add_sub_cancel_left]
    exact repl_get z n i j hj (by omega)

theorem made_repl (z : Array Value) (n : Nat) (hz : 0 < z.size) : ((Array.range (n * z.size)).map (z[· % z.size]!)).toList = repl n z.toList := by
  apply List.ext_getElem?
  intro k
  by_cases hk : k < n * z.size
  · have h1 : k / z.size < n := Nat.div_lt_of_lt_mul (by rwa [Nat.mul_comm] at hk)
    have h2 : k % z.size < z.size := Nat.mod_lt _ hz
    have h3 := repl_get z.toList n (k / z.size) (k % z.size) (by simpa using h2) h1
    have h4 : k / z.size * z.toList.length + k % z.size = k := by
      have := Nat.div_add_mod k z.size
      rw [Nat.mul_comm] at this
      simpa using this
    rw [h4] at h3
    rw [h3]

    simp [hk, h2]
  · rw [List.getElem?_eq_none (by simp; omega), List.getElem?_eq_none (by rw [repl_length]; simp; omega)]

theorem relL_repl {z : List PV} {vs : List Value} (h : RelLP g z vs) : ∀ n, RelLP g (repl n z) (repl n vs)
  | 0 => ⟨rfl, by simp [repl], by simp [repl]⟩
  | n + 1 => by
    have := (RelLP.toRelL (rho := []) h).append (RelLP.toRelL (rho := []) (relL_repl h n))
    rw [← List.map_append] at this
    exact this.pure

theorem relP_rows {sz n : Nat} {l : List PV} {vs : List Value} (hl : l.length = n * sz) (hr : RelLP g l vs) {b c : Nat} (hn : n ≤ 140737488355328) (hc : n ≤ c) (hm : c ≤ maxLen) (k : SK) (hk : k.ok g (some ⟨b, 0, none⟩) n c)
    (hf : ∀ o, o < n * sz → g.frz b o = some (vs.getD o undef)) : RelP g (.sl k sz (rows sz n l)) (.slice (some ⟨b, 0, none⟩) n c) := by
  have hvl := hr.len
  have lt : ∀ i j : Nat, i < n → j < sz → i * sz + j < n * sz := fun i j hi hj => by
    have : (i + 1) * sz ≤ n * sz := Nat.mul_le_mul_right _ hi
    rw [Nat.add_mul] at this
    omega
  refine .sl k sz _ _ n c (fun i j => vs.getD (i * sz + j) undef) (rows_length _ _ _) hn hc hm hk (fun i e he => ?_) (fun i hi => ⟨b, 0, rfl, fun j hj => ?_⟩) (fun i j e x he hx => ?_)
  · obtain ⟨hi, rfl⟩ := rows_get (α := Unit) _ _ _ _ _ he
    have : (i + 1) * sz ≤ n * sz := Nat.mul_le_mul_right _ hi
    rw [Nat.add_mul] at this
    rw [List.length_take, List.length_drop]
    omega
  · rw [Nat.zero_add]
    refine ⟨hf _ (lt i j hi hj), hr.one _ ?_⟩
    have h2 : i * sz + j < vs.length := by rw [← hvl, hl]; exact lt i j hi hj
    simp [List.getD_eq_getElem?_getD, List.getElem?_eq_getElem h2]
  · obtain ⟨hi, rfl⟩ := rows_get (α := Unit) _ _ _ _ _ he
    have hj : j < sz := by
      have := (List.getElem?_eq_some_iff.1 hx).1
      rw [List.length_take] at this
      omega
    rw [List.getElem?_take_of_lt hj, List.getElem?_drop] at hx
    have h2 : i * sz + j < vs.length := by rw [← hvl, hl]; exact lt i j hi hj
    exact hr.at_ _ _ _ hx (by simp [List.getD_eq_getElem?_getD, List.getElem?_eq_getElem h2])
end
end Go.Proofs.YtlbolnlcncjijaaGreat
namespace Go.Proofs.YtlbolnlcncjijaaGreat
open Go.RowKit Go.Shelf

section
variable {P : Program} {F : Fence} {E : Env P F} {g : GP} {rho rd ks : List Nat} {R : Nat → Prop} {ys : Option (List (List PV))} {w : World} {s : AS} {a : Act} {o : Oper} {K : AV → AS → Prop} {lst : Bool} {loc : List ABlk} {live : List Nat}

theorem getD_mem {l : List Value} {i : Nat} (h : i < l.length) : l.getD i undef ∈ l := by
  rw [List.getD_eq_getElem?_getD, List.getElem?_eq_getElem h]
  exact List.getElem_mem h
theorem relP_at {sz n : Nat} {es : List (List PV)} {F : Nat → Value} (hl : es.length = n) (hz : ∀ (i : Nat) (e : List PV), es[i]? = some e → e.length = sz)
    (h : ∀ (i j : Nat) (e : List PV) (x : PV), es[i]? = some e → e[j]? = some x → RelP g x (F (i * sz + j))) {b o c : Nat} (hf : ∀ q, q < n * sz → g.cel b (o + q) (F q))
    (hn : n ≤ 140737488355328) (hc : n ≤ c) (hm : c ≤ maxLen) {k : SK} (hk : k.ok g (some ⟨b, o, none⟩) n c) : RelP g (.sl k sz es) (.slice (some ⟨b, o, none⟩) n c) :=
  .sl k sz es _ n c (fun i j => F (i * sz + j)) hl hn hc hm hk hz (fun i hi => ⟨b, o, rfl, fun j hj => by
    have : (i + 1) * sz ≤ n * sz := Nat.mul_le_mul_right _ hi
    rw [Nat.add_mul] at this
    rw [Nat.add_assoc]
    exact hf _ (by omega)⟩) h

theorem relP_cells {k : SK} {sz : Nat} {es : List (List PV)} {v : Value} (h : RelP g (.sl k sz es) v) : ∃ ad n c, ∃ F : Nat → Value, v = .slice ad n c ∧ es.length = n ∧ n ≤ c ∧ c ≤ maxLen ∧ k.ok g ad n c ∧ (∀ (i : Nat) (e : List PV), es[i]? = some e → e.length = sz) ∧
    (0 < n → ∃ b o, ad = some ⟨b, o, none⟩ ∧ ∀ q, q < n * sz → g.cel b (o + q) (F q)) ∧ ∀ (i j : Nat) (e : List PV) (x : PV), es[i]? = some e → e[j]? = some x → RelP g x (F (i * sz + j)) := by
  cases h with
  | sl _ _ _ ad n c f hl hn hc hm hk hz hat hh =>
    refine ⟨ad, n, c, fun q => f (q / sz) (q % sz), rfl, hl, hc, hm, hk, hz, fun hn0 => ?_, fun i j e x he hx => ?_⟩
    · obtain ⟨b, o, e, _⟩ := hat 0 hn0
      refine ⟨b, o, e, fun q hq => ?_⟩
      have hsz : 0 < sz := by
        rcases Nat.eq_zero_or_pos sz with h0 | h0
        · rw [h0] at hq; omega
        · exact h0
      obtain ⟨b', o', e', h'⟩ := hat (q / sz) (Nat.div_lt_of_lt_mul (by rwa [Nat.mul_comm] at hq))
      rw [e] at e'
      simp only [Option.some.injEq, Addr.mk.injEq, and_true] at e'
      obtain ⟨rfl, rfl⟩ := e'
      have := h' (q % sz) (Nat.mod_lt _ hsz)
      rwa [Nat.add_assoc, Nat.mul_comm, Nat.div_add_mod] at this
    · have hj : j < sz := by rw [← hz i e he]; exact (List.getElem?_eq_some_iff.1 hx).1
      have h1 : (i * sz + j) / sz = i := by
        rw [Nat.mul_comm, Nat.mul_add_div (by omega), Nat.div_eq_of_lt hj, Nat.add_zero]
      have h2 : (i * sz + j) % sz = j := by
        rw [Nat.mul_comm, Nat.mul_add_mod, Nat.mod_eq_of_lt hj]
      simp only [h1, h2]
      exact hh i j e x he hx

theorem relP_nilsz {k : SK} {sz sz' : Nat} {v : Value} (h : RelP g (.sl k sz []) v) : RelP g (.sl k sz' []) v := by
  cases h with
  | sl _ _ _ ad n c f hl hn hc hm hk hz hat hh =>
    have : n = 0 := by simpa using hl.symm
    subst this
    exact .sl k sz' [] ad 0 c f rfl hn hc hm hk (fun i e h => by simp at h) (fun i hi => absurd hi (by omega)) (fun i j e x h => by simp at h)

theorem Inv.fresh (h : Inv E g rho R ks loc live ys w) : ∃ t, g.tok t = none := let ⟨N, hN⟩ := h.agree.fin; ⟨N, hN N (Nat.le_refl _)⟩
theorem Inv.notin (h : Inv E g rho R ks loc live ys w) {t : Nat} (ht : g.tok t = none) : t ∉ live := fun hm => by
  obtain ⟨v, e, sz, h1, _⟩ := h.toks t hm
  rw [ht] at h1; cases h1

theorem Inv.layTok (h : Inv E g rho R ks loc live ys w) (cs : List Value) (e : TypeId) (h1 : ∀ v ∈ cs, v.oneCell' = true) (n c sz : Nat) (hcs : cs.length = c * sz) (hnc : n ≤ c) (hcm : c ≤ maxLen)
    (w1 : World) (hw1 : w1.heap = w.heap) (ho : w1.os = w.os) (htp : w1.tape = w.tape) (hou : w1.output = w.output) :
    ∃ g' t, g.tok t = none ∧ g.le g' ∧ Inv E g' rho R ks loc (t :: live) ys (w1.alloc (.cells cs.toArray e)) ∧ g'.tok t = some (.slice (some ⟨w.heap.size, 0, none⟩) n c, e, sz) ∧
      ∀ o, o < n * sz → g'.frz w.heap.size o = some (cs.getD o undef) := by
  have hnm : n * sz ≤ cs.length := by rw [hcs]; exact Nat.mul_le_mul_right _ hnc
  obtain ⟨hl, hle⟩ := h.lay cs e h1 (n * sz) hnm w1 hw1 ho htp hou
  obtain ⟨t, ht⟩ := h.fresh
  have hnew := heap_alloc_new w1 (.cells cs.toArray e)
  rw [hw1] at hnew
  obtain ⟨ht2, hle2⟩ := hl.token (t := t) (v := .slice (some ⟨w.heap.size, 0, none⟩) n c) (e := e) (sz := sz) (by simpa [GP.fz] using ht) (fun b hb => by
    have hbe : b = w.heap.size := by
      simp only [rowB] at hb
      split at hb
      · simpa using hb.symm
      · cases hb
    subst hbe
    refine ⟨⟨n, cs.take (n * sz), ⟨by rw [List.length_take]; omega, .inr ⟨_, c, cs.toArray, rfl, h.low, hnew, hnc, hcm, by simpa using hcs, by simp⟩⟩, fun q hq => ?_⟩, ⟨fun id hid => ?_, fun hR => by have := h.rsz _ hR; omega⟩, fun t' ht' v' e' sz' h3 h4 => ?_⟩
    · simp only [GP.fz]
      rw [if_neg (by omega)]
      cases e : g.frz w.heap.size q with
      | none => rfl
      | some v => have := h.agree.lt e; omega
    · have := (h.rlt id _ hid).2.1; omega
    · simp only [GP.fz] at h3
      obtain ⟨v2, e2, sz2, h5, h6⟩ := h.toks t' ht'
      rw [h3] at h5
      simp only [Option.some.injEq, Prod.mk.injEq] at h5
      obtain ⟨rfl, rfl, rfl⟩ := h5
      obtain ⟨n', xs, h7, _⟩ := h6 _ h4
      have := (h7.lt _ (rowB_own h4 h7)).2
      omega)
  refine ⟨_, t, ht, hle.trans hle2, ht2, by simp [GP.tk], fun q hq => ?_⟩
  simp only [GP.tk, GP.fz]
  rw [if_pos ⟨trivial, by omega, hq⟩]

theorem Inv.room (h : Inv E g rho R ks loc live ys w) {t1 b n c sz : Nat} {e : TypeId} (ht1 : t1 ∈ live) (htok : g.tok t1 = some (.slice (some ⟨b, 0, none⟩) n c, e, sz)) (hnc : n < c)
    {cur : Array Value} (hb : w.heap[b]? = some (.cells cur e (0, 0))) (hcm : c ≤ maxLen) (hcs : cur.size = c * sz) (hfr : ∀ o, n * sz ≤ o → g.frz b o = none)
    (nc : List Value) (m : Nat) (hnl : nc.length = m * sz) (h1 : ∀ v ∈ nc, v.oneCell' = true) (hm : n + m ≤ c) :
    ∃ g' t, g.tok t = none ∧ g.le g' ∧ Inv E g' rho R ks loc (t :: live.erase t1) ys (w.setRow b (cur.toList.take (n * sz) ++ nc ++ cur.toList.drop (n * sz + nc.length)).toArray) ∧
      g'.tok t = some (.slice (some ⟨b, 0, none⟩) (n + m) c, e, sz) ∧ ∀ o, o < m * sz → g'.frz b (n * sz + o) = some (nc.getD o undef) := by
  have hnm : (n + m) * sz ≤ c * sz := Nat.mul_le_mul_right _ hm
  rw [Nat.add_mul] at hnm
  have hrow : rowB (.slice (some ⟨b, 0, none⟩) n c) = some b := by simp [rowB, hnc]
  obtain ⟨hd1, hd2⟩ := h.tdis t1 ht1 _ _ _ _ htok hrow
  have hn0b : E.n0 ≤ b := by
    obtain ⟨v, e', sz', h3, h4⟩ := h.toks t1 ht1
    rw [htok] at h3
    simp only [Option.some.injEq, Prod.mk.injEq] at h3
    obtain ⟨rfl, rfl, rfl⟩ := h3
    obtain ⟨n', xs, h5, _⟩ := h4 b hrow
    exact (h5.lt b rfl).1
  have oth : ∀ b', b' ≠ b → (w.setRow b (cur.toList.take (n * sz) ++ nc ++ cur.toList.drop (n * sz + nc.length)).toArray).heap[b']? = w.heap[b']? := fun b' e => setRow_other w b b' _ e
  have same := setRow_heap w b cur (cur.toList.take (n * sz) ++ nc ++ cur.toList.drop (n * sz + nc.length)).toArray e (0, 0) hb
  have hle := g.le_fz (b := b) (lo := n * sz) (hi := n * sz + m * sz) (fun o => nc.getD (o - n * sz) undef) (fun o ho _ => hfr o ho)
  have fro : ∀ b' o, b' ≠ b → (g.fz b (n * sz) (n * sz + m * sz) (fun o => nc.getD (o - n * sz) undef)).frz b' o = g.frz b' o := fun b' o hne => by
    simp only [GP.fz]; rw [if_neg (fun hc => hne hc.1)]
  have hcl : cur.toList.length = c * sz := by simpa using hcs
  have hA : Agree (g.fz b (n * sz) (n * sz + m * sz) (fun o => nc.getD (o - n * sz) undef)) (w.setRow b (cur.toList.take (n * sz) ++ nc ++ cur.toList.drop (n * sz + nc.length)).toArray) := by
    refine ⟨fun b' o v e' => ?_, h.agree.fin⟩
    by_cases hne : b' = b
    · subst hne
      refine .inl ?_
      rw [cell_of_row _ _ _ _ _ _ same]
      simp only [GP.fz] at e'
      split at e'
      · rename_i hc
        simp only [Option.some.injEq] at e'
        subst e'
        have hlt : o - n * sz < nc.length := by omega
        refine ⟨?_, by rw [List.getD_eq_getElem?_getD, List.getElem?_eq_getElem hlt]; exact h1 _ (List.getElem_mem hlt)⟩
        rw [List.getElem?_toArray, List.getElem?_append_left (by rw [List.length_append, List.length_take]; omega), List.getElem?_append_right (by rw [List.length_take]; omega), List.length_take, Nat.min_eq_left (by omega)]
        simp [List.getD_eq_getElem?_getD, List.getElem?_eq_getElem hlt]
      · have hlt : o < n * sz := by
          rcases Nat.lt_or_ge o (n * sz) with h2 | h2
          · exact h2
          · rw [hfr o h2] at e'; cases e'
        obtain ⟨e1, e2⟩ := (h.agree.frz b' o v e').of_cells hb
        rw [cell_of_row _ _ _ _ _ _ hb] at e1
        refine ⟨?_, e2⟩
        rw [List.getElem?_toArray, List.getElem?_append_left (by rw [List.length_append, List.length_take]; omega), List.getElem?_append_left (by rw [List.length_take]; omega), List.getElem?_take_of_lt hlt]
        simpa using e1
    · rw [fro b' o hne] at e'
      exact (h.agree.frz b' o v e').keep (oth b' hne)
  have hI : Inv E (g.fz b (n * sz) (n * sz + m * sz) (fun o => nc.getD (o - n * sz) undef)) rho R ks loc (live.erase t1) ys (w.setRow b (cur.toList.take (n * sz) ++ nc ++ cur.toList.drop (n * sz + nc.length)).toArray) := by
    have hmem : ∀ {t : Nat}, t ∈ live.erase t1 → t ∈ live ∧ t ≠ t1 := fun ht => by
      rw [h.nodup.mem_erase_iff] at ht
      exact ⟨ht.2, ht.1⟩
    have hst : OwnStep E.n0 R (fun k => k = b) g (g.fz b (n * sz) (n * sz + m * sz) (fun o => nc.getD (o - n * sz) undef)) w (w.setRow b (cur.toList.take (n * sz) ++ nc ++ cur.toList.drop (n * sz + nc.length)).toArray) :=
      ⟨hle, hA, rfl, rfl, rfl, by simp, fun k hk => by subst hk; exact ⟨hn0b, hd1.2⟩, fun k _ hk => oth k hk, fun b' o _ hk => fro b' o hk⟩
    refine ⟨hA, E.stab _ _ _ _ _ _ _ h.fr hst, by simpa using h.low, h.len, fun id k b' h3 h4 => ?_, fun id b' h3 => by simpa using h.rlt id b' h3, fun id cs b' h3 hmn h4 o ho => ?_, h.dis, fun t ht => ?_, fun t ht v e' sz' b' h3 h4 => ?_, h.nodup.erase _, fun k hk => by simpa using h.rsz k hk, h.ksnd, fun k hk => by
      obtain ⟨h3, h4, h5⟩ := h.marks k hk
      exact ⟨h3, h4, (oth k (fun e => by subst e; rw [hb] at h5; cases h5)).trans h5⟩⟩
    · exact (h.locs id k b' h3 h4).keep hle (Pre.refl _) (fun _ => oth b' (fun e' => hd1.1 id (e' ▸ h4)))
    · rw [fro b' o (fun e' => hd1.1 id (e' ▸ h4))]; exact h.own id cs b' h3 hmn h4 o ho
    · obtain ⟨htl, hne⟩ := hmem ht
      obtain ⟨v, e', sz', h3, h4⟩ := h.toks t htl
      refine ⟨v, e', sz', h3, fun b' hb' => ?_⟩
      have hbb : b' ≠ b := fun e2 => hne (hd2 t htl v e' sz' h3 (e2 ▸ hb'))
      obtain ⟨n', xs, h5, h6⟩ := h4 b' hb'
      refine ⟨n', xs, ownsRow_keep h5 (fun b2 hb2 => oth b2 (fun e2 => ?_)), fun o ho => by rw [fro b' o hbb]; exact h6 o ho⟩
      rw [rowB_own hb' h5] at hb2
      simp only [Option.some.injEq] at hb2
      exact hbb (hb2.trans e2)
    · obtain ⟨htl, hne⟩ := hmem ht
      obtain ⟨h5, h6⟩ := h.tdis t htl v e' sz' b' h3 h4
      exact ⟨h5, fun t' ht' => h6 t' (hmem ht').1⟩
  obtain ⟨t, ht⟩ := h.fresh
  obtain ⟨ht2, hle2⟩ := hI.token (t := t) (v := .slice (some ⟨b, 0, none⟩) (n + m) c) (e := e) (sz := sz) (by simpa [GP.fz] using ht) (fun b' hb' => by
    have hbe : b' = b := by
      simp only [rowB] at hb'
      split at hb'
      · simpa using hb'.symm
      · cases hb'
    subst hbe
    refine ⟨⟨n + m, cur.toList.take (n * sz) ++ nc, ⟨by rw [List.length_append, List.length_take, hnl, Nat.add_mul]; omega, .inr ⟨_, c, _, rfl, hn0b, same, hm, hcm, ?_, ?_⟩⟩, fun q hq => ?_⟩, hd1, fun t' ht' v' e' sz' h3 h4 => ?_⟩
    · simp only [List.size_toArray, List.length_append, List.length_take, List.length_drop]
      omega
    · rw [show (n + m) * sz = (cur.toList.take (n * sz) ++ nc).length by rw [List.length_append, List.length_take, hnl, Nat.add_mul]; omega]
      exact List.take_left
    · rw [Nat.add_mul] at hq
      simp only [GP.fz]
      rw [if_neg (by omega)]
      exact hfr q (by omega)
    · rw [h.nodup.mem_erase_iff] at ht'
      exact ht'.1 (hd2 t' ht'.2 v' e' sz' h3 h4))
  refine ⟨_, t, ht, hle.trans hle2, ht2, by simp [GP.tk], fun q hq => ?_⟩
  simp only [GP.tk, GP.fz]
  rw [if_pos ⟨trivial, by omega, by omega⟩, Nat.add_sub_cancel_left]
end
end Go.Proofs.YtlbolnlcncjijaaGreat
