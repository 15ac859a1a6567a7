/- A round of a range over a function; the range. A range over a function is sound. Abstract code is sound. -/
import Derived.Test.YtlbolnlcncjijaaGreatGa10
import Derived.Scope
namespace Go.Proofs.YtlbolnlcncjijaaGreat
open Go.RowKit Go.Shelf

def RndOk {P : Program} {F : Fence} (E : Env P F) : Prop := ∀ l, F.round = some l → ∀ (R : Nat → Prop) (ys : Option (List (List PV))) (g : GP) (w : World), E.Φ R ys g w → ∃ r, w.heap[l]? = some (.loop r)
def jumpQ (QA : AEx → AS → Prop) (c : Code) (s : AS) : Prop := (c = .ret ∧ QA .ret s) ∨ ∃ id, c = .exit id ∧ QA (.exit id) s

section
variable {F : Fence} {P : Program} {E : Env P F} {g g' gs : GP} {rho rho' rd ks kc kn : List Nat} {R R' Rc : Nat → Prop} {loc : List ABlk} {live : List Nat} {ys : Option (List (List PV))} {w w' : World} {s s' : AS} {a : Act} {nt : Nat} {mu : Nat → Bool} {QA : AEx → AS → Prop}

theorem tmps_set : ∀ {ps : List Nat} {y : List PV} {us : List Value} {T : List (Nat × AV)} {L : List ABlk} {V : List Nat} {Y : Option (List (List PV))} {B : Nat} {t : Array Value} {ds : List Deferred}, Tmps g rho ⟨T, L, V, Y, B⟩ { tmps := t, defers := ds } → ArgsP g y us → y.length = ps.length → (∀ p ∈ ps, p < t.size) →
    Tmps g rho ⟨setPs ps y T, L, V, Y, B⟩ { tmps := (ps.zip us).foldl (fun t (p, v) => t.setIfInBounds p v) t, defers := ds } ∧ ((ps.zip us).foldl (fun t (p, v) => t.setIfInBounds p v) t).size = t.size
  | [], [], us, T, L, V, Y, B, t, ds, h, _, _, _ => by simpa [setPs] using h
  | p :: ps, x :: y, [], T, L, V, Y, B, t, ds, h, ha, _, _ => by have := ha.len; simp at this
  | p :: ps, x :: y, u :: us, T, L, V, Y, B, t, ds, h, ha, hl, hp => by
    have hx : RelP g x u := ha.at_ 0 x u rfl rfl
    have h1 : Tmps g rho ⟨(p, .p x) :: T, L, V, Y, B⟩ { tmps := t.setIfInBounds p u, defers := ds } :=
      Tmps.put (s := ⟨T, L, V, Y, B⟩) (d := some p) h (.p hx) (fun i hi => by simp only [Option.some.injEq] at hi; subst hi; exact hp _ (List.mem_cons_self ..))
    have := tmps_set h1 (us := us) (y := y) (ps := ps) ⟨by simpa using ha.len, fun i x v hx hv => ha.at_ (i + 1) x v (by simpa using hx) (by simpa using hv)⟩ (by simpa using hl) (fun q hq => by simpa using hp q (List.mem_cons_of_mem _ hq))
    refine ⟨by simpa [setPs] using this.1, ?_⟩
    simp only [List.zip_cons_cons, List.foldl_cons]
    rw [this.2, Array.size_setIfInBounds]
  | _ :: _, [], _, _, _, _, _, _, _, _, _, _, hl, _ => by simp at hl
  | [], _ :: _, _, _, _, _, _, _, _, _, _, _, hl, _ => by simp at hl

theorem round_yield (hO : Open F) {aC : Act} {y0 n1 l : Nat} (hn1 : E.n0 ≤ n1) (hln : l < n1) (hlE : E.n0 ≤ l) {fn : FuncId} {ps : Array Tmp} {assign body : Code} {D : Nat} {rec : LoopState → Option Code → Loop}
    (hrec : rec = fun st pe => { state := st, pending := pe, fn, tmps := aC.tmps, params := ps, assign, body, defers := D }) {aA aB : AC} {xs : List (List PV)} {I : Nat → AS → Prop} {T : List (Nat × AV)} {base : Nat}
    (hps : ∀ p ∈ ps.toList, p < nt) (hxl : ∀ y ∈ xs, y.length = ps.toList.length) (hno : noY.noYR xs = true) (hT : ∀ i n, I i n → n.t = T ∧ n.base = base)
    (hAs : ∀ (E2 : Env P (F.inRound l)), RndOk E2 → ∀ (Q : AEx → AS → Prop) (g : GP) (rho : List Nat) (R : Nat → Prop) (s : AS) (a : Act) (w : World), exec (SemK P F) aA Q s → St E2 nt (kn ++ kc) [] g rho R s a w → assign.wpIn (F.inRound l) 0 P (PostQ E2 nt (kn ++ kc) Q) a w)
    (hBd : ∀ (E2 : Env P (F.inRound l)), RndOk E2 → ∀ (Q : AEx → AS → Prop) (k2 : List Nat) (g : GP) (rho : List Nat) (R : Nat → Prop) (s : AS) (a : Act) (w : World), exec (SemK P F) aB Q s → St E2 nt (kn ++ kc) k2 g rho R s a w → body.wpIn (F.inRound l) 0 P (PostQ E2 nt (kn ++ kc) Q) a w)
    (hex : ∀ i y n, xs[i]? = some y → I i n → exec (SemK P F) aA (asQ (exec (SemK P F) aB (rndQ T base (I (i + 1)) QA))) { n with t := setPs ps.toList y n.t, base := n.loc.length }) :
    ∀ (R : Nat → Prop) (y : List PV) (ll : List (List PV)) (g : GP) (w : World) (us : List Value), loopΦ E nt kc kn aC y0 n1 l rec I xs (jumpQ QA) R (some (y :: ll)) g w → Agree g w → ArgsP g y us → (∀ k, R k → k < w.heap.size) →
      YieldAt F 0 P g.yl us.toArray w fun e w' => ∃ (R' : Nat → Prop) (g' : GP), g.le g' ∧ Agree g' w' ∧ (∀ k, R' k → R k ∨ w.heap.size ≤ k) ∧ (∀ k, R' k → k < w'.heap.size) ∧ w.heap.size ≤ w'.heap.size ∧
        (∀ k, k < w.heap.size → n1 ≤ k → ¬ R k → w'.heap[k]? = w.heap[k]? ∧ ∀ o, g'.frz k o = g.frz k o) ∧
        ((e = .returned (.bool true) ∧ loopΦ E nt kc kn aC y0 n1 l rec I xs (jumpQ QA) R' (some ll) g' w') ∨ (e = .returned (.bool false) ∧ loopΦ E nt kc kn aC y0 n1 l rec I xs (jumpQ QA) R' none g' w')) := by
  rintro R y ll g w us ⟨hyl, hw1, rho, Rc, s, hSt, hB, hRc, hcase⟩ hA ha hRw
  obtain ⟨i, hi, hys, hoki, hlk⟩ : ∃ i, i ≤ xs.length ∧ some (y :: ll) = some (xs.drop i) ∧ I i s ∧ w.heap[l]? = some (.loop (rec .ready none)) := by
    rcases hcase with h | ⟨h, _⟩
    · exact h
    · cases h
  simp only [Option.some.injEq] at hys
  have hlt : i < xs.length := by
    rcases Nat.lt_or_ge i xs.length with h | h
    · exact h
    · rw [List.drop_eq_nil_of_le h] at hys; cases hys
  rw [List.drop_eq_getElem_cons hlt] at hys
  simp only [List.cons.injEq] at hys
  obtain ⟨hy, hll⟩ := hys
  have hyi : xs[i]? = some y := by rw [List.getElem?_eq_getElem hlt, hy]
  have hym : y ∈ xs := List.mem_of_getElem? hyi
  have hlw : l < w.heap.size := by omega
  have hus : us.length = ps.size := by rw [← ha.len, hxl y hym]; simp
  rw [hyl]
  have hrun := run_yield (P := P) (args := us.toArray) hlk (by rw [hrec]; simpa using hus)
  rw [hrec] at hrun
  refine ⟨fn, _, assign, body, hrun, roundIn_of_wpIn (hO.fn fn) ?_⟩
  have hR2 : ∀ k, (Rc k ∨ Itb n1 R w k ∨ k = l) → k < w.heap.size := fun k hk => by
    rcases hk with hk | hk | hk
    · exact hSt.inv.rsz k hk
    · exact hk.2.1
    · omega
  have hsepB : ∀ b, Bc (g.yc y0) rho s.live (kn ++ kc) b → ¬ (Rc b ∨ Itb n1 R w b ∨ b = l) := fun b hb hr => by
    obtain ⟨h1, h2⟩ := hB b hb
    rcases hr with hr | hr | hr
    · exact (hSt.inv.bc hb).2.2 hr
    · rcases h1 with h1 | h1
      · have := hr.1; omega
      · exact hr.2.2 h1
    · exact h2 hr
  have hsepR : ∀ k, Rc k → k ≠ l ∧ ¬ Itb n1 R w k := fun k hk => by
    obtain ⟨h1, h2⟩ := hRc k hk
    refine ⟨h2, fun hr => ?_⟩
    rcases h1 with h1 | h1
    · have := hr.1; omega
    · exact hr.2.2 h1
  -- where the assignment runs, where the body runs
  have rok : ∀ sto, RndOk (rndE E (g.yc y0) rho n1 l hn1 hlE (rec sto none) R w (g.yc y0) hlw) := fun sto l0 h0 R2 ys2 g2 w2 hΦ => by
    have : l0 = l := by simpa [Fence.inRound] using h0.symm
    subst this
    obtain ⟨_, _, _, _, _, h, _⟩ := hΦ
    exact ⟨_, h⟩
  have hIr : Inv (rndE E (g.yc y0) rho n1 l hn1 hlE (rec .ready none) R w (g.yc y0) hlw) (g.yc y0) rho (fun k => Rc k ∨ Itb n1 R w k ∨ k = l) (kn ++ kc) s.loc s.live s.ys w :=
    hSt.inv.reE rfl ⟨Nat.le_refl _, Rc, hSt.inv.fr, fun k => Iff.rfl, hsepR, hlk, fun k _ => ⟨rfl, fun _ => rfl⟩⟩ hsepB hR2
  have haY : ArgsP (g.yc y0) y us := ⟨ha.len, fun j x v hx hv => (ha.at_ j x v hx hv).yc y0 (noYL_spec (noYR_spec hno y hym) x (List.mem_of_getElem? hx))⟩
  have hts := tmps_set (g := g.yc y0) (rho := rho) (T := s.t) (L := s.loc) (V := s.live) (Y := s.ys) (B := s.loc.length) (t := aC.tmps) (ds := []) (ps := ps.toList) (y := y) (us := us) (fun j => hSt.tmps j) haY (hxl y hym) (fun p hp => by rw [hSt.size]; exact hps p hp)
  have hfold : (ps.zip us.toArray).foldl (fun tmps (t, a) => tmps.setIfInBounds t a) aC.tmps = (ps.toList.zip us).foldl (fun t (p, v) => t.setIfInBounds p v) aC.tmps := by
    rw [← Array.foldl_toList]
    simp
  have hSt2 : St (rndE E (g.yc y0) rho n1 l hn1 hlE (rec .ready none) R w (g.yc y0) hlw) nt (kn ++ kc) [] (g.yc y0) rho (fun k => Rc k ∨ Itb n1 R w k ∨ k = l) { s with t := setPs ps.toList y s.t, base := s.loc.length } { tmps := (ps.zip us.toArray).foldl (fun tmps (t, a) => tmps.setIfInBounds t a) aC.tmps, defers := [] } w :=
    ⟨hIr, by rw [hfold]; exact hts.1, by rw [hfold, hts.2]; exact hSt.size, rfl, GP.le.refl _, Pre.refl _, hSt.inv.len⟩
  refine wpIn_mono (hAs _ (rok .ready) _ _ _ _ _ _ _ (hex i y s hyi hoki) hSt2) ?_
  intro e a1 w1 hq
  cases e with
  | normal =>
    obtain ⟨k2, g1, rho1, R1, s1, hSt1, hq⟩ := hq
    simp only [asQ] at hq
    obtain ⟨hz1, Rc1, hf1, hf2, hf3, hf4, hf5⟩ := hSt1.inv.fr
    refine ⟨_, run_beginRound hf4 (by rw [hrec]), ?_⟩
    -- the record is busy now
    have hput : ∀ {g1 : GP} {R1 Rc1 : Nat → Prop} {w1 : World} {r : Loop} (r' : Loop), Agree g1 w1 → w1.heap[l]? = some (.loop r) → ¬ Rc1 l → OwnStep E.n0 Rc1 (fun k => k = l) g1 g1 w1 (w1.putObj l (.loop r')) := fun r' hA1 hl1 hno1 =>
      ⟨GP.le.refl _, hA1.keep (fun b o v hb => World.putObj_heap_other (fun e => by subst e; rcases hA1.frz _ _ _ hb with ⟨this, -⟩ | ⟨_, _, -, this⟩; (simp [World.cell?, hl1] at this); (rw [hl1] at this; cases this))), rfl, rfl, rfl, by simp, fun k hk => by subst hk; exact ⟨hlE, hno1⟩, fun b _ hb => World.putObj_heap_other hb, fun _ _ _ _ => rfl⟩
    have hR1l : R1 l := (hf2 l).2 (.inr (.inr rfl))
    have hIt1 : ∀ k, Itb n1 R w k → k ≠ l := fun k hk e => by have := hk.1; omega
    have conv : ∀ {R1 : Nat → Prop} {E1 : Env P (F.inRound l)} {ks : List Nat} {g1 : GP} {rho1 : List Nat} {loc1 : List ABlk} {live1 : List Nat} {ys1 : Option (List (List PV))} {w1 : World} (sto sto' : LoopState) , E1.n0 = E.n0 → Inv E1 g1 rho1 R1 ks loc1 live1 ys1 w1 → rndΦ E n1 l (rec sto none) R w (g.yc y0) R1 ys1 g1 w1 →
        Inv (rndE E (g.yc y0) rho n1 l hn1 hlE (rec sto' none) R w (g.yc y0) hlw) g1 rho1 R1 ks loc1 live1 ys1 (w1.putObj l (.loop (rec sto' none))) := by
      intro R1 E1 ks g1 rho1 loc1 live1 ys1 w1 sto sto' hE1 hI1 ⟨hz1, Rc1, hf1, hf2, hf3, hf4, hf5⟩
      have hs1 := hput (rec sto' none) (R1 := R1) hI1.agree hf4 (fun h => (hf3 l h).1 rfl)
      have hIE : Inv E g1 rho1 Rc1 ks loc1 live1 ys1 w1 := hI1.reE hE1.symm hf1 (fun b hb hr => (hI1.bc hb).2.2 ((hf2 b).2 (.inl hr))) (fun k hk => hI1.rsz k ((hf2 k).2 (.inl hk)))
      have hbl : ∀ b, Bc g1 rho1 live1 ks b → ¬ b = l := fun b hb e => (hI1.bc hb).2.2 ((hf2 b).2 (.inr (.inr e)))
      have hI2 := hIE.keepO hs1 hbl
      refine hI2.reE rfl ⟨by simpa using hz1, Rc1, hI2.fr, hf2, hf3, World.putObj_heap_same (Array.getElem?_eq_some_iff.1 hf4).1, fun k hk => ?_⟩ (fun b hb hr => (hI1.bc hb).2.2 hr) (fun k hk => by simpa using hI1.rsz k hk)
      rw [World.putObj_heap_other (hIt1 k hk)]
      exact hf5 k hk
    have hSt1b : St (rndE E (g.yc y0) rho n1 l hn1 hlE (rec .busy none) R w (g.yc y0) hlw) nt (kn ++ kc) k2 g1 rho1 R1 s1 a1 (w1.putObj l (.loop (rec .busy none))) :=
      ⟨conv .ready .busy rfl hSt1.inv hSt1.inv.fr, hSt1.tmps, hSt1.size, hSt1.defers, hSt1.gle, hSt1.pre, hSt1.bse⟩
    have hreq : ({ rec .ready none with state := .busy } : Loop) = rec .busy none := by rw [hrec]
    rw [hreq]
    refine wpIn_mono (hBd _ (rok .busy) _ k2 g1 rho1 R1 s1 a1 _ hq hSt1b) ?_
    -- behind the body
    have fin : ∀ {k3 : List Nat} {g3 : GP} {rho3 : List Nat} {R3 : Nat → Prop} {s3 : AS} {a3 : Act} {w3 : World} (jump : Option Code) (st3 : LoopState) (ys' : Option (List (List PV))), St (rndE E (g.yc y0) rho n1 l hn1 hlE (rec .busy none) R w (g.yc y0) hlw) nt (kn ++ kc) k3 g3 rho3 R3 s3 a3 w3 → ∀ (s4 : AS), (∀ {Rc : Nat → Prop} {W : World}, St E nt kc kn g3 rho3 Rc { s3 with t := T, base := base } aC W → ∃ rho4, St E nt kc kn g3 rho4 Rc s4 aC W ∧ ∀ b, Bc g3 rho4 s4.live (kn ++ kc) b → Bc g3 rho3 s3.live (kn ++ kc) b) →
        ((jump = none ∧ st3 = .ready ∧ ys' = some ll ∧ I (i + 1) s4) ∨ (∃ c, jump = some c ∧ st3 = .done ∧ ys' = none ∧ jumpQ QA c s4)) →
        ∃ R' g', g.le g' ∧ Agree g' (w3.putObj l (.loop (rec st3 jump))) ∧ (∀ k, R' k → R k ∨ w.heap.size ≤ k) ∧ (∀ k, R' k → k < (w3.putObj l (.loop (rec st3 jump))).heap.size) ∧ w.heap.size ≤ (w3.putObj l (.loop (rec st3 jump))).heap.size ∧
          (∀ k, k < w.heap.size → n1 ≤ k → ¬ R k → (w3.putObj l (.loop (rec st3 jump))).heap[k]? = w.heap[k]? ∧ ∀ o, g'.frz k o = g.frz k o) ∧ loopΦ E nt kc kn aC y0 n1 l rec I xs (jumpQ QA) R' ys' g' (w3.putObj l (.loop (rec st3 jump))) := by
      intro k3 g3 rho3 R3 s3 a3 w3 jump st3 ys' hSt3 s4 hwk hcs
      obtain ⟨hz3, Rc3, hf1', hf2', hf3', hf4', hf5'⟩ := hSt3.inv.fr
      -- the state behind the round, in the loop's own frame
      have hI3 : Inv E g3 rho3 Rc3 (kn ++ kc) s3.loc s3.live s3.ys w3 := (hSt3.inv.unmark).reE rfl hf1' (fun b hb hr => (hSt3.inv.unmark.bc hb).2.2 ((hf2' b).2 (.inl hr))) (fun k hk => hSt3.inv.rsz k ((hf2' k).2 (.inl hk)))
      have hbc3 : ∀ b, Bc g3 rho3 s3.live (kn ++ kc) b → ¬ Itb n1 R w b ∧ b ≠ l := fun b hb => ⟨fun hr => (hSt3.inv.unmark.bc hb).2.2 ((hf2' b).2 (.inr (.inl hr))), fun hr => (hSt3.inv.unmark.bc hb).2.2 ((hf2' b).2 (.inr (.inr hr)))⟩
      have hyl3 : g3.yl = y0 := hSt3.gle.yl
      have hs3 := hput (rec st3 jump) (R1 := R3) hI3.agree hf4' (fun h => (hf3' l h).1 rfl)
      have hI4 := hI3.keepO hs3 (fun b hb => (hbc3 b hb).2)
      have hSt4 : St E nt kc kn g3 rho3 Rc3 { s3 with t := T, base := base } aC (w3.putObj l (.loop (rec st3 jump))) :=
        ⟨hI4, fun j => by have := (hSt.tmps j).mono hSt3.gle hSt3.pre; rw [(hT i s hoki).1] at this; exact this, hSt.size, hSt.defers, hSt.gle.trans hSt3.gle, fun id b hb => hSt3.pre id b (hSt.pre id b hb), by rw [hSt.bse]; exact (hT i s hoki).2⟩
      obtain ⟨rho4, hSt5, hsub⟩ := hwk hSt4
      have hgy : (g3.yc l).yc y0 = g3 := by
        cases g3
        simp only [GP.yc] at hyl3 ⊢
        rw [← hyl3]
      have hle : g.le (g3.yc l) := by
        have : ((g.yc y0).yc l).le (g3.yc l) := hSt3.gle.yc l
        rw [show ((g.yc y0).yc l) = g by cases g; simp only [GP.yc] at hyl ⊢; rw [← hyl]] at this
        exact this
      have old : ∀ k, k < w.heap.size → ¬ Itb n1 R w k → k < n1 ∨ R k := fun k h1 h2 => by
        by_cases hk : k < n1
        · exact .inl hk
        · exact .inr (Classical.byContradiction fun hr => h2 ⟨by omega, h1, hr⟩)
      refine ⟨fun k => R k ∨ (w.heap.size ≤ k ∧ k < w3.heap.size), g3.yc l, hle, hI4.agree.yc l, fun k hk => hk.imp id (·.1), fun k hk => by
        rw [World.putObj_size]
        rcases hk with hk | hk
        · have := hRw k hk; omega
        · exact hk.2, by simpa using hz3, fun k k1 k2' k3' => ?_, rfl, by rw [World.putObj_size]; omega, rho4, Rc3, s4, by rw [hgy]; exact hSt5, fun b hb => ?_, fun k hk => ?_, ?_⟩
      · obtain ⟨q1, q2⟩ := hf5' k ⟨k2', k1, k3'⟩
        exact ⟨(World.putObj_heap_other (by omega)).trans q1, q2⟩
      · rw [hgy] at hb
        have hb3 : Bc g3 rho3 s3.live (kn ++ kc) b := hsub b hb
        obtain ⟨q1, q2⟩ := hbc3 b hb3
        refine ⟨?_, q2⟩
        by_cases hbw : b < w.heap.size
        · exact (old b hbw q1).imp id .inl
        · exact .inr (.inr ⟨by omega, (hI3.bc hb3).2.1⟩)
      · obtain ⟨q1, q2⟩ := hf3' k hk
        refine ⟨?_, q1⟩
        by_cases hbw : k < w.heap.size
        · exact (old k hbw q2).imp id .inl
        · exact .inr (.inr ⟨by omega, hI3.rsz k hk⟩)
      · have hsame : (w3.putObj l (.loop (rec st3 jump))).heap[l]? = some (.loop (rec st3 jump)) := World.putObj_heap_same (Array.getElem?_eq_some_iff.1 hf4').1
        rcases hcs with ⟨rfl, rfl, rfl, hokn⟩ | ⟨c, rfl, rfl, rfl, hq⟩
        · exact .inl ⟨i + 1, by omega, by rw [hll], hokn, hsame⟩
        · exact .inr ⟨rfl, c, hsame, hq⟩
    have ends : ∀ {w3 : World} (jump : Option Code), w3.heap[l]? = some (.loop (rec .busy none)) → (Instr.endRound l jump).run P w3 = .ok (.bool jump.isNone) (w3.putObj l (.loop (rec (if jump.isNone then .ready else .done) jump))) := fun jump h3 => by
      rw [run_endRound jump h3, hrec]
    have wkr : ∀ {k3 : List Nat} {g3 : GP} {rho3 : List Nat} {R3 : Nat → Prop} {s3 : AS} {a3 : Act} {w3 : World}, St (rndE E (g.yc y0) rho n1 l hn1 hlE (rec .busy none) R w (g.yc y0) hlw) nt (kn ++ kc) k3 g3 rho3 R3 s3 a3 w3 → w3.heap[l]? = some (.loop (rec .busy none)) := fun h => by
      obtain ⟨_, _, _, _, _, h, _⟩ := h.inv.fr; exact h
    intro e a3 w3 hq3
    cases e with
    | normal =>
      obtain ⟨k3, g3, rho3, R3, s3, hSt3, n4, hq3⟩ := hq3
      obtain ⟨R', g', m1, m2, m3, m4, m5, m6, m7⟩ := fin none .ready (some ll) hSt3 n4 (fun h => h.weak' hq3.2) (.inl ⟨rfl, rfl, rfl, hq3.1⟩)
      exact ⟨_, _, ends none (wkr hSt3), R', g', m1, m2, m3, m4, m5, m6, .inl ⟨rfl, m7⟩⟩
    | ret =>
      obtain ⟨k3, g3, rho3, R3, s3, hSt3, hq3⟩ := hq3
      obtain ⟨R', g', m1, m2, m3, m4, m5, m6, m7⟩ := fin (some .ret) .done none hSt3 { s3 with t := T, base := base } (fun h => ⟨_, h, fun _ h => h⟩) (.inr ⟨.ret, rfl, rfl, rfl, .inl ⟨rfl, hq3⟩⟩)
      exact ⟨_, _, ends (some .ret) (wkr hSt3), R', g', m1, m2, m3, m4, m5, m6, .inr ⟨rfl, m7⟩⟩
    | exit id =>
      obtain ⟨k3, g3, rho3, R3, s3, hSt3, hq3⟩ := hq3
      obtain ⟨R', g', m1, m2, m3, m4, m5, m6, m7⟩ := fin (some (.exit id)) .done none hSt3 { s3 with t := T, base := base } (fun h => ⟨_, h, fun _ h => h⟩) (.inr ⟨.exit id, rfl, rfl, rfl, .inr ⟨id, rfl, hq3⟩⟩)
      exact ⟨_, _, ends (some (.exit id)) (wkr hSt3), R', g', m1, m2, m3, m4, m5, m6, .inr ⟨rfl, m7⟩⟩
    | goto t => exact hq3.elim
    | panic ch => exact hq3.elim
    | outgrown => exact hq3.elim
  | exit id => obtain ⟨_, _, _, _, _, _, h⟩ := hq; exact h.elim
  | ret => obtain ⟨_, _, _, _, _, _, h⟩ := hq; exact h.elim
  | goto l => exact hq.elim
  | panic ch => exact hq.elim
  | outgrown => exact hq.elim
end
end Go.Proofs.YtlbolnlcncjijaaGreat
namespace Go.Proofs.YtlbolnlcncjijaaGreat
open Go.RowKit Go.Shelf

section
variable {F : Fence} {P : Program} {E : Env P F} {g g' gs : GP} {rho rho' rd ks kc kn : List Nat} {R R' Rc : Nat → Prop} {loc : List ABlk} {live : List Nat} {ys : Option (List (List PV))} {w w' : World} {s s' : AS} {a : Act} {nt : Nat} {mu : Nat → Bool} {QA : AEx → AS → Prop}

theorem clo_rel {av : PV} {v : Value} {f : FuncId} {fi cap : List PV} (h : RelP g av v) (hc : cloOf av = some (f, fi, cap)) : ∃ vf vc : Array Value, v = .func (.func f) vf vc ∧ ArgsP g fi vf.toList ∧ ArgsP g cap vc.toList := by
  unfold cloOf at hc
  split at hc
  · simp only [Option.some.injEq, Prod.mk.injEq] at hc
    obtain ⟨rfl, rfl, rfl⟩ := hc
    · cases h with
      | clo _ _ _ vf vc hl hl2 h1 h2 => exact ⟨vf, vc, rfl, ⟨by simpa using hl, fun i x v hx hv => h1 i x v hx (by simpa using hv)⟩, ⟨by simpa using hl2, fun i x v hx hv => h2 i x v hx (by simpa using hv)⟩⟩
  · simp only [Option.some.injEq, Prod.mk.injEq] at hc
    obtain ⟨rfl, rfl, rfl⟩ := hc
    rename_i fa fb
    obtain ⟨e, h1⟩ := relP_val h
    have h2 : fa = #[] ∧ fb = #[] := by simpa [scalar] using h1
    obtain ⟨rfl, rfl⟩ := h2
    exact ⟨#[], #[], e, ⟨rfl, fun i x v hx => by simp at hx⟩, ⟨rfl, fun i x v hx => by simp at hx⟩⟩
  · cases hc

theorem Inv.mark (h : Inv E g rho R ks loc live ys w) {k : Nat} (h1 : E.n0 ≤ k) (h2 : ¬ R k) (h3 : w.heap[k]? = some (.deferred (some []))) (h4 : k ∉ ks) : Inv E g rho R (k :: ks) loc live ys w :=
  ⟨h.agree, h.fr, h.low, h.len, h.locs, h.rlt, h.own, h.dis, h.toks, h.tdis, h.nodup, h.rsz, List.nodup_cons.2 ⟨h4, h.ksnd⟩, fun q hq => by
    rcases List.mem_cons.1 hq with rfl | hq
    · exact ⟨h1, h2, h3⟩
    · exact h.marks q hq⟩
theorem Agree.alloc (h : Agree g w) (o : Obj) : Agree g (w.alloc o) := h.keep (fun b _ _ hb => Below.heap_alloc w _ b (h.lt hb))
theorem St.alloc (h : St E nt kc kn g rho R s a w) (o : Obj) : St E nt kc kn g rho R s a (w.alloc o) :=
  h.keepO (O := fun _ => False) ⟨GP.le.refl _, h.inv.agree.alloc o, rfl, rfl, rfl, by simp, fun _ hk => hk.elim, fun k hk _ => Below.heap_alloc w _ k hk, fun _ _ _ _ => rfl⟩ (fun _ _ h => h)

theorem rng_core (hO : Open F) {aC : Act} {n1 l : Nat} (hln : l < n1) (hlE : E.n0 ≤ l) {fn : FuncId} {ps : Array Tmp} {assign body : Code} {D : Nat} {rec : LoopState → Option Code → Loop}
    (hrec : rec = fun st pe => { state := st, pending := pe, fn, tmps := aC.tmps, params := ps, assign, body, defers := D }) {aA aB : AC} {xs : List (List PV)} {I : Nat → AS → Prop} {s0 : AS} {T : List (Nat × AV)} {base : Nat}
    (hps : ∀ p ∈ ps.toList, p < nt) (hxl : ∀ y ∈ xs, y.length = ps.toList.length) (hno : noY.noYR xs = true) (hT : ∀ i n, I i n → n.t = T ∧ n.base = base)
    (hAs : ∀ (E2 : Env P (F.inRound l)), RndOk E2 → ∀ (Q : AEx → AS → Prop) (g : GP) (rho : List Nat) (R : Nat → Prop) (s : AS) (a : Act) (w : World), exec (SemK P F) aA Q s → St E2 nt (kn ++ kc) [] g rho R s a w → assign.wpIn (F.inRound l) 0 P (PostQ E2 nt (kn ++ kc) Q) a w)
    (hBd : ∀ (E2 : Env P (F.inRound l)), RndOk E2 → ∀ (Q : AEx → AS → Prop) (k2 : List Nat) (g : GP) (rho : List Nat) (R : Nat → Prop) (s : AS) (a : Act) (w : World), exec (SemK P F) aB Q s → St E2 nt (kn ++ kc) k2 g rho R s a w → body.wpIn (F.inRound l) 0 P (PostQ E2 nt (kn ++ kc) Q) a w)
    (hex : ∀ i y n, xs[i]? = some y → I i n → exec (SemK P F) aA (asQ (exec (SemK P F) aB (rndQ T base (I (i + 1)) QA))) { n with t := setPs ps.toList y n.t, base := n.loc.length })
    (hok0 : I 0 s0) (hend : ∀ n, I xs.length n → QA .normal n) {gf : FuncId} {fi cap : List PV} (hit : IterC P F gf (fi ++ .yld :: cap) xs) (hnf : noY.noYL fi = true) (hnc : noY.noYL cap = true) {vf vc : Array Value} (hvf : ArgsP g fi vf.toList) (hvc : ArgsP g cap vc.toList)
    {W1 : World} (hn1 : W1.heap.size = n1) (hSt : St E nt kc kn g rho R s0 aC W1) (hlk : W1.heap[l]? = some (.loop (rec .ready none))) (hB : ∀ b, Bc g rho s0.live (kn ++ kc) b → b ≠ l) (hR : ∀ k, R k → k ≠ l) :
    CallsIn F 0 P gf (vf ++ #[.func (.yield l) #[] #[]] ++ vc) W1 (rangePost F 0 P l (PostQ E nt kc QA) aC) := by
  have hnE : E.n0 ≤ n1 := by have := hSt.inv.low; omega
  obtain ⟨E1, hE1, hE2⟩ : ∃ E1 : Env P F, E1.n0 = n1 ∧ E1.Φ = loopΦ E nt kc kn aC g.yl n1 l rec I xs (jumpQ QA) :=
    ⟨{ n0 := n1, g0 := g, rho0 := [], Φ := loopΦ E nt kc kn aC g.yl n1 l rec I xs (jumpQ QA), stab := fun R O ys g g' w w' h hs => loopΦ_stab hnE hln R O ys g g' w w' h hs,
       yld := round_yield hO hnE hln hlE hrec hps hxl hno hT hAs hBd hex }, rfl, rfl⟩
  have hback : (g.yc l).yc g.yl = g := by cases g; rfl
  have hgo := hit.2 E1 (g.yc l) (fun _ => False) W1 (vf.toList ++ .func (.yield l) #[] #[] :: vc.toList) (by rw [hE1, hn1]) (hSt.inv.agree.yc l)
    (by
      rw [hE2]
      refine ⟨rfl, by omega, rho, R, s0, by rw [hback]; exact hSt, fun b hb => ?_, fun k hk => ⟨.inl (by have := hSt.inv.rsz k hk; omega), hR k hk⟩, .inl ⟨0, Nat.zero_le _, by simp, hok0, hlk⟩⟩
      rw [hback] at hb
      exact ⟨.inl (by have := (hSt.inv.bc hb).2.1; omega), hB b hb⟩) (fun k hk => hk.elim)
    (by
      refine ⟨by have := hvf.len; have := hvc.len; simp_all, fun i x v hx hv => ?_⟩
      rcases Nat.lt_trichotomy i fi.length with h | h | h
      · rw [List.getElem?_append_left h] at hx
        rw [List.getElem?_append_left (by rw [← hvf.len]; exact h)] at hv
        exact (hvf.at_ i x v hx hv).yc l (noYL_spec hnf x (List.mem_of_getElem? hx))
      · subst h
        rw [List.getElem?_append_right (Nat.le_refl _), Nat.sub_self] at hx
        rw [List.getElem?_append_right (by rw [← hvf.len]; exact Nat.le_refl _), hvf.len, Nat.sub_self] at hv
        simp only [List.getElem?_cons_zero, Option.some.injEq] at hx hv
        subst hx; subst hv
        exact .yld
      · rw [List.getElem?_append_right (by omega)] at hx
        rw [List.getElem?_append_right (by rw [← hvf.len]; omega), ← hvf.len] at hv
        obtain ⟨j, hj⟩ : ∃ j, i - fi.length = j + 1 := ⟨i - fi.length - 1, by omega⟩
        rw [hj, List.getElem?_cons_succ] at hx hv
        exact (hvc.at_ j x v hx hv).yc l (noYL_spec hnc x (List.mem_of_getElem? hx)))
  have hargs : (vf.toList ++ .func (.yield l) #[] #[] :: vc.toList).toArray = vf ++ #[.func (.yield l) #[] #[]] ++ vc := by apply Array.ext'; simp
  rw [hargs] at hgo
  refine hgo.mono ?_
  rintro e w' ⟨v, g', R', rfl, hle, hA, hΦ⟩
  have hfin : ∀ ys, loopΦ E nt kc kn aC g.yl n1 l rec I xs (jumpQ QA) R' ys g' w' → (ys = some [] ∨ ys = none) → rangePost F 0 P l (PostQ E nt kc QA) aC (.returned v) w' := by
    rintro ys ⟨h1, h2, rho2, Rc2, s2, hSt2, hB2, hR2, hcase⟩ hys
    have hput : ∀ {r : Loop}, w'.heap[l]? = some (.loop r) → ∀ r', OwnStep E.n0 Rc2 (fun k => k = l) (g'.yc g.yl) (g'.yc g.yl) w' (w'.putObj l (.loop r')) := fun hl1 r' =>
      ⟨GP.le.refl _, hSt2.inv.agree.keep (fun b o v hb => World.putObj_heap_other (fun e => by subst e; rcases hSt2.inv.agree.frz _ _ _ hb with ⟨this, -⟩ | ⟨_, _, -, this⟩; (simp [World.cell?, hl1] at this); (rw [hl1] at this; cases this))), rfl, rfl, rfl, by simp, fun k hk => by subst hk; exact ⟨hlE, fun h => (hR2 _ h).2 rfl⟩, fun b _ hb => World.putObj_heap_other hb, fun _ _ _ _ => rfl⟩
    rcases hcase with ⟨i, hi, hyi, hoki, hl2⟩ | ⟨hyn, c, hl2, hq⟩
    · have hie : i = xs.length := by
        rcases hys with h | h
        · rw [hyi] at h
          simp only [Option.some.injEq, List.drop_eq_nil_iff] at h
          omega
        · rw [hyi] at h; cases h
      subst hie
      refine ⟨none, _, by have := run_endLoop (P := P) hl2 (by rw [hrec]; simp); rw [hrec] at this; exact this, ?_⟩
      exact ⟨kn, _, rho2, Rc2, _, hSt2.keepO (hput hl2 _) (fun b hb => (hB2 b hb).2), hend _ hoki⟩
    · refine ⟨some c, _, by have := run_endLoop (P := P) hl2 (by rw [hrec]; simp); rw [hrec] at this; exact this, ?_⟩
      have hSt3 := hSt2.keepO (hput hl2 ({ state := .exhausted, pending := some c, fn, tmps := aC.tmps, params := ps, assign, body, defers := D } : Loop)) (fun b hb => (hB2 b hb).2)
      rcases hq with ⟨rfl, hq⟩ | ⟨id, rfl, hq⟩
      · exact wpIn_ret ⟨kn, _, rho2, Rc2, _, hSt3, hq⟩
      · exact wpIn_exit ⟨kn, _, rho2, Rc2, _, hSt3, hq⟩
  rw [hE2] at hΦ
  rcases hΦ with h | h
  · exact hfin _ h (.inl rfl)
  · exact hfin _ h (.inr rfl)

theorem rng_sound (hO : Open F) (hRk : RndOk E) {gop : Operand} {f : AX} {ps : Array Tmp} {assign body : Code} {aA aB : AC} (hf : cx gop = some f) (hps : (ps.toList.all fun p => decide (p < nt)) = true)
    (hAs : ∀ (l : Nat) (kc2 : List Nat) (E2 : Env P (F.inRound l)), RndOk E2 → ∀ (Q : AEx → AS → Prop) (g : GP) (rho : List Nat) (R : Nat → Prop) (s : AS) (a : Act) (w : World), exec (SemK P (F.inRound l)) aA Q s → St E2 nt kc2 [] g rho R s a w → assign.wpIn (F.inRound l) 0 P (PostQ E2 nt kc2 Q) a w)
    (hBd : ∀ (l : Nat) (kc2 : List Nat) (E2 : Env P (F.inRound l)), RndOk E2 → ∀ (Q : AEx → AS → Prop) (k2 : List Nat) (g : GP) (rho : List Nat) (R : Nat → Prop) (s : AS) (a : Act) (w : World), exec (SemK P (F.inRound l)) aB Q s → St E2 nt kc2 k2 g rho R s a w → body.wpIn (F.inRound l) 0 P (PostQ E2 nt kc2 Q) a w)
    (h : exec (SemK P F) (.rng f ps.toList aA aB) QA s) (hSt : St E nt kc kn g rho R s a w) : (Code.rangeFunc gop ps assign body).wpIn F 0 P (PostQ E nt kc QA) a w := by
  obtain ⟨x, L', gf, fi, cap, xs, I, s0, hpx, hclo, hit, hno, hxl, hwk, hok0, hT, hex, hend⟩ := h
  simp only [Bool.and_eq_true] at hno
  obtain ⟨⟨hnf, hnc⟩, hnx⟩ := hno
  have hav := cx_rel hSt.tmps hf
  obtain ⟨g1, hle1, hI1, hrx, _⟩ := pur_ok 100 hpx hSt.inv
  obtain ⟨vf, vc, hv, hvf, hvc⟩ := clo_rel (hrx _ hav) hclo
  have hSt1 : St E nt kc kn g1 rho R { s with loc := L' } a w := ⟨hI1, fun j => (hSt.tmps j).mono hle1 (Pre.refl _), hSt.size, hSt.defers, hSt.gle.trans hle1, hSt.pre, hSt.bse⟩
  obtain ⟨rho0, hSt0⟩ := hSt1.weak hwk
  have hps' : ∀ p ∈ ps.toList, p < nt := fun p hp => by simpa using List.all_eq_true.1 hps p hp
  have hit' : IterC P F gf (fi ++ .yld :: cap) xs := hit
  have eg : ∀ args w, (callFunc gf args).run P w = .ok (.enter gf args) w := fun args w => hit'.1 args w
  have hAs' : ∀ (l : Nat) (kc2 : List Nat) (E2 : Env P (F.inRound l)), RndOk E2 → ∀ (Q : AEx → AS → Prop) (g : GP) (rho : List Nat) (R : Nat → Prop) (s : AS) (a : Act) (w : World), exec (SemK P F) aA Q s → St E2 nt kc2 [] g rho R s a w → assign.wpIn (F.inRound l) 0 P (PostQ E2 nt kc2 Q) a w := fun l kc2 E2 h1 Q g rho R s a w h2 => hAs l kc2 E2 h1 Q g rho R s a w (by rw [semK_inRound]; exact h2)
  have hBd' : ∀ (l : Nat) (kc2 : List Nat) (E2 : Env P (F.inRound l)), RndOk E2 → ∀ (Q : AEx → AS → Prop) (k2 : List Nat) (g : GP) (rho : List Nat) (R : Nat → Prop) (s : AS) (a : Act) (w : World), exec (SemK P F) aB Q s → St E2 nt kc2 k2 g rho R s a w → body.wpIn (F.inRound l) 0 P (PostQ E2 nt kc2 Q) a w := fun l kc2 E2 h1 Q k2 g rho R s a w h2 => hBd l kc2 E2 h1 Q k2 g rho R s a w (by rw [semK_inRound]; exact h2)
  refine wpIn_rangeFunc ?_
  intro fn _
  have hlow := hSt0.inv.low
  have hbw : ∀ b, Bc g1 rho0 s0.live (kn ++ kc) b → b < w.heap.size := fun b hb => (hSt0.inv.bc hb).2.1
  cases hro : F.round with
  | none =>
    obtain ⟨rec, hrec⟩ : ∃ rec : LoopState → Option Code → Loop, rec = fun st pe => { state := st, pending := pe, fn, tmps := a.tmps, params := ps, assign, body, defers := w.heap.size } := ⟨_, rfl⟩
    obtain ⟨W1, hW1⟩ : ∃ W1, (w.alloc (.deferred (some []))).alloc (.loop (rec .ready none)) = W1 := ⟨_, rfl⟩
    have hsz1 : W1.heap.size = w.heap.size + 2 := by rw [← hW1]; simp
    have hL1 : W1.heap[w.heap.size + 1]? = some (.loop (rec .ready none)) := by
      rw [← hW1]; have := World.alloc_heap_new (w.alloc (.deferred (some []))) (.loop (rec .ready none)); rwa [World.size_alloc] at this
    have hK1 : W1.heap[w.heap.size]? = some (.deferred (some [])) := by
      rw [← hW1]; exact (Below.heap_alloc _ _ _ (by simp)).trans (World.alloc_heap_new w _)
    have hS1 : St E nt kc kn g1 rho0 R s0 a W1 := by rw [← hW1]; exact (hSt0.alloc _).alloc _
    have hS2 : St E nt kc (w.heap.size :: kn) g1 rho0 R s0 { a with defers := markD w.heap.size :: a.defers } W1 :=
      ⟨hS1.inv.mark hlow (fun h => by have := hSt0.inv.rsz _ h; omega) hK1 (fun h => by have := hbw _ (.inr (.inr h)); omega), hS1.tmps, hS1.size, by simp [hS1.defers], hS1.gle, hS1.pre, hS1.bse⟩
    refine ⟨w.heap.size + 1, [{ target := .collected w.heap.size, args := #[] }], W1, { target := .fn (.func gf) vc, args := vf ++ #[.func (.yield (w.heap.size + 1)) #[] #[]] }, W1, gf,
      vf ++ #[.func (.yield (w.heap.size + 1)) #[] #[]] ++ vc, W1, ?_, ?_, ?_, ?_, fun h => (by rw [hO.depth] at h; cases h), ?_⟩
    · rw [← hW1, hrec]; exact run_enterLoop_outer _ _ _ _ _
    · simp only [resolve, show a.eval gop = _ from hv]
      simp [go_sem]
    · intro f' _; exact hO.fn f'
    · simp [invoke, go_sem, eg]
    · refine rng_core (aC := { a with defers := markD w.heap.size :: a.defers }) (kn := w.heap.size :: kn) hO (by omega) (by omega) hrec hps' hxl hnx (T := s0.t) (base := s.base) hT (fun E2 h1 => hAs' _ _ E2 h1) (fun E2 h1 => hBd' _ _ E2 h1) hex hok0 hend hit' hnf hnc hvf hvc hsz1 hS2 hL1 (fun b hb => ?_) (fun k hk => by have := hSt0.inv.rsz _ hk; omega)
      rcases hb with h | h | h
      · have := hbw b (.inl h); omega
      · have := hbw b (.inr (.inl h)); omega
      · rw [List.cons_append, List.mem_cons] at h
        rcases h with h | h
        · omega
        · have := hbw b (.inr (.inr h)); omega
  | some l0 =>
    obtain ⟨r0, hr0⟩ := hRk l0 hro _ _ _ _ hSt0.inv.fr
    obtain ⟨rec, hrec⟩ : ∃ rec : LoopState → Option Code → Loop, rec = fun st pe => { state := st, pending := pe, fn, tmps := a.tmps, params := ps, assign, body, defers := r0.defers } := ⟨_, rfl⟩
    obtain ⟨W1, hW1⟩ : ∃ W1, w.alloc (.loop (rec .ready none)) = W1 := ⟨_, rfl⟩
    have hsz1 : W1.heap.size = w.heap.size + 1 := by rw [← hW1]; simp
    have hL1 : W1.heap[w.heap.size]? = some (.loop (rec .ready none)) := by rw [← hW1]; exact World.alloc_heap_new w _
    have hS1 : St E nt kc kn g1 rho0 R s0 a W1 := by rw [← hW1]; exact hSt0.alloc _
    refine ⟨w.heap.size, [], W1, { target := .fn (.func gf) vc, args := vf ++ #[.func (.yield w.heap.size) #[] #[]] }, W1, gf,
      vf ++ #[.func (.yield w.heap.size) #[] #[]] ++ vc, W1, ?_, ?_, ?_, ?_, fun h => (by rw [hO.depth] at h; cases h), ?_⟩
    · rw [← hW1, hrec]; exact run_enterLoop_inner hr0 _ _ _ _ _
    · simp only [resolve, show a.eval gop = _ from hv]
      simp [go_sem]
    · intro f' _; exact hO.fn f'
    · simp [invoke, go_sem, eg]
    · exact rng_core (aC := a) (kn := kn) hO (by omega) (by omega) hrec hps' hxl hnx (T := s0.t) (base := s.base) hT (fun E2 h1 => hAs' _ _ E2 h1) (fun E2 h1 => hBd' _ _ E2 h1) hex hok0 hend hit' hnf hnc hvf hvc hsz1 hS1 hL1 (fun b hb => by have := hbw b hb; omega) (fun k hk => by have := hSt0.inv.rsz _ hk; omega)
end
end Go.Proofs.YtlbolnlcncjijaaGreat
namespace Go.Proofs.YtlbolnlcncjijaaGreat
open Go.RowKit Go.Shelf

section
variable {F : Fence} {P : Program} {E : Env P F} {g g' : GP} {rho rho' rd kc kn : List Nat} {R R' : Nat → Prop} {w w' : World} {s s' : AS} {a : Act} {nt : Nat} {mu : Nat → Bool} {QA : AEx → AS → Prop}

theorem St.drew (h : St E nt kc kn g rho R s a w) : St E nt kc kn g rho R s a w.drew := ⟨h.inv.drew, h.tmps, h.size, h.defers, h.gle, h.pre, h.bse⟩

theorem region_sound (hO : Open F) (hm : P.follows .mixedOrders = true) {id : Nat} {ops : Array Oper} {draw : Bool} {aops : List AOp} (hc : cCode P mu nt (.region id ops draw) = some (.ops aops)) (h : execOps (SemK P F) [] aops QA s) (hSt : St E nt kc kn g rho R s a w) :
    (Code.region id ops draw).wpIn F 0 P (PostQ E nt kc QA) a w := by
  simp only [cCode] at hc
  cases draw with
  | true =>
    simp only [if_true] at hc
    split at hc
    · rename_i p hp
      split at hc
      · rename_i hcond
        simp only [Bool.and_eq_true, decide_eq_true_eq] at hcond
        rw [Option.map_eq_some_iff] at hc
        obtain ⟨al, hal, he⟩ := hc
        simp only [AC.ops.injEq] at he
        subst he
        have hpl := ops_sound hO p al [] (fun _ => True) g rho R s a w.drew hal h hSt.drew (fun _ _ _ => trivial) (fun e => by cases e)
        have hops : ops.toList.toArray = ops := by simp
        have hh := held_of_planV hO (l := ops.toList) (Q := okN (PostQ E nt kc QA)) (by rw [hops]; exact hcond.1.1.1) (by rw [hops]; exact hcond.1.1.2) (fun c a t v w h => h) p ops.size (Array.replicate ops.size false) (fun _ => True) a w.drew (closed_start _) hcond.1.2 (by rw [hops]; exact hcond.2) (by rw [hops]; exact hpl)
        rw [hops] at hh
        refine wpIn_mono (region_heldG _ hm hh) ?_
        intro e a' w' hq
        cases e <;> first | exact hq | exact hq.elim
      · cases hc
    · split at hc
      · split at hc
        · rw [Option.map_eq_some_iff] at hc; obtain ⟨_, _, he⟩ := hc; cases he
        · cases hc
      · cases hc
  | false =>
    simp only [Bool.false_eq_true, if_false] at hc
    split at hc
    · rename_i hnd
      split at hc
      rotate_left
      · cases hc
      rename_i al hal
      simp only [Option.some.injEq, AC.ops.injEq] at hc
      subst hc
      have hpl := ops_sound hO _ al [] (fun _ => True) g rho R s a w hal h hSt (fun _ _ _ => trivial) (fun _ => ⟨fun _ => trivial, fun p hp => by
        simp only [List.mem_map] at hp
        obtain ⟨i, _, rfl⟩ := hp
        rfl⟩)
      have hh := ops_of_planV _ a w (fun p hp => by
        simp only [List.mem_map] at hp
        obtain ⟨i, _, rfl⟩ := hp
        rfl) hpl
      have hops : ops.toList.toArray = ops := by simp
      rw [hops, List.map_map] at hh
      have hid : (List.range ops.size).map ((fun x : Nat × Bool => x.1) ∘ fun i => (i, false)) = List.range ops.size := by
        rw [show ((fun x : Nat × Bool => x.1) ∘ fun i : Nat => (i, false)) = _root_.id from rfl, List.map_id]
      rw [hid] at hh
      refine wpIn_mono (wpIn_region hh) ?_
      intro e a' w' hq
      cases e <;> first | exact hq | exact hq.elim
    · cases hc

theorem region_sound_tree (hO : Open F) (hm : P.follows .mixedOrders = true) {id : Nat} {ops : Array Oper} {draw : Bool} {at_ : AT} (hc : cCode P mu nt (.region id ops draw) = some (.tree at_)) (h : execT (SemK P F) at_ [] QA s) (hSt : St E nt kc kn g rho R s a w) :
    (Code.region id ops draw).wpIn F 0 P (PostQ E nt kc QA) a w := by
  simp only [cCode] at hc
  cases draw with
  | true =>
    simp only [if_true] at hc
    split at hc
    · split at hc
      · rw [Option.map_eq_some_iff] at hc; obtain ⟨_, _, he⟩ := hc; cases he
      · cases hc
    · split at hc
      · rename_i t ht
        split at hc
        · rename_i hcond
          simp only [Bool.and_eq_true, decide_eq_true_eq] at hcond
          rw [Option.map_eq_some_iff] at hc
          obtain ⟨al, hal, he⟩ := hc
          simp only [AC.tree.injEq] at he
          subst he
          have hpl := tree_sound hO t al [] (fun _ => True) g rho R s a w.drew hal h hSt.drew (fun _ _ _ => trivial)
          have hops : ops.toList.toArray = ops := by simp
          have hh := held_of_planT hO (l := ops.toList) (Q := okN (PostQ E nt kc QA)) (by rw [hops]; exact hcond.1.1.1) (by rw [hops]; exact hcond.1.1.2) (fun c a t v w h => h) t ops.size (Array.replicate ops.size false) (fun _ => True) a w.drew (closed_start _) hcond.1.2 (by rw [hops]; exact hcond.2) (by rw [hops]; exact hpl)
          rw [hops] at hh
          refine wpIn_mono (region_heldG _ hm hh) ?_
          intro e a' w' hq
          cases e <;> first | exact hq | exact hq.elim
        · cases hc
      · cases hc
  | false =>
    simp only [Bool.false_eq_true, if_false] at hc
    split at hc
    · split at hc <;> cases hc
    · cases hc

theorem wpIn_loop' {ι : Type} {c : Code} {Q : Exit → Act → World → Prop} (I : ι → Act → World → Prop) (μ : ι → Nat) (i0 : ι) (h₀ : I i0 a w)
    (round : ∀ i a w, I i a w → c.wpIn F 0 P (Exit.then (fun a' w' => ∃ j, μ j < μ i ∧ I j a' w') Q) a w) : (Code.loop c).wpIn F 0 P Q a w := by
  intro b k cs hro hb hr
  have key : ∀ m i a w, μ i = m → I i a w →
      ∃ e a' w', Q e a' w' ∧ ArrivesIn (Machine.fenced P F) P (lone (b.atR a (.code c :: .inLoop c :: k)) cs w) b k cs e a' w' := by
    intro m
    induction m using Nat.strongRecOn with
    | _ m ih =>
      intro i a w hn hI
      obtain ⟨e, a₁, w₁, hq, harr⟩ := round i a w hI b (.inLoop c :: k) cs hro hb hr
      cases e with
      | normal =>
        obtain ⟨j, hlt, hI₁⟩ := hq
        obtain ⟨e₂, a₂, w₂, hq₂, harr₂⟩ := ih (μ j) (hn ▸ hlt) j a₁ w₁ rfl hI₁
        exact ⟨e₂, a₂, w₂, hq₂, .of_steps (StepsIn.trans harr (.one (fenced_calm hb hr rfl) stepR_inLoop)) harr₂⟩
      | exit id => exact ⟨_, a₁, w₁, hq, .pass (x := .inLoop c) rfl (fun _ _ => .inl (by simp)) harr⟩
      | goto l => exact ⟨_, a₁, w₁, hq, .pass (x := .inLoop c) rfl (fun _ _ => .inl (by simp)) harr⟩
      | ret => exact ⟨_, a₁, w₁, hq, .pass (x := .inLoop c) rfl (fun _ _ => .inl (by simp)) harr⟩
      | panic ch => exact ⟨_, a₁, w₁, hq, .pass (x := .inLoop c) rfl (fun _ _ => .inl (by simp)) harr⟩
      | outgrown => exact ⟨_, a₁, w₁, hq, .pass (x := .inLoop c) rfl (fun _ _ => .inl (by simp)) harr⟩
  obtain ⟨e, a', w', hq, harr⟩ := key _ i0 a w rfl h₀
  exact ⟨e, a', w', hq, .of_steps (.one (fenced_calm hb hr rfl) stepR_loop) harr⟩

theorem stepR_scope {b : Frame} {k : List Item} {cs : List Frame} {c : Code} : step P (lone (b.atR a (.code (.scope c) :: k)) cs w) = .next (lone (b.atR a (.code c :: .inScope c :: k)) cs w) :=
  step_lone_go (by simp [stepG, stepG.exec, Frame.atR])
theorem stepR_inScope {b : Frame} {k : List Item} {cs : List Frame} {c : Code} : step P (lone (b.atR a (.inScope c :: k)) cs w) = .next (lone (b.atR a k) cs w) :=
  step_lone_go (by simp [stepG, stepG.exec, Frame.atR])
theorem wpIn_scope' {c : Code} {Q : Exit → Act → World → Prop} (h : c.wpIn F 0 P (Exit.noGoto Q) a w) : (Code.scope c).wpIn F 0 P Q a w := by
  intro b k cs hro hb hr
  obtain ⟨e, a₁, w₁, hq, harr⟩ := h b (.inScope c :: k) cs hro hb hr
  cases e with
  | normal => exact ⟨.normal, a₁, w₁, hq, StepsIn.trans (.one (fenced_calm hb hr rfl) stepR_scope) (StepsIn.trans harr (.one (fenced_calm hb hr rfl) stepR_inScope))⟩
  | exit id => exact ⟨.exit id, a₁, w₁, hq, .of_steps (.one (fenced_calm hb hr rfl) stepR_scope) ⟨fun k' hk => harr.1 k' (by simp [exitTo, hk]), fun hr hk => harr.2 hr (by simp [exitTo, hk])⟩⟩
  | goto l => exact hq.elim
  | ret => exact ⟨_, a₁, w₁, hq, .of_steps (.one (fenced_calm hb hr rfl) stepR_scope) harr⟩
  | panic ch => exact ⟨_, a₁, w₁, hq, .of_steps (.one (fenced_calm hb hr rfl) stepR_scope) harr⟩
  | outgrown => exact ⟨_, a₁, w₁, hq, .of_steps (.one (fenced_calm hb hr rfl) stepR_scope) harr⟩

theorem code_sound (hm : P.follows .mixedOrders = true) : ∀ (c : Code) (F : Fence) (_ : Open F) (kc : List Nat) (E : Env P F) (_ : RndOk E) (ac : AC) (QA : AEx → AS → Prop) (kn : List Nat) (g : GP) (rho : List Nat) (R : Nat → Prop) (s : AS) (a : Act) (w : World), cCode P mu nt c = some ac → exec (SemK P F) ac QA s → St E nt kc kn g rho R s a w →
    c.wpIn F 0 P (PostQ E nt kc QA) a w := by
  intro c
  induction c with
  | skip =>
    intro F hO kc E hRk ac QA kn g rho R s a w hc h hSt
    simp only [cCode, Option.some.injEq] at hc
    subst hc
    exact wpIn_skip ⟨kn, g, rho, R, s, hSt, h⟩
  | region id ops draw =>
    intro F hO kc E hRk ac QA kn g rho R s a w hc h hSt
    have hac : (∃ l, ac = .ops l) ∨ (∃ t, ac = .tree t) ∨ ac = .stop := by
      simp only [cCode] at hc
      split at hc
      · split at hc
        · split at hc
          · rw [Option.map_eq_some_iff] at hc; obtain ⟨l, _, rfl⟩ := hc; exact .inl ⟨l, rfl⟩
          · cases hc
        · split at hc
          · split at hc
            · rw [Option.map_eq_some_iff] at hc; obtain ⟨l, _, rfl⟩ := hc; exact .inr (.inl ⟨l, rfl⟩)
            · cases hc
          · cases hc
      · split at hc
        · split at hc
          · simp only [Option.some.injEq] at hc; exact .inl ⟨_, hc.symm⟩
          · simp only [Option.some.injEq] at hc; exact .inr (.inr hc.symm)
        · cases hc
    rcases hac with ⟨l, rfl⟩ | ⟨t, rfl⟩ | rfl
    rotate_left
    · exact region_sound_tree hO hm hc h hSt
    · exact absurd h (by simp [exec])
    exact region_sound hO hm hc h hSt
  | seq x y ihx ihy =>
    intro F hO kc E hRk ac QA kn g rho R s a w hc h hSt
    simp only [cCode] at hc
    split at hc
    · rename_i ax ay hx hy
      simp only [Option.some.injEq] at hc
      subst hc
      refine wpIn_seq (wpIn_mono (ihx F hO kc E hRk ax _ kn g rho R s a w hx h hSt) ?_)
      intro e a' w' hq
      cases e with
      | normal => obtain ⟨kn', g', rho', R', s', hSt', hq⟩ := hq; exact ihy F hO kc E hRk ay _ kn' g' rho' R' s' a' w' hy hq hSt'
      | exit id => exact hq
      | goto l => exact hq
      | ret => exact hq
      | panic c => exact hq
      | outgrown => exact hq
    · cases hc
  | cond c x y ihx ihy =>
    intro F hO kc E hRk ac QA kn g rho R s a w hc h hSt
    simp only [cCode] at hc
    split at hc
    · rename_i c' ax ay hcx hx hy
      simp only [Option.some.injEq] at hc
      subst hc
      simp only [exec, condQ] at h
      split at h
      · rename_i t ht
        have h0 := cx_rel hSt.tmps hcx
        rw [ht] at h0
        obtain ⟨e, _⟩ := rel_val h0
        exact wpIn_cond_split e (fun e => ihx F hO kc E hRk ax _ kn g rho R _ a w hx (h.1 e) (hSt.know (by rw [ht, e]))) (fun e => ihy F hO kc E hRk ay _ kn g rho R _ a w hy (h.2 e) (hSt.know (by rw [ht, e])))
      · exact h.elim
    · cases hc
  | block id x ihx =>
    intro F hO kc E hRk ac QA kn g rho R s a w hc h hSt
    simp only [cCode, Option.map_eq_some_iff] at hc
    obtain ⟨ax, hx, rfl⟩ := hc
    refine wpIn_block (wpIn_mono (ihx F hO kc E hRk ax _ kn g rho R s a w hx h hSt) ?_)
    intro e a' w' hq
    cases e with
    | normal => exact hq
    | exit id' =>
      obtain ⟨kn', g', rho', R', s', hSt', hq⟩ := hq
      simp only [blockQ] at hq
      simp only [Exit.inBlock]
      split at hq
      · rename_i e; rw [if_pos e]; exact ⟨kn', g', rho', R', s', hSt', hq⟩
      · rename_i e; rw [if_neg e]; exact ⟨kn', g', rho', R', s', hSt', hq⟩
    | goto l => exact hq
    | ret => exact hq
    | panic c => exact hq
    | outgrown => exact hq
  | loop x ihx =>
    intro F hO kc E hRk ac QA kn g rho R s a w hc h hSt
    simp only [cCode, Option.map_eq_some_iff] at hc
    obtain ⟨ax, hx, rfl⟩ := hc
    obtain ⟨ι, st, μ, i, hwk, hround⟩ := h
    refine wpIn_loop' (fun i a w => ∃ kn g rho R, St E nt kc kn g rho R (st i) a w) μ i (by obtain ⟨rho', h⟩ := hSt.weak hwk; exact ⟨kn, g, rho', R, h⟩) ?_
    rintro i a w ⟨kn, g, rho, R, hSt⟩
    refine wpIn_mono (ihx F hO kc E hRk ax _ kn g rho R _ a w hx (hround i) hSt) ?_
    intro e a' w' hq
    cases e with
    | normal =>
      obtain ⟨kn', g', rho', R', s', hSt', j, hlt, hwk⟩ := hq
      obtain ⟨rho2, h2⟩ := hSt'.weak hwk
      exact ⟨j, hlt, kn', g', rho2, R', h2⟩
    | exit id => exact hq
    | goto l => exact hq
    | ret => exact hq
    | panic c => exact hq
    | outgrown => exact hq
  | exit id =>
    intro F hO kc E hRk ac QA kn g rho R s a w hc h hSt
    simp only [cCode, Option.some.injEq] at hc
    subst hc
    exact wpIn_exit ⟨kn, g, rho, R, s, hSt, h⟩
  | ret =>
    intro F hO kc E hRk ac QA kn g rho R s a w hc h hSt
    simp only [cCode, Option.some.injEq] at hc
    subst hc
    exact wpIn_ret ⟨kn, g, rho, R, s, hSt, h⟩
  | label l =>
    intro F hO kc E hRk ac QA kn g rho R s a w hc h hSt
    simp only [cCode, Option.some.injEq] at hc
    subst hc
    exact wpIn_label ⟨kn, g, rho, R, s, hSt, h⟩
  | rangeFunc f ps x y ihx ihy =>
    intro F hO kc E hRk ac QA kn g rho R s a w hc h hSt
    simp only [cCode] at hc
    split at hc
    · rename_i f' ax ay hf hx hy
      split at hc
      · rename_i hps
        simp only [Option.some.injEq] at hc
        subst hc
        exact rng_sound hO hRk hf hps (fun l kc2 E2 h1 Q g rho R s a w h2 h3 => ihx (F.inRound l) (hO.inRound l) kc2 E2 h1 ax Q [] g rho R s a w hx h2 h3)
          (fun l kc2 E2 h1 Q k2 g rho R s a w h2 h3 => ihy (F.inRound l) (hO.inRound l) kc2 E2 h1 ay Q k2 g rho R s a w hy h2 h3) h hSt
      · cases hc
    · cases hc
  | scope x ihx =>
    intro F hO kc E hRk ac QA kn g rho R s a w hc h hSt
    simp only [cCode] at hc
    refine wpIn_scope' (wpIn_mono (ihx F hO kc E hRk ac QA kn g rho R s a w hc h hSt) ?_)
    intro e a' w' hq
    cases e with
    | goto l => exact hq.elim
    | normal => exact hq
    | exit id => exact hq
    | ret => exact hq
    | panic c => exact hq
    | outgrown => exact hq
  | goto l => intro F hO kc E hRk ac QA kn g rho R s a w hc; simp [cCode] at hc
  | refuse y => intro F hO kc E hRk ac QA kn g rho R s a w hc; simp [cCode] at hc
end
end Go.Proofs.YtlbolnlcncjijaaGreat
