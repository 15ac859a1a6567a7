/- Regions of abstract code are sound. Ranges over functions: what stays between the rounds. Less is known; rounds of a range over a function. -/
import Derived.Test.YtlbolnlcncjijaaGreatGa09
import Derived.RangeFuncNested
import Derived.RangeFuncBound
namespace Go.Proofs.YtlbolnlcncjijaaGreat
open Go.RowKit Go.Shelf

section
variable {F : Fence} {n : Nat} {P : Program} {Q : Exit → Act → World → Prop} {md : Region.Mode}

def planV (F : Fence) (n : Nat) (P : Program) (l : List Oper) (lst : Nat → Bool) (Q : Exit → Act → World → Prop) : List (Nat × Bool) → (World → Prop) → Act → World → Prop
  | [], _, a, w => Q .normal a w
  | (i, true) :: r, S, a, w => ∃ o v, ∃ S' : World → Prop, nth l i = some o ∧ (∀ w, S' w → S w) ∧ S' w ∧ YieldsIf P l.toArray S' o v a ∧ planV F n P l lst Q r S' (a.put o.dst v) w
  | (i, false) :: r, S, a, w => ∃ o, nth l i = some o ∧ ∀ K : Act → World → Prop, (∀ a w, ((S w ∧ planV F n P l lst Q r S a w) ∨ (lst i = true ∧ planV F n P l lst Q r (fun _ => True) a w)) → K a w) →
      if Region.wanted o (yielded l.toArray a.tmps) = true then Oper.wpIn F n P o a w K Q else (∀ f, o.about P w a.eval = some f → F.fn f) ∧ K (a.put o.dst undef) w

theorem held_of_planV (hO : Open F) {l : List Oper} (hs : Region.noSelect l.toArray = true) (hnd : noDefer l.toArray = true) (hQ : ∀ c a t v w, Q (.panic c) (Act.put a (some t) v) w → Q (.panic c) a w) :
    ∀ (plan : List (Nat × Bool)) (fuel : Nat) (listed : Array Bool) (S : World → Prop) (a : Act) (w : World), Closed .any l.toArray listed → plan.length ≤ fuel → planOk .any l.toArray plan listed = true → planV F n P l (lastG .any l.toArray) Q plan S a w → anyHeldG F n P .any l.toArray Q fuel S listed a w
  | [], fuel, listed, S, a, w, _, _, hp, h => by
    have : Region.ready .any l.toArray listed = [] := by simpa [planOk] using hp
    exact held_doneG this h fuel
  | (i, true) :: r, 0, listed, S, a, w, _, hf, _, _ => by simp at hf
  | (i, false) :: r, 0, listed, S, a, w, _, hf, _, _ => by simp at hf
  | (i, true) :: r, fuel + 1, listed, S, a, w, hcl, hf, hp, ⟨o, v, S', ho, hSS, hS, hy, h⟩ => by
    simp only [planOk, Bool.and_eq_true] at hp
    refine anyHeldG_mono hSS _ _ _ _ ?_
    exact held_takeLG hO i ho hs hnd hp.1.1 hp.1.2 hcl (fun c a w h => (match o.dst, h with | none, h => h | some t, h => hQ c a t v w h)) hS hy (held_of_planV hO hs hnd hQ r fuel _ S' _ w (hcl.add (by simpa using hp.1.2)) (by simpa using hf) hp.2 h)
  | (i, false) :: r, fuel + 1, listed, S, a, w, hcl, hf, hp, ⟨o, ho, h⟩ => by
    simp only [planOk, Bool.and_eq_true, beq_iff_eq] at hp
    exact held_anyLG i hp.1 ho (fun K hK => h K (fun a w hS => hK a w (hS.imp (fun hS => ⟨hS.1, held_of_planV hO hs hnd hQ r fuel _ S a w (hcl.add (by rw [hp.1]; simp)) (by simpa using hf) hp.2 hS.2⟩) (fun hS => ⟨hS.1, held_of_planV hO hs hnd hQ r fuel _ _ a w (hcl.add (by rw [hp.1]; simp)) (by simpa using hf) hp.2 hS.2⟩))))

theorem ops_of_planV {l : List Oper} : ∀ (plan : List (Nat × Bool)) (a : Act) (w : World), (∀ p ∈ plan, p.2 = false) → planV F n P l (fun _ => true) Q plan (fun _ => True) a w → wpOpsIn F n P l.toArray Q (plan.map (·.1)) a w
  | [], a, w, _, h => h
  | (i, true) :: r, a, w, hp, h => by have := hp _ (List.mem_cons_self ..); cases this
  | (i, false) :: r, a, w, hp, ⟨o, ho, h⟩ => by
    have ho' : l.toArray[i]? = some o := by rw [List.getElem?_toArray]; exact (nth_eq l i).symm.trans ho
    simp only [List.map_cons, wpOpsIn, ho']
    exact h _ (fun a w hW => ops_of_planV r a w (fun p hp' => hp p (List.mem_cons_of_mem _ hp')) (by rcases hW with hW | hW <;> exact hW.2))

def markD (k : Nat) : Deferred := { target := .collected k, args := #[] }

structure St {P : Program} {F : Fence} (E : Env P F) (nt : Nat) (kc kn : List Nat) (g : GP) (rho : List Nat) (R : Nat → Prop) (s : AS) (a : Act) (w : World) : Prop where
  inv : Inv E g rho R (kn ++ kc) s.loc s.live s.ys w
  tmps : Tmps g rho s a
  size : a.tmps.size = nt
  defers : a.defers = kn.map markD
  gle : E.g0.le g
  pre : Pre E.rho0 rho
  bse : E.rho0.length = s.base

def PostQ {P : Program} {F : Fence} (E : Env P F) (nt : Nat) (kc : List Nat) (Q : AEx → AS → Prop) : Exit → Act → World → Prop
  | .normal, a, w => ∃ kn g rho R s, St E nt kc kn g rho R s a w ∧ Q .normal s
  | .exit id, a, w => ∃ kn g rho R s, St E nt kc kn g rho R s a w ∧ Q (.exit id) s
  | .ret, a, w => ∃ kn g rho R s, St E nt kc kn g rho R s a w ∧ Q .ret s
  | _, _, _ => False

variable {E : Env P F} {g g' : GP} {rho rho' rd kc kn : List Nat} {R R' : Nat → Prop} {w w' : World} {s s' : AS} {a : Act} {o : Oper} {lst : Bool} {nt : Nat} {mu : Nat → Bool}

theorem Tmps.put (h : Tmps g rho s a) {av : AV} {v : Value} (hv : Rel g rho av v) {d : Option Nat} (hd : ∀ i, d = some i → i < a.tmps.size) : Tmps g rho (s.put d av) (a.put d v) := by
  cases d with
  | none => exact h
  | some i =>
    intro j
    have hi := hd i rfl
    simp only [AS.put, Act.put, look]
    by_cases e : i = j
    · subst e
      simp only [beq_self_eq_true, cond_true]
      simp [Array.getD_eq_getD_getElem?, hi]
      exact hv
    · rw [show (i == j) = false by simpa using e, cond_false]
      have := h j
      simp only [Array.getD_eq_getD_getElem?] at this ⊢
      rw [Array.getElem?_setIfInBounds_ne e]
      exact this

theorem wpIn_of_eff (hO : Open F) {Rq : Value → World → Prop} {K : Act → World → Prop} {Q' : Exit → Act → World → Prop} (hd : ∀ c, o.op ≠ .defer c) (h : EffOk P F a w o Rq) (hK : ∀ v w', Rq v w' → K (a.put o.dst v) w') : Oper.wpIn F 0 P o a w K Q' := by
  refine ⟨fun f _ => hO.fn f, ?_⟩
  rw [semAt_of hd]
  rcases h with ⟨v, w', hr, hR⟩ | ⟨w', hr, hR⟩ | ⟨f, vs, hr, hc⟩ | ⟨l, fn, tmps, assign, body, hr, hc⟩
  · rw [hr]; exact hK v w' hR
  · rw [hr]; exact hK _ w' hR
  · rw [hr]
    refine ⟨fun hd => (by rw [hO.depth] at hd; cases hd), hc.mono ?_⟩
    rintro e w' ⟨v, rfl, hR⟩
    exact hK v w' hR
  · rw [hr]
    refine ⟨fun hd => (by rw [hO.depth] at hd; cases hd), hc.mono ?_⟩
    rintro e w' ⟨v, rfl, hR⟩
    exact hK v w' hR

theorem cop_noDefer {k : AK} (h : cop P mu o = some k) : ∀ c, o.op ≠ .defer c := by
  intro c hc
  unfold cop at h
  rw [hc] at h
  cases h

theorem wanted_none {ops : List Oper} (h : cguard ops o = some none) (y : Nat → Option Bool) : Region.wanted o y = true := by
  unfold cguard at h
  split at h
  · rename_i hg; simp [Region.wanted, hg]
  · split at h
    · rw [Option.map_eq_some_iff] at h; obtain ⟨_, _, h⟩ := h; cases h
    · cases h
theorem wanted_some {ops : List Oper} {d : Nat} {b : Bool} (h : cguard ops o = some (some (d, b))) (hT : Tmps g rho s a) :
    (∀ t, look s.t d = .p (.val (.bool t)) → Region.wanted o (yielded ops.toArray a.tmps) = (t == b)) ∧ (look s.t d = .p .und → Region.wanted o (yielded ops.toArray a.tmps) = false) := by
  unfold cguard at h
  split at h
  · cases h
  · rename_i j b' hg
    split at h
    · rename_i p hp
      rw [Option.map_eq_some_iff] at h
      obtain ⟨d', hd', h⟩ := h
      simp only [Option.some.injEq, Prod.mk.injEq] at h
      obtain ⟨rfl, rfl⟩ := h
      have hj : ops.toArray[j]? = some p := nth_ops hp
      have h0 := hT d'
      refine ⟨fun t ht => ?_, fun ht => ?_⟩
      · rw [ht] at h0
        obtain ⟨e, _⟩ := rel_val h0
        have : a.tmps[d']? = some (.bool t) := by
          rw [Array.getD_eq_getD_getElem?] at e
          cases hq : a.tmps[d']? with
          | none => rw [hq] at e; simp [undef] at e
          | some v => rw [hq] at e; simp at e; rw [e]
        have hy : yielded ops.toArray a.tmps j = some t := by simp [yielded, hj, hd', this]
        simp [Region.wanted, hg, hy]
      · rw [ht] at h0
        cases h0 with
        | p h0 =>
          generalize hv : a.tmps.getD d' undef = v at h0
          cases h0
          have hy : yielded ops.toArray a.tmps j = none := by
            rw [Array.getD_eq_getD_getElem?] at hv
            cases hq : a.tmps[d']? with
            | none => simp [yielded, hj, hd', hq]
            | some v => rw [hq] at hv; simp at hv; simp [yielded, hj, hd', hq, hv, undef]
          simp [Region.wanted, hg, hy]
    · cases h

theorem put_loc (s : AS) (d : Option Nat) (v : AV) : (s.put d v).loc = s.loc := by cases d <;> rfl
theorem put_base (s : AS) (d : Option Nat) (v : AV) : (s.put d v).base = s.base := by cases d <;> rfl
theorem put_ys (s : AS) (d : Option Nat) (v : AV) : (s.put d v).ys = s.ys := by cases d <;> rfl
theorem put_live (s : AS) (d : Option Nat) (v : AV) : (s.put d v).live = s.live := by cases d <;> rfl
theorem actput_size (a : Act) (d : Option Nat) (v : Value) : (a.put d v).tmps.size = a.tmps.size := by cases d <;> simp [Act.put]
theorem actput_defers (a : Act) (d : Option Nat) (v : Value) : (a.put d v).defers = a.defers := by cases d <;> rfl

theorem St.put (h : St E nt kc kn g rho R s a w) (hI : Inv E g' rho' R' (kn ++ kc) s'.loc s'.live s'.ys w') (hle : g.le g') (hp : Pre rho rho') (ht : (s'.t, s'.base) = (s.t, s.base)) {av : AV} {v : Value} (hv : Rel g' rho' av v) {d : Option Nat} (hd : (d.all fun d => decide (d < nt)) = true) :
    St E nt kc kn g' rho' R' (s'.put d av) (a.put d v) w' := by
  simp only [Prod.mk.injEq] at ht
  refine ⟨by rw [put_loc, put_live, put_ys]; exact hI, ?_, by rw [actput_size]; exact h.size, by rw [actput_defers]; exact h.defers, h.gle.trans hle, fun id b hb => hp id b (h.pre id b hb), by rw [put_base, ht.2]; exact h.bse⟩
  refine Tmps.put (fun j => ?_) hv (fun i hi => ?_)
  · rw [ht.1]; exact (h.tmps j).mono hle hp
  · subst hi; rw [h.size]; simpa using hd

theorem St.know (h : St E nt kc kn g rho R s a w) {c : AX} {t : Bool} (hc : c.ev s = .p (.val (.bool t))) : St E nt kc kn g rho R (s.know c t) a w := by
  cases c with
  | c x => exact h
  | t j =>
    refine ⟨h.inv, fun i => ?_, h.size, h.defers, h.gle, h.pre, h.bse⟩
    simp only [AS.know, look]
    by_cases e : j = i
    · subst e
      simp only [beq_self_eq_true, cond_true]
      have := h.tmps j
      rw [show look s.t j = .p (.val (.bool t)) from hc] at this
      exact this
    · rw [show (j == i) = false by simpa using e, cond_false]
      exact h.tmps i
theorem know_loc (s : AS) (c : AX) (b : Bool) : (s.know c b).loc = s.loc ∧ (s.know c b).live = s.live := by cases c <;> exact ⟨rfl, rfl⟩

theorem cOper_spec {ops : List Oper} {i : Nat} {tk lst : Bool} {ao : AOp} (h : cOper P mu nt ops o i tk lst = some ao) : ∃ k gd, cop P mu o = some k ∧ cguard ops o = some gd ∧ (o.dst.all fun d => decide (d < nt)) = true ∧ (tk = true → k.still = true) ∧ ao = ⟨o.dst, k, gd, i, tk, lst⟩ := by
  unfold cOper at h
  split at h
  · rename_i k gd hk hg
    split at h
    · rename_i hc
      rw [Bool.and_eq_true] at hc
      simp only [Option.some.injEq] at h
      exact ⟨k, gd, hk, hg, hc.1, fun ht => by rw [ht] at hc; simpa using hc.2, h.symm⟩
    · cases h
  · cases h

theorem ops_sound (hO : Open F) {ops : List Oper} {lst : Nat → Bool} {und : Bool} {QA : AEx → AS → Prop} :
    ∀ (plan : List (Nat × Bool)) (aops : List AOp) (rd : List Nat) (S : World → Prop) (g : GP) (rho : List Nat) (R : Nat → Prop) (s : AS) (a : Act) (w : World),
      cPlan P mu nt ops lst und plan = some aops → execOps (SemK P F) rd aops QA s → St E nt kc kn g rho R s a w →
      (∀ w', Agree g w' → (∀ id ∈ rd, ∀ b, rho[id]? = some b → w'.heap[b]? = w.heap[b]?) → S w') → (und = true → (∀ w, S w) ∧ ∀ p ∈ plan, p.2 = false) →
      planV F 0 P ops lst (okN (PostQ E nt kc QA)) plan S a w
  | [], aops, rd, S, g, rho, R, s, a, w, hc, h, hSt, _, _ => by
    simp only [cPlan, Option.some.injEq] at hc
    subst hc
    exact ⟨kn, g, rho, R, s, hSt, by simpa only [execOps] using h⟩
  | (i, b) :: r, aops, rd, S, g, rho, R, s, a, w, hc, h, hSt, hS, hU => by
    simp only [cPlan] at hc
    split at hc
    · rename_i o ho
      split at hc
      · rename_i ao al hao hal
        simp only [Option.some.injEq] at hc
        subst hc
        obtain ⟨k, gd, hk, hg, hd, htk, rfl⟩ := cOper_spec hao
        have hSw : S w := hS w hSt.inv.agree (fun _ _ _ _ => rfl)
        have hU' : und = true → (∀ w, S w) ∧ ∀ p ∈ r, p.2 = false := fun hu => ⟨(hU hu).1, fun p hp => (hU hu).2 p (List.mem_cons_of_mem _ hp)⟩
        -- it is passed over
        have skip : ∀ s : AS, St E nt kc kn g rho R s a w → Region.wanted o (yielded ops.toArray a.tmps) = false → execOps (SemK P F) rd al QA (s.put o.dst (.p .und)) → planV F 0 P ops lst (okN (PostQ E nt kc QA)) ((i, b) :: r) S a w := fun s hSt hw h => by
          have hSt' := hSt.put hSt.inv (GP.le.refl g) (Pre.refl rho) rfl (.p .und) hd
          have IH := ops_sound hO r al rd S g rho R _ _ w hal h hSt' hS hU'
          cases b with
          | true => exact ⟨o, undef, S, ho, fun _ h => h, hSw, .inr ⟨hw, rfl⟩, IH⟩
          | false => exact ⟨o, ho, fun K hK => by rw [if_neg (by rw [hw]; simp)]; exact ⟨fun f _ => hO.fn f, hK _ _ (.inl ⟨hSw, IH⟩)⟩⟩
        -- it is carried out
        have step : ∀ s : AS, St E nt kc kn g rho R s a w → Region.wanted o (yielded ops.toArray a.tmps) = true → stepQ (SemK P F) rd ⟨o.dst, k, gd, i, b, lst i⟩ s (fun rd s => execOps (SemK P F) rd al QA s) → planV F 0 P ops lst (okN (PostQ E nt kc QA)) ((i, b) :: r) S a w := fun s hSt hw hq => by
          simp only [stepQ] at hq
          split at hq
          · rename_i hst
            split at hq
            · rename_i av hav
              have hok := still_ok hk hst hSt.inv hSt.tmps hav
              cases b with
              | true =>
                obtain ⟨v, hv, hrun⟩ := hok
                simp only [if_true] at hq
                refine ⟨o, v, fun w' => S w' ∧ Agree g w' ∧ ∀ id ∈ rdOf s k, ∀ b, rho[id]? = some b → w'.heap[b]? = w.heap[b]?, ho, fun _ h => h.1, ⟨hSw, hSt.inv.agree, fun _ _ _ _ => rfl⟩, .inl ⟨hw, fun w' hw' => hrun w' hw'.2.1 hw'.2.2⟩, ?_⟩
                refine ops_sound hO r al _ _ g rho R _ _ w hal hq (hSt.put hSt.inv (GP.le.refl g) (Pre.refl rho) rfl hv hd) (fun w' hA hk => ⟨hS w' hA (fun id hid => hk id (List.mem_append_right _ hid)), hA, fun id hid => hk id (List.mem_append_left _ hid)⟩) (fun hu => ?_)
                have := (hU hu).2 _ (List.mem_cons_self ..)
                cases this
              | false =>
                simp only [Bool.false_eq_true, if_false] at hq
                refine ⟨o, ho, fun K hK => ?_⟩
                rw [if_pos hw]
                obtain ⟨v, hv, hrun⟩ := hok
                refine wpIn_of_eff hO (cop_noDefer hk) (Rq := fun v' w' => v' = v ∧ w' = w) (.inl ⟨v, w, hrun w hSt.inv.agree (fun _ _ _ _ => rfl), rfl, rfl⟩) ?_
                rintro v' w' ⟨rfl, rfl⟩
                exact hK _ _ (.inl ⟨hSw, ops_sound hO r al rd S g rho R _ _ _ hal hq (hSt.put hSt.inv (GP.le.refl g) (Pre.refl rho) rfl hv hd) hS hU'⟩)
            · exact hq.elim
          · rename_i hst
            cases b with
            | true => rw [htk rfl] at hst; cases hst
            | false =>
              refine ⟨o, ho, fun K hK => ?_⟩
              rw [if_pos hw]
              refine wpIn_of_eff hO (cop_noDefer hk) (eff_ok hk hst hSt.inv hSt.tmps hq) ?_
              rintro v w' ⟨av, g', rho', R', s', hI', hle, hpre, hrel, ht, keep, hK'⟩
              have hSt' := hSt.put hI' hle hpre ht hrel hd
              cases hl : lst i with
              | true =>
                rw [hl, cond_true] at hK'
                refine hK _ _ (.inr ⟨hl, ops_sound hO r al [] _ g' rho' R' _ _ _ hal hK' hSt' (fun w' _ _ => trivial) (fun hu => ⟨fun _ => trivial, (hU' hu).2⟩)⟩)
              | false =>
                rw [hl, cond_false] at hK'
                have hk2 := keep hl
                rw [hl, cond_false] at hk2
                have hSw' : S w' := hS w' (hI'.agree.mono hle) hk2
                exact hK _ _ (.inl ⟨hSw', ops_sound hO r al rd S g' rho' R' _ _ _ hal hK' hSt' (fun w2 hA2 hk3 => hS w2 (hA2.mono hle) (fun id hid b hb => (hk3 id hid b (hpre id b hb)).trans (hk2 id hid b hb))) hU'⟩)
        simp only [execOps] at h
        split at h
        · exact step s hSt (wanted_none hg _) h
        · rename_i d bb
          obtain ⟨w1, w2⟩ := wanted_some hg hSt.tmps
          split at h
          · rename_i t htt
            have hw1 := w1 t htt
            by_cases e : t = bb
            · subst e
              exact step _ (hSt.know (c := .t d) htt) (by rw [hw1]; simp) (h.1 rfl)
            · have e' : t = !bb := by cases t <;> cases bb <;> simp_all
              rw [← e'] at h
              exact skip _ (hSt.know (c := .t d) htt) (by rw [hw1]; simpa using e) (h.2 rfl)
          · rename_i htt
            exact skip s hSt (w2 htt) h
          · exact h.elim
      · cases hc
    · cases hc

def onT (F : Fence) (n : Nat) (P : Program) (l : List Oper) (lst : Nat → Bool) (Q : Exit → Act → World → Prop) (S : World → Prop) (i : Nat) (cont : (World → Prop) → Act → World → Prop) (a : Act) (w : World) : Prop :=
  ∃ o, nth l i = some o ∧ ∀ K : Act → World → Prop, (∀ a w, ((S w ∧ cont S a w) ∨ (lst i = true ∧ cont (fun _ => True) a w)) → K a w) →
    if Region.wanted o (yielded l.toArray a.tmps) = true then Oper.wpIn F n P o a w K Q else (∀ f, o.about P w a.eval = some f → F.fn f) ∧ K (a.put o.dst undef) w
def planT (F : Fence) (n : Nat) (P : Program) (l : List Oper) (lst : Nat → Bool) (Q : Exit → Act → World → Prop) : PTr → (World → Prop) → Act → World → Prop
  | .fin, _, a, w => Q .normal a w
  | .tk i r, S, a, w => ∃ o v, ∃ S' : World → Prop, nth l i = some o ∧ (∀ w, S' w → S w) ∧ S' w ∧ YieldsIf P l.toArray S' o v a ∧ planT F n P l lst Q r S' (a.put o.dst v) w
  | .on i r, S, a, w => onT F n P l lst Q S i (planT F n P l lst Q r) a w
  | .fk i j r s, S, a, w => onT F n P l lst Q S i (planT F n P l lst Q r) a w ∧ onT F n P l lst Q S j (planT F n P l lst Q s) a w
  | .alt i r s, S, a, w => onT F n P l lst Q S i (planT F n P l lst Q r) a w ∧ planT F n P l lst Q s S a w
def heldEx (F : Fence) (n : Nat) (P : Program) (ops : Array Oper) (Q : Exit → Act → World → Prop) (ex : List Nat) : Nat → (World → Prop) → Array Bool → Act → World → Prop
  | 0, _, listed, a, w => Region.ready .any ops listed = [] ∧ Q .normal a w
  | fuel + 1, S, listed, a, w =>
    (Region.ready .any ops listed = [] → Q .normal a w) ∧
    ∀ i ∈ Region.ready .any ops listed, i ∉ ex → wpOpIn F n P ops Q i (fun a' w' => (S w' ∧ anyHeldG F n P .any ops Q fuel S (listed.setIfInBounds i true) a' w') ∨ (lastG .any ops i = true ∧ anyHeldG F n P .any ops Q fuel (fun _ => True) (listed.setIfInBounds i true) a' w')) a w
theorem heldEx_of {n : Nat} {P : Program} {ops : Array Oper} {Q : Exit → Act → World → Prop} {ex : List Nat} : ∀ {fuel : Nat} {S : World → Prop} {listed : Array Bool} {a : Act} {w : World}, anyHeldG F n P .any ops Q fuel S listed a w → heldEx F n P ops Q ex fuel S listed a w
  | 0, _, _, _, _, h => h
  | _ + 1, _, _, _, _, h => ⟨h.1, fun i hi _ => h.2 i hi⟩
theorem heldEx_nil {n : Nat} {P : Program} {ops : Array Oper} {Q : Exit → Act → World → Prop} : ∀ {fuel : Nat} {S : World → Prop} {listed : Array Bool} {a : Act} {w : World}, heldEx F n P ops Q [] fuel S listed a w → anyHeldG F n P .any ops Q fuel S listed a w
  | 0, _, _, _, _, h => h
  | _ + 1, _, _, _, _, h => ⟨h.1, fun i hi => h.2 i hi (by simp)⟩
theorem held_of_planX {n : Nat} {Q : Exit → Act → World → Prop} (hO : Open F) {l : List Oper} (hs : Region.noSelect l.toArray = true) (hnd : noDefer l.toArray = true) (hQ : ∀ c a t v w, Q (.panic c) (Act.put a (some t) v) w → Q (.panic c) a w) :
    ∀ (t : PTr) (fuel : Nat) (listed : Array Bool) (ex : List Nat) (S : World → Prop) (a : Act) (w : World), Closed .any l.toArray listed → t.depth ≤ fuel → okTrX l.toArray t listed ex = true → planT F n P l (lastG .any l.toArray) Q t S a w → heldEx F n P l.toArray Q ex fuel S listed a w
  | .fin, fuel, listed, ex, S, a, w, _, _, hp, h => by
    have : Region.ready .any l.toArray listed = [] := by simpa [okTrX] using hp
    exact heldEx_of (held_doneG this h fuel)
  | .tk i r, 0, listed, ex, S, a, w, _, hf, _, _ => by simp [PTr.depth] at hf
  | .on i r, 0, listed, ex, S, a, w, _, hf, _, _ => by simp [PTr.depth] at hf
  | .fk i j r s, 0, listed, ex, S, a, w, _, hf, _, _ => by simp [PTr.depth] at hf
  | .alt i r s, 0, listed, ex, S, a, w, _, hf, _, _ => by
    simp only [PTr.depth] at hf
    omega
  | .tk i r, fuel + 1, listed, ex, S, a, w, hcl, hf, hp, ⟨o, v, S', ho, hSS, hS, hy, h⟩ => by
    simp only [okTrX, Bool.and_eq_true] at hp
    refine heldEx_of (anyHeldG_mono hSS _ _ _ _ ?_)
    exact held_takeLG hO i ho hs hnd hp.1.1 hp.1.2 hcl (fun c a w h => (match o.dst, h with | none, h => h | some t, h => hQ c a t v w h)) hS hy (heldEx_nil (held_of_planX hO hs hnd hQ r fuel _ [] S' _ w (hcl.add (by simpa using hp.1.2)) (by simpa [PTr.depth] using hf) hp.2 h))
  | .on i r, fuel + 1, listed, ex, S, a, w, hcl, hf, hp, ⟨o, ho, h⟩ => by
    simp only [okTrX, Bool.and_eq_true, List.all_eq_true, Bool.or_eq_true, beq_iff_eq] at hp
    obtain ⟨⟨hc, hall⟩, hp⟩ := hp
    have hc : i ∈ Region.ready .any l.toArray listed := by simpa using hc
    refine ⟨fun h0 => (by rw [h0] at hc; cases hc), fun k hk hkx => ?_⟩
    have hki : k = i := by
      rcases hall k hk with e | e
      · exact e
      · exact absurd (by simpa using e) hkx
    subst hki
    exact wpOpIn_step (nth_ops ho) (fun K' hK => h K' (fun a w hS => hK a w (hS.imp (fun hS => ⟨hS.1, heldEx_nil (held_of_planX hO hs hnd hQ r fuel _ [] S a w (hcl.add hc) (by simpa [PTr.depth] using hf) hp hS.2)⟩) (fun hS => ⟨hS.1, heldEx_nil (held_of_planX hO hs hnd hQ r fuel _ [] _ a w (hcl.add hc) (by simpa [PTr.depth] using hf) hp hS.2)⟩))))
  | .alt i r s, fuel + 1, listed, ex, S, a, w, hcl, hf, hp, ⟨⟨o, ho, h⟩, h2⟩ => by
    simp only [okTrX, Bool.and_eq_true] at hp
    obtain ⟨⟨hc, hp1⟩, hp2⟩ := hp
    have hc : i ∈ Region.ready .any l.toArray listed := by simpa using hc
    simp only [PTr.depth] at hf
    have hrest := held_of_planX hO hs hnd hQ s (fuel + 1) listed (i :: ex) S a w hcl (by omega) hp2 h2
    refine ⟨hrest.1, fun k hk hkx => ?_⟩
    by_cases hki : k = i
    · subst hki
      exact wpOpIn_step (nth_ops ho) (fun K' hK => h K' (fun a w hS => hK a w (hS.imp (fun hS => ⟨hS.1, heldEx_nil (held_of_planX hO hs hnd hQ r fuel _ [] S a w (hcl.add hc) (by omega) hp1 hS.2)⟩) (fun hS => ⟨hS.1, heldEx_nil (held_of_planX hO hs hnd hQ r fuel _ [] _ a w (hcl.add hc) (by omega) hp1 hS.2)⟩))))
    · exact hrest.2 k hk (by simp [hki, hkx])
  | .fk i j r s, fuel + 1, listed, ex, S, a, w, hcl, hf, hp, ⟨⟨o, ho, h⟩, ⟨o2, ho2, h2⟩⟩ => by
    simp only [okTrX, Bool.and_eq_true, beq_iff_eq] at hp
    obtain ⟨⟨hr, hp1⟩, hp2⟩ := hp
    have hf' : max r.depth s.depth ≤ fuel := by simpa [PTr.depth] using hf
    refine ⟨fun h0 => (by rw [hr] at h0; cases h0), fun k hk _ => ?_⟩
    rw [hr] at hk
    rcases List.mem_cons.1 hk with rfl | hk
    · exact wpOpIn_step (nth_ops ho) (fun K' hK => h K' (fun a w hS => hK a w (hS.imp (fun hS => ⟨hS.1, heldEx_nil (held_of_planX hO hs hnd hQ r fuel _ [] S a w (hcl.add (by rw [hr]; simp)) (by omega) hp1 hS.2)⟩) (fun hS => ⟨hS.1, heldEx_nil (held_of_planX hO hs hnd hQ r fuel _ [] _ a w (hcl.add (by rw [hr]; simp)) (by omega) hp1 hS.2)⟩))))
    · obtain rfl : k = j := by simpa using hk
      exact wpOpIn_step (nth_ops ho2) (fun K' hK => h2 K' (fun a w hS => hK a w (hS.imp (fun hS => ⟨hS.1, heldEx_nil (held_of_planX hO hs hnd hQ s fuel _ [] S a w (hcl.add (by rw [hr]; simp)) (by omega) hp2 hS.2)⟩) (fun hS => ⟨hS.1, heldEx_nil (held_of_planX hO hs hnd hQ s fuel _ [] _ a w (hcl.add (by rw [hr]; simp)) (by omega) hp2 hS.2)⟩))))
theorem held_of_planT {n : Nat} {Q : Exit → Act → World → Prop} (hO : Open F) {l : List Oper} (hs : Region.noSelect l.toArray = true) (hnd : noDefer l.toArray = true) (hQ : ∀ c a t v w, Q (.panic c) (Act.put a (some t) v) w → Q (.panic c) a w)
    (t : PTr) (fuel : Nat) (listed : Array Bool) (S : World → Prop) (a : Act) (w : World) (hcl : Closed .any l.toArray listed) (hf : t.depth ≤ fuel) (hp : okTr l.toArray t listed = true) (h : planT F n P l (lastG .any l.toArray) Q t S a w) : anyHeldG F n P .any l.toArray Q fuel S listed a w :=
  heldEx_nil (held_of_planX hO hs hnd hQ t fuel listed [] S a w hcl hf hp h)

theorem on_sound (hO : Open F) {ops : List Oper} {lst : Nat → Bool} {Q : Exit → Act → World → Prop} {i : Nat} {L : Bool} {ao : AOp} {Kx : List Nat → AS → Prop} {S : World → Prop} {cont : (World → Prop) → Act → World → Prop} (ho : nth ops i = some o) (hao : cOper P mu nt ops o i false L = some ao)
    (hcont : ∀ S g' rho' R' rd' s' a' w', St E nt kc kn g' rho' R' s' a' w' → Kx rd' s' → (∀ w'', Agree g' w'' → (∀ id ∈ rd', ∀ b, rho'[id]? = some b → w''.heap[b]? = w'.heap[b]?) → S w'') → cont S a' w')
    (hcontL : L = true → lst i = true)
    (h : gstep (SemK P F) rd ao s Kx) (hSt : St E nt kc kn g rho R s a w) (hS : ∀ w', Agree g w' → (∀ id ∈ rd, ∀ b, rho[id]? = some b → w'.heap[b]? = w.heap[b]?) → S w') : onT F 0 P ops lst Q S i cont a w := by
  obtain ⟨k, gd, hk, hg, hd, htk, rfl⟩ := cOper_spec hao
  have hSw : S w := hS w hSt.inv.agree (fun _ _ _ _ => rfl)
  have skip : ∀ s : AS, St E nt kc kn g rho R s a w → Region.wanted o (yielded ops.toArray a.tmps) = false → Kx rd (s.put o.dst (.p .und)) → onT F 0 P ops lst Q S i cont a w := fun s hSt hw h => by
    have hSt' := hSt.put hSt.inv (GP.le.refl g) (Pre.refl rho) rfl (.p .und) hd
    exact ⟨o, ho, fun K hK => by rw [if_neg (by rw [hw]; simp)]; exact ⟨fun f _ => hO.fn f, hK _ _ (.inl ⟨hSw, hcont _ _ _ _ _ _ _ _ hSt' h hS⟩)⟩⟩
  have step : ∀ s : AS, St E nt kc kn g rho R s a w → Region.wanted o (yielded ops.toArray a.tmps) = true → stepQ (SemK P F) rd ⟨o.dst, k, gd, i, false, L⟩ s Kx → onT F 0 P ops lst Q S i cont a w := fun s hSt hw hq => by
    simp only [stepQ] at hq
    split at hq
    · rename_i hst
      split at hq
      · rename_i av hav
        obtain ⟨v, hv, hrun⟩ := still_ok hk hst hSt.inv hSt.tmps hav
        simp only [Bool.false_eq_true, if_false] at hq
        refine ⟨o, ho, fun K hK => ?_⟩
        rw [if_pos hw]
        refine wpIn_of_eff hO (cop_noDefer hk) (Rq := fun v' w' => v' = v ∧ w' = w) (.inl ⟨v, w, hrun w hSt.inv.agree (fun _ _ _ _ => rfl), rfl, rfl⟩) ?_
        rintro v' w' ⟨rfl, rfl⟩
        exact hK _ _ (.inl ⟨hSw, hcont _ _ _ _ _ _ _ _ (hSt.put hSt.inv (GP.le.refl g) (Pre.refl rho) rfl hv hd) hq hS⟩)
      · exact hq.elim
    · rename_i hst
      refine ⟨o, ho, fun K hK => ?_⟩
      rw [if_pos hw]
      refine wpIn_of_eff hO (cop_noDefer hk) (eff_ok hk (by simpa using hst) hSt.inv hSt.tmps hq) ?_
      rintro v w' ⟨av, g', rho', R', s', hI', hle, hpre, hrel, ht, keep, hK'⟩
      have hSt' := hSt.put hI' hle hpre ht hrel hd
      cases hL : L with
      | true =>
        rw [hL, cond_true] at hK'
        exact hK _ _ (.inr ⟨hcontL hL, hcont _ _ _ _ _ _ _ _ hSt' hK' (fun w' _ _ => trivial)⟩)
      | false =>
        rw [hL, cond_false] at hK'
        have hk2 := keep hL
        rw [hL, cond_false] at hk2
        have hSw' : S w' := hS w' (hI'.agree.mono hle) hk2
        exact hK _ _ (.inl ⟨hSw', hcont _ _ _ _ _ _ _ _ hSt' hK' (fun w2 hA2 hk3 => hS w2 (hA2.mono hle) (fun id hid b hb => (hk3 id hid b (hpre id b hb)).trans (hk2 id hid b hb)))⟩)
  unfold gstep at h
  split at h
  · rename_i hgn
    simp only at hgn
    subst hgn
    exact step s hSt (wanted_none hg _) h
  · rename_i d bb hgn
    simp only at hgn
    subst hgn
    obtain ⟨w1, w2⟩ := wanted_some hg hSt.tmps
    split at h
    · rename_i t htt
      have hw1 := w1 t htt
      by_cases e : t = bb
      · subst e
        exact step _ (hSt.know (c := .t d) htt) (by rw [hw1]; simp) (h.1 rfl)
      · have e' : t = !bb := by cases t <;> cases bb <;> simp_all
        rw [← e'] at h
        exact skip _ (hSt.know (c := .t d) htt) (by rw [hw1]; simpa using e) (h.2 rfl)
    · rename_i htt
      exact skip s hSt (w2 htt) h
    · exact h.elim
theorem tk_sound {ops : List Oper} {i : Nat} {ao : AOp} {Kx : List Nat → AS → Prop} {S : World → Prop} {cont : (World → Prop) → Act → World → Prop} (ho : nth ops i = some o) (hao : cOper P mu nt ops o i true false = some ao)
    (hcont : ∀ rd' s' a' (S' : World → Prop), St E nt kc kn g rho R s' a' w → Kx rd' s' → (∀ w'', Agree g w'' → (∀ id ∈ rd', ∀ b, rho[id]? = some b → w''.heap[b]? = w.heap[b]?) → S' w'') → cont S' a' w)
    (h : gstep (SemK P F) rd ao s Kx) (hSt : St E nt kc kn g rho R s a w) (hS : ∀ w', Agree g w' → (∀ id ∈ rd, ∀ b, rho[id]? = some b → w'.heap[b]? = w.heap[b]?) → S w') :
    ∃ o v, ∃ S' : World → Prop, nth ops i = some o ∧ (∀ w, S' w → S w) ∧ S' w ∧ YieldsIf P ops.toArray S' o v a ∧ cont S' (a.put o.dst v) w := by
  obtain ⟨k, gd, hk, hg, hd, htk, rfl⟩ := cOper_spec hao
  have hSw : S w := hS w hSt.inv.agree (fun _ _ _ _ => rfl)
  have skip : ∀ s : AS, St E nt kc kn g rho R s a w → Region.wanted o (yielded ops.toArray a.tmps) = false → Kx rd (s.put o.dst (.p .und)) → ∃ o v, ∃ S' : World → Prop, nth ops i = some o ∧ (∀ w, S' w → S w) ∧ S' w ∧ YieldsIf P ops.toArray S' o v a ∧ cont S' (a.put o.dst v) w := fun s hSt hw h =>
    ⟨o, undef, S, ho, fun _ h => h, hSw, .inr ⟨hw, rfl⟩, hcont _ _ _ _ (hSt.put hSt.inv (GP.le.refl g) (Pre.refl rho) rfl (.p .und) hd) h hS⟩
  have step : ∀ s : AS, St E nt kc kn g rho R s a w → Region.wanted o (yielded ops.toArray a.tmps) = true → stepQ (SemK P F) rd ⟨o.dst, k, gd, i, true, false⟩ s Kx → ∃ o v, ∃ S' : World → Prop, nth ops i = some o ∧ (∀ w, S' w → S w) ∧ S' w ∧ YieldsIf P ops.toArray S' o v a ∧ cont S' (a.put o.dst v) w := fun s hSt hw hq => by
    simp only [stepQ] at hq
    split at hq
    · rename_i hst
      split at hq
      · rename_i av hav
        obtain ⟨v, hv, hrun⟩ := still_ok hk hst hSt.inv hSt.tmps hav
        simp only [if_true] at hq
        exact ⟨o, v, fun w' => S w' ∧ Agree g w' ∧ ∀ id ∈ rdOf s k, ∀ b, rho[id]? = some b → w'.heap[b]? = w.heap[b]?, ho, fun _ h => h.1, ⟨hSw, hSt.inv.agree, fun _ _ _ _ => rfl⟩, .inl ⟨hw, fun w' hw' => hrun w' hw'.2.1 hw'.2.2⟩,
          hcont _ _ _ _ (hSt.put hSt.inv (GP.le.refl g) (Pre.refl rho) rfl hv hd) hq (fun w' hA hk => ⟨hS w' hA (fun id hid => hk id (List.mem_append_right _ hid)), hA, fun id hid => hk id (List.mem_append_left _ hid)⟩)⟩
      · exact hq.elim
    · rename_i hst
      rw [htk rfl] at hst; cases hst
  unfold gstep at h
  split at h
  · rename_i hgn
    simp only at hgn
    subst hgn
    exact step s hSt (wanted_none hg _) h
  · rename_i d bb hgn
    simp only at hgn
    subst hgn
    obtain ⟨w1, w2⟩ := wanted_some hg hSt.tmps
    split at h
    · rename_i t htt
      have hw1 := w1 t htt
      by_cases e : t = bb
      · subst e
        exact step _ (hSt.know (c := .t d) htt) (by rw [hw1]; simp) (h.1 rfl)
      · have e' : t = !bb := by cases t <;> cases bb <;> simp_all
        rw [← e'] at h
        exact skip _ (hSt.know (c := .t d) htt) (by rw [hw1]; simpa using e) (h.2 rfl)
    · rename_i htt
      exact skip s hSt (w2 htt) h
    · exact h.elim
theorem tree_sound (hO : Open F) {ops : List Oper} {lst : Nat → Bool} {QA : AEx → AS → Prop} :
    ∀ (t : PTr) (at_ : AT) (rd : List Nat) (S : World → Prop) (g : GP) (rho : List Nat) (R : Nat → Prop) (s : AS) (a : Act) (w : World),
      cTree P mu nt ops lst t = some at_ → execT (SemK P F) at_ rd QA s → St E nt kc kn g rho R s a w →
      (∀ w', Agree g w' → (∀ id ∈ rd, ∀ b, rho[id]? = some b → w'.heap[b]? = w.heap[b]?) → S w') →
      planT F 0 P ops lst (okN (PostQ E nt kc QA)) t S a w
  | .fin, at_, rd, S, g, rho, R, s, a, w, hc, h, hSt, _ => by
    simp only [cTree, Option.some.injEq] at hc
    subst hc
    exact ⟨kn, g, rho, R, s, hSt, h⟩
  | .tk i r, at_, rd, S, g, rho, R, s, a, w, hc, h, hSt, hS => by
    simp only [cTree] at hc
    split at hc
    · rename_i o ho
      split at hc
      · rename_i ao al hao hal
        simp only [Option.some.injEq] at hc
        subst hc
        exact tk_sound (cont := planT F 0 P ops lst (okN (PostQ E nt kc QA)) r) ho hao (fun rd' s' a' S' h1 h2 h3 => tree_sound hO r al rd' S' g rho R s' a' w hal h2 h1 h3) h hSt hS
      · cases hc
    · cases hc
  | .on i r, at_, rd, S, g, rho, R, s, a, w, hc, h, hSt, hS => by
    simp only [cTree] at hc
    split at hc
    · rename_i o ho
      split at hc
      · rename_i ao al hao hal
        simp only [Option.some.injEq] at hc
        subst hc
        exact on_sound hO ho hao (fun S g' rho' R' rd' s' a' w' h1 h2 h3 => tree_sound hO r al rd' S g' rho' R' s' a' w' hal h2 h1 h3) (fun hl => hl) h hSt hS
      · cases hc
    · cases hc
  | .fk i j r r2, at_, rd, S, g, rho, R, s, a, w, hc, h, hSt, hS => by
    simp only [cTree] at hc
    split at hc
    · rename_i o o2 ho ho2
      split at hc
      · rename_i ao al ao2 al2 hao hal hao2 hal2
        simp only [Option.some.injEq] at hc
        subst hc
        exact ⟨on_sound hO ho hao (fun S g' rho' R' rd' s' a' w' h1 h2 h3 => tree_sound hO r al rd' S g' rho' R' s' a' w' hal h2 h1 h3) (fun hl => by cases hl) h.1 hSt hS,
          on_sound hO ho2 hao2 (fun S g' rho' R' rd' s' a' w' h1 h2 h3 => tree_sound hO r2 al2 rd' S g' rho' R' s' a' w' hal2 h2 h1 h3) (fun hl => by cases hl) h.2 hSt hS⟩
      · cases hc
    · cases hc
  | .alt i r r2, at_, rd, S, g, rho, R, s, a, w, hc, h, hSt, hS => by
    simp only [cTree] at hc
    split at hc
    · rename_i o ho
      split at hc
      · rename_i ao al al2 hao hal hal2
        simp only [Option.some.injEq] at hc
        subst hc
        exact ⟨on_sound hO ho hao (fun S g' rho' R' rd' s' a' w' h1 h2 h3 => tree_sound hO r al rd' S g' rho' R' s' a' w' hal h2 h1 h3) (fun hl => by cases hl) h.1 hSt hS,
          tree_sound hO r2 al2 rd S g rho R s a w hal2 h.2 hSt hS⟩
      · cases hc
    · cases hc
end
end Go.Proofs.YtlbolnlcncjijaaGreat
namespace Go.Proofs.YtlbolnlcncjijaaGreat
open Go.RowKit Go.Shelf

def GP.yc (g : GP) (y : Nat) : GP := { g with yl := y }
theorem GP.le.yc {g g' : GP} (h : g.le g') (y : Nat) : (g.yc y).le (g'.yc y) := ⟨h.frz, h.tok, rfl⟩
theorem Agree.yc {g : GP} {w : World} (h : Agree g w) (y : Nat) : Agree (g.yc y) w := ⟨h.frz, h.fin⟩
theorem Agree.ofYc {g : GP} {w : World} {y : Nat} (h : Agree (g.yc y) w) : Agree g w := ⟨h.frz, h.fin⟩

theorem noYL_spec : ∀ {l : List PV}, noY.noYL l = true → ∀ x ∈ l, noY x = true
  | [], _, x, hx => by cases hx
  | y :: l, h, x, hx => by
    simp only [noY.noYL, Bool.and_eq_true] at h
    rcases List.mem_cons.1 hx with rfl | hx
    · exact h.1
    · exact noYL_spec h.2 x hx
theorem noYR_spec : ∀ {l : List (List PV)}, noY.noYR l = true → ∀ x ∈ l, noY.noYL x = true
  | [], _, x, hx => by cases hx
  | y :: l, h, x, hx => by
    simp only [noY.noYR, Bool.and_eq_true] at h
    rcases List.mem_cons.1 hx with rfl | hx
    · exact h.1
    · exact noYR_spec h.2 x hx

theorem noYM_spec : ∀ {l : List (PV × PV)}, noY.noYM l = true → ∀ x ∈ l, noY x.1 = true ∧ noY x.2 = true
  | [], _, x, hx => by cases hx
  | (y, z) :: l, h, x, hx => by
    simp only [noY.noYM, Bool.and_eq_true] at h
    rcases List.mem_cons.1 hx with rfl | hx
    · exact h.1
    · exact noYM_spec h.2 x hx
theorem SK.ok.yc {g : GP} {k : SK} {a : Option Addr} {n c : Nat} (h : k.ok g a n c) (y : Nat) : k.ok (g.yc y) a n c := by
  cases k <;> exact h
theorem RelP.yc {g : GP} {x : PV} {v : Value} (h : RelP g x v) (y : Nat) : noY x = true → RelP (g.yc y) x v := by
  induction h with
  | any v => exact fun _ => .any v
  | val v h => exact fun _ => .val v h
  | agg cs vs hl h1 _ ih =>
    intro hn
    simp only [noY] at hn
    exact .agg cs vs hl h1 (fun i x v hx hv => ih i x v hx hv (noYL_spec hn x (List.mem_of_getElem? hx)))
  | tup cs vs hl _ ih =>
    intro hn
    simp only [noY] at hn
    exact .tup cs vs hl (fun i x v hx hv => ih i x v hx hv (noYL_spec hn x (List.mem_of_getElem? hx)))
  | sl k sz es a n c f hl hn hc hm hk hz hat _ ih =>
    intro hno
    simp only [noY] at hno
    exact .sl k sz es a n c f hl hn hc hm (hk.yc y) hz hat (fun i j e x he hx => ih i j e x he hx (noYL_spec (noYR_spec hno e (List.mem_of_getElem? he)) x (List.mem_of_getElem? hx)))
  | ptr cs off b o f hat _ ih =>
    intro hno
    simp only [noY] at hno
    exact .ptr cs off b o f hat (fun j x hx => ih j x hx (noYL_spec hno x (List.mem_of_getElem? hx)))
  | nilp => exact fun _ => .nilp
  | und => exact fun _ => .und
  | clo f fi cap vf vc hl hl2 _ _ ih ih2 =>
    intro hno
    simp only [noY, Bool.and_eq_true] at hno
    exact .clo f fi cap vf vc hl hl2 (fun i x v hx hv => ih i x v hx hv (noYL_spec hno.1 x (List.mem_of_getElem? hx))) (fun i x v hx hv => ih2 i x v hx hv (noYL_spec hno.2 x (List.mem_of_getElem? hx)))
  | yld => intro hno; simp [noY] at hno
  | mpf es b ents hl hat _ _ ih ih2 =>
    intro hno
    simp only [noY] at hno
    exact .mpf es b ents hl hat (fun i x e hx he => ih i x e hx he (noYM_spec hno x (List.mem_of_getElem? hx)).1) (fun i x e hx he => ih2 i x e hx he (noYM_spec hno x (List.mem_of_getElem? hx)).2)

def Bc (g : GP) (rho : List Nat) (live ks : List Nat) (b : Nat) : Prop :=
  (∃ id : Nat, rho[id]? = some b) ∨ (∃ t ∈ live, ∃ v e sz, g.tok t = some (v, e, sz) ∧ rowB v = some b) ∨ b ∈ ks

section
variable {P : Program} {F : Fence} {E : Env P F} {g g' : GP} {rho ks kc kn : List Nat} {R O : Nat → Prop} {loc : List ABlk} {live : List Nat} {ys : Option (List (List PV))} {w w' : World} {s : AS} {a : Act} {nt : Nat}

theorem Inv.bc (h : Inv E g rho R ks loc live ys w) {b : Nat} (hb : Bc g rho live ks b) : E.n0 ≤ b ∧ b < w.heap.size ∧ ¬ R b := by
  rcases hb with ⟨id, h1⟩ | ⟨t, ht, v, e, sz, h1, h2⟩ | h1
  · exact h.rlt id b h1
  · obtain ⟨v', e', sz', h3, h4⟩ := h.toks t ht
    rw [h1] at h3
    simp only [Option.some.injEq, Prod.mk.injEq] at h3
    obtain ⟨rfl, rfl, rfl⟩ := h3
    obtain ⟨n, xs, h5, _⟩ := h4 b h2
    obtain ⟨h6, h7⟩ := h5.lt b (rowB_own h2 h5)
    exact ⟨h6, h7, (h.tdis t ht v e sz b h1 h2).1.2⟩
  · obtain ⟨h2, h3, h4⟩ := h.marks b h1
    exact ⟨h2, (Array.getElem?_eq_some_iff.1 h4).1, h3⟩

theorem Inv.keepO (h : Inv E g rho R ks loc live ys w) (hs : OwnStep E.n0 R O g g' w w') (hO : ∀ b, Bc g rho live ks b → ¬ O b) : Inv E g' rho R ks loc live ys w' := by
  have hg := hs.gle
  have hk : ∀ b, Bc g rho live ks b → w'.heap[b]? = w.heap[b]? := fun b hb => hs.block b (h.bc hb).2.1 (hO b hb)
  have hn : ∀ b o, Bc g rho live ks b → g'.frz b o = g.frz b o := fun b o hb => hs.frz b o (h.bc hb).2.1 (hO b hb)
  have hz := hs.size
  have tok : ∀ t ∈ live, g'.tok t = g.tok t := fun t ht => by
    obtain ⟨v, e, sz, h1, _⟩ := h.toks t ht
    rw [h1]; exact hg.tok _ _ h1
  refine ⟨hs.agree, E.stab _ _ _ _ _ _ _ h.fr hs, Nat.le_trans h.low hz, h.len, ?_, ?_, ?_, h.dis, ?_, ?_, h.nodup, fun k hk => Nat.lt_of_lt_of_le (h.rsz k hk) hz, h.ksnd, ?_⟩
  · intro id k b h1 h2
    exact (h.locs id k b h1 h2).keep hg (Pre.refl _) (fun _ => hk b (.inl ⟨id, h2⟩))
  · intro id b h1
    obtain ⟨h2, h3, h4⟩ := h.rlt id b h1
    exact ⟨h2, Nat.lt_of_lt_of_le h3 hz, h4⟩
  · intro id cs b h1 hmn h2 o ho
    exact (hn b o (.inl ⟨id, h2⟩)).trans (h.own id cs b h1 hmn h2 o ho)
  · intro t ht
    obtain ⟨v, e, sz, h1, h2⟩ := h.toks t ht
    refine ⟨v, e, sz, hg.tok _ _ h1, fun b hb' => ?_⟩
    obtain ⟨n, xs, h3, h4⟩ := h2 b hb'
    have hbc : Bc g rho live ks b := .inr (.inl ⟨t, ht, v, e, sz, h1, hb'⟩)
    exact ⟨n, xs, ownsRow_keep h3 (fun b' hb2 => by rw [rowB_own hb' h3] at hb2; simp only [Option.some.injEq] at hb2; subst hb2; exact hk b hbc), fun o ho => (hn b o hbc).trans (h4 o ho)⟩
  · intro t ht v e sz b h1 h2
    rw [tok t ht] at h1
    obtain ⟨h3, h4⟩ := h.tdis t ht v e sz b h1 h2
    refine ⟨h3, fun t' ht' v' e' sz' h5 h6 => ?_⟩
    rw [tok t' ht'] at h5
    exact h4 t' ht' v' e' sz' h5 h6
  · intro k hk'
    obtain ⟨h1, h2, h3⟩ := h.marks k hk'
    exact ⟨h1, h2, (hk k (.inr (.inr hk'))).trans h3⟩
theorem Bc.grow (h : Inv E g rho R ks loc live ys w) (hg : g.le g') {b : Nat} (hb : Bc g' rho live ks b) : Bc g rho live ks b := by
  rcases hb with h1 | ⟨t, ht, v, e, sz, h1, h2⟩ | h1
  · exact .inl h1
  · obtain ⟨v', e', sz', h3, _⟩ := h.toks t ht
    have h4 := hg.tok _ _ h3
    rw [h1] at h4
    simp only [Option.some.injEq, Prod.mk.injEq] at h4
    obtain ⟨rfl, rfl, rfl⟩ := h4
    exact .inr (.inl ⟨t, ht, v, e, sz, h3, h2⟩)
  · exact .inr (.inr h1)
theorem Inv.unmark {k1 : List Nat} (h : Inv E g rho R (k1 ++ ks) loc live ys w) : Inv E g rho R ks loc live ys w :=
  ⟨h.agree, h.fr, h.low, h.len, h.locs, h.rlt, h.own, h.dis, h.toks, h.tdis, h.nodup, h.rsz, (List.nodup_append.1 h.ksnd).2.1, fun k hk => h.marks k (List.mem_append_right _ hk)⟩

def loopΦ (E : Env P F) (nt : Nat) (kc kn : List Nat) (a : Act) (y0 n1 l : Nat) (rec : LoopState → Option Code → Loop) (I : Nat → AS → Prop) (xs : List (List PV)) (QE : Code → AS → Prop) (R : Nat → Prop) (ys : Option (List (List PV))) (g : GP) (w : World) : Prop :=
  g.yl = l ∧ n1 ≤ w.heap.size ∧ ∃ rho Rc s, St E nt kc kn (g.yc y0) rho Rc s a w ∧ (∀ b, Bc (g.yc y0) rho s.live (kn ++ kc) b → (b < n1 ∨ R b) ∧ b ≠ l) ∧ (∀ k, Rc k → (k < n1 ∨ R k) ∧ k ≠ l) ∧
    ((∃ i, i ≤ xs.length ∧ ys = some (xs.drop i) ∧ I i s ∧ w.heap[l]? = some (.loop (rec .ready none))) ∨ (ys = none ∧ ∃ c, w.heap[l]? = some (.loop (rec .done (some c))) ∧ QE c s))

theorem OwnStep.yc {n0 : Nat} (h : OwnStep n0 R O g g' w w') (y : Nat) : OwnStep n0 R O (g.yc y) (g'.yc y) w w' := ⟨h.gle.yc y, h.agree.yc y, h.os, h.tape, h.output, h.size, h.own, h.block, h.frz⟩
theorem OwnStep.to {n0 n1 : Nat} {R1 : Nat → Prop} (h : OwnStep n1 R1 O g g' w w') (hO : ∀ k, O k → n0 ≤ k ∧ ¬ R k) : OwnStep n0 R O g g' w w' := ⟨h.gle, h.agree, h.os, h.tape, h.output, h.size, hO, h.block, h.frz⟩
theorem St.keepO {rho : List Nat} {R : Nat → Prop} (h : St E nt kc kn g rho R s a w) (hs : OwnStep E.n0 R O g g' w w') (hO : ∀ b, Bc g rho s.live (kn ++ kc) b → ¬ O b) : St E nt kc kn g' rho R s a w' :=
  ⟨h.inv.keepO hs hO, fun j => (h.tmps j).mono hs.gle (Pre.refl _), h.size, h.defers, h.gle.trans hs.gle, h.pre, h.bse⟩

theorem loopΦ_stab {a : Act} {y0 n1 l : Nat} (hn1 : E.n0 ≤ n1) (hl : l < n1) {rec : LoopState → Option Code → Loop} {I : Nat → AS → Prop} {xs : List (List PV)} {QE : Code → AS → Prop} (R O : Nat → Prop) (ys : Option (List (List PV))) (g g' : GP) (w w' : World)
    (h : loopΦ E nt kc kn a y0 n1 l rec I xs QE R ys g w) (hs : OwnStep n1 R O g g' w w') : loopΦ E nt kc kn a y0 n1 l rec I xs QE R ys g' w' := by
  obtain ⟨h1, h2, rho, Rc, s, hSt, hB, hR, hc⟩ := h
  have hOB : ∀ b, Bc (g.yc y0) rho s.live (kn ++ kc) b → ¬ O b := fun b hb ho => by
    rcases (hB b hb).1 with h | h
    · have := (hs.own b ho).1; omega
    · exact (hs.own b ho).2 h
  have hs2 : OwnStep E.n0 Rc O (g.yc y0) (g'.yc y0) w w' := (hs.yc y0).to (fun k hk => ⟨Nat.le_trans hn1 (hs.own k hk).1, fun hr => by
    rcases (hR k hr).1 with h | h
    · have := (hs.own k hk).1; omega
    · exact (hs.own k hk).2 h⟩)
  have hlw : w'.heap[l]? = w.heap[l]? := hs.block l (by omega) (fun ho => by have := (hs.own l ho).1; omega)
  refine ⟨hs.gle.yl.trans h1, Nat.le_trans h2 hs.size, rho, Rc, s, hSt.keepO hs2 hOB, fun b hb => hB b (Bc.grow hSt.inv hs2.gle hb), hR, ?_⟩
  rw [hlw]
  exact hc

def Itb (n1 : Nat) (R : Nat → Prop) (wy : World) (k : Nat) : Prop := n1 ≤ k ∧ k < wy.heap.size ∧ ¬ R k
def rndΦ (E : Env P F) (n1 l : Nat) (r : Loop) (R : Nat → Prop) (wy : World) (gy : GP) (R2 : Nat → Prop) (ys : Option (List (List PV))) (g : GP) (w : World) : Prop :=
  wy.heap.size ≤ w.heap.size ∧ ∃ Rc : Nat → Prop, E.Φ Rc ys g w ∧ (∀ k, R2 k ↔ (Rc k ∨ Itb n1 R wy k ∨ k = l)) ∧ (∀ k, Rc k → k ≠ l ∧ ¬ Itb n1 R wy k) ∧ w.heap[l]? = some (.loop r) ∧ (∀ k, Itb n1 R wy k → w.heap[k]? = wy.heap[k]? ∧ ∀ o, g.frz k o = gy.frz k o)
def rndE (E : Env P F) (gs : GP) (rhos : List Nat) (n1 l : Nat) (hn1 : E.n0 ≤ n1) (hl : E.n0 ≤ l) (r : Loop) (R : Nat → Prop) (wy : World) (gy : GP) (hlw : l < wy.heap.size) : Env P (F.inRound l) where
  n0 := E.n0
  g0 := gs
  rho0 := rhos
  Φ := rndΦ E n1 l r R wy gy
  stab := fun R2 O ys g g' w w' ⟨h1, Rc, h2, h3, h4, h5, h6⟩ hs => by
    have hO : ∀ k, O k → E.n0 ≤ k ∧ ¬ Rc k := fun k hk => ⟨(hs.own k hk).1, fun h => (hs.own k hk).2 ((h3 k).2 (.inl h))⟩
    refine ⟨Nat.le_trans h1 hs.size, Rc, E.stab Rc O ys g g' w w' h2 (hs.to hO), h3, h4, ?_, fun k hk => ?_⟩
    · rw [hs.block l (by omega) (fun ho => (hs.own l ho).2 ((h3 l).2 (.inr (.inr rfl))))]
      exact h5
    · have hno : ¬ O k := fun ho => (hs.own k ho).2 ((h3 k).2 (.inr (.inl hk)))
      have hk2 := hk.2.1
      exact ⟨(hs.block k (by omega) hno).trans (h6 k hk).1, fun o => (hs.frz k o (by omega) hno).trans ((h6 k hk).2 o)⟩
  yld := fun R2 y ll g w us ⟨h1, Rc, h2, h3, h4, h5, h6⟩ hA ha hR2 => by
    have hRc : ∀ k, Rc k → k < w.heap.size := fun k hk => hR2 k ((h3 k).2 (.inl hk))
    obtain ⟨fn, tmps, assign, body, hy, hR⟩ := E.yld Rc y ll g w us h2 hA ha hRc
    refine ⟨fn, tmps, assign, body, hy, ?_⟩
    show RoundIn F 0 P _ _ _ _ _ _ _
    refine hR.mono ?_
    rintro e w' ⟨R', g', m1, m2, m3, m4, m5, m6, m7⟩
    have hI : ∀ k, Itb n1 R wy k → w'.heap[k]? = wy.heap[k]? ∧ ∀ o, g'.frz k o = gy.frz k o := fun k hk => by
      obtain ⟨q1, q2, q3⟩ := hk
      obtain ⟨q4, q5⟩ := m6 k (by omega) (by omega) (fun hr => (h4 k hr).2 ⟨q1, q2, q3⟩)
      exact ⟨q4.trans (h6 k ⟨q1, q2, q3⟩).1, fun o => (q5 o).trans ((h6 k ⟨q1, q2, q3⟩).2 o)⟩
    have hlk : w'.heap[l]? = some (.loop r) := (m6 l (by omega) hl (fun hr => (h4 l hr).1 rfl)).1.trans h5
    have hsep : ∀ k, R' k → k ≠ l ∧ ¬ Itb n1 R wy k := fun k hk => by
      rcases m3 k hk with h | h
      · exact h4 k h
      · exact ⟨fun e => by omega, fun hi => by have := hi.2.1; omega⟩
    refine ⟨fun k => R' k ∨ Itb n1 R wy k ∨ k = l, g', m1, m2, fun k hk => ?_, fun k hk => ?_, m5, fun k k1 k2 k3 => m6 k k1 k2 (fun hr => k3 ((h3 k).2 (.inl hr))), ?_⟩
    · rcases hk with hk | hk
      · rcases m3 k hk with h | h
        · exact .inl ((h3 k).2 (.inl h))
        · exact .inr h
      · exact .inl ((h3 k).2 (.inr hk))
    · rcases hk with hk | hk | hk
      · exact m4 k hk
      · have := hk.2.1; omega
      · omega
    · rcases m7 with ⟨rfl, hΦ⟩ | ⟨rfl, hΦ⟩
      · exact .inl ⟨rfl, by omega, R', hΦ, fun k => Iff.rfl, hsep, hlk, hI⟩
      · exact .inr ⟨rfl, by omega, R', hΦ, fun k => Iff.rfl, hsep, hlk, hI⟩
end
end Go.Proofs.YtlbolnlcncjijaaGreat
namespace Go.Proofs.YtlbolnlcncjijaaGreat
open Go.RowKit Go.Shelf

section
variable {F : Fence} {P : Program} {E : Env P F} {g g' gs : GP} {rho rho' rd ks kc kn : List Nat} {R R' Rc : Nat → Prop} {loc : List ABlk} {live : List Nat} {ys : Option (List (List PV))} {w w' : World} {s s' : AS} {a : Act} {nt : Nat} {mu : Nat → Bool} {QA : AEx → AS → Prop}

theorem loL_spec {n : Nat} : ∀ {l : List AV}, AV.lo.loL n l = true → ∀ x ∈ l, x.lo n = true
  | [], _, x, hx => by cases hx
  | y :: l, h, x, hx => by
    simp only [AV.lo.loL, Bool.and_eq_true] at h
    rcases List.mem_cons.1 hx with rfl | hx
    · exact h.1
    · exact loL_spec h.2 x hx

theorem rel_cut_rho {x : AV} {v : Value} (h : Rel g rho x v) {m : Nat} (hl : x.lo m = true) : Rel g (rho.take m) x v := by
  induction h with
  | p h => exact .p h
  | loc h =>
    simp only [AV.lo, decide_eq_true_eq] at hl
    exact .loc (by rw [List.getElem?_take_of_lt hl]; exact h)
  | agg cs vs hlen h1 _ ih =>
    simp only [AV.lo] at hl
    exact .agg cs vs hlen h1 (fun i x v hx hv => ih i x v hx hv (loL_spec hl x (List.mem_of_getElem? hx)))
  | clo f fi cap vf vs hlen hlen2 _ _ ih ih2 =>
    simp only [AV.lo] at hl
    rw [Bool.and_eq_true] at hl
    exact .clo f fi cap vf vs hlen hlen2 (fun i x v hx hv => ih i x v hx hv (loL_spec hl.1 x (List.mem_of_getElem? hx))) (fun i x v hx hv => ih2 i x v hx hv (loL_spec hl.2 x (List.mem_of_getElem? hx)))
  | sli h hn hc hm =>
    simp only [AV.lo, decide_eq_true_eq] at hl
    exact .sli (by rw [List.getElem?_take_of_lt hl]; exact h) hn hc hm
  | tup cs vs hlen _ ih =>
    simp only [AV.lo] at hl
    exact .tup cs vs hlen (fun i x v hx hv => ih i x v hx hv (loL_spec hl x (List.mem_of_getElem? hx)))
  | mpl h =>
    simp only [AV.lo, decide_eq_true_eq] at hl
    exact .mpl (by rw [List.getElem?_take_of_lt hl]; exact h)

theorem wkT_spec {t : List (Nat × AV)} {n : Nat} : ∀ {l : List (Nat × AV)}, wkT t n l → ∀ j, look l j = .p .any ∨ (look l j = look t j ∧ (look l j).lo n = true)
  | [], _, j => .inl rfl
  | (i, v) :: l, h, j => by
    simp only [wkT] at h
    simp only [look]
    by_cases e : i = j
    · subst e
      simp only [beq_self_eq_true, cond_true]
      exact .inr ⟨h.1.1.symm, h.1.2⟩
    · rw [show (i == j) = false by simpa using e, cond_false]
      exact wkT_spec h.2 j

theorem wkL_spec {n : Nat} : ∀ {l r : List ABlk}, wkL n l r → r.length ≤ l.length ∧ ∀ (i : Nat) (c : ABlk), r[i]? = some c → c = .dead ∨ (∃ b, l[i]? = some b ∧ b.toZ c) ∨ (l[i]? = some c ∧ match c with | .cells cs => AV.lo.loL n cs = true | .half cs => AV.lo.loL n cs = true | .prz _ _ cs => AV.lo.loL n cs = true | .prt _ cs => AV.lo.loL n cs = true | _ => True)
  | l, [], _ => ⟨by simp, fun i c h => by simp at h⟩
  | [], _ :: _, h => h.elim
  | b :: l, c :: r, h => by
    simp only [wkL] at h
    obtain ⟨h1, h2⟩ := wkL_spec h.2
    refine ⟨by simpa using h1, fun i k hk => ?_⟩
    cases i with
    | zero =>
      simp only [List.getElem?_cons_zero, Option.some.injEq] at hk
      subst hk
      rcases h.1 with h3 | h3 | ⟨h3, h4⟩
      · exact .inl h3
      · exact .inr (.inl ⟨b, rfl, h3⟩)
      · subst h3; exact .inr (.inr ⟨rfl, h4⟩)
    | succ i => exact h2 i k (by simpa using hk)

theorem toZ_spec : ∀ {b c : ABlk}, b.toZ c → (∃ es, b = .mp es ∧ c = .mpz es) ∨ (∃ n cs, b = .cells cs ∧ c = .prz 0 n cs ∧ (pures cs).isSome = true) ∨ ∃ n m cs, b = .prt n cs ∧ c = .prz n m cs ∧ (pures cs).isSome = true
  | .mp es, .mpz es', h => .inl ⟨es, rfl, by rw [show es' = es from h]⟩
  | .cells cs, .prz n0 n cs', h => .inr (.inl ⟨n, cs, rfl, by rw [show cs' = cs from h.2.1, show n0 = 0 from h.1], h.2.2⟩)
  | .prt n cs, .prz n0 m cs', h => .inr (.inr ⟨n, m, cs, rfl, by rw [show cs' = cs from h.2.1, show n0 = n from h.1], h.2.2⟩)
  | .mp _, .cells _, h => h.elim
  | .mp _, .frz _, h => h.elim
  | .mp _, .dead, h => h.elim
  | .mp _, .mp _, h => h.elim
  | .mp _, .half _, h => h.elim
  | .mp _, .mfz _, h => h.elim
  | .mp _, .prz _ _ _, h => h.elim
  | .mp _, .prt _ _, h => h.elim
  | .cells _, .cells _, h => h.elim
  | .cells _, .frz _, h => h.elim
  | .cells _, .dead, h => h.elim
  | .cells _, .mp _, h => h.elim
  | .cells _, .half _, h => h.elim
  | .cells _, .mpz _, h => h.elim
  | .cells _, .mfz _, h => h.elim
  | .cells _, .prt _ _, h => h.elim
  | .prz _ _ _, _, h => h.elim
  | .prt _ _, .cells _, h => h.elim
  | .prt _ _, .frz _, h => h.elim
  | .prt _ _, .dead, h => h.elim
  | .prt _ _, .mp _, h => h.elim
  | .prt _ _, .half _, h => h.elim
  | .prt _ _, .mpz _, h => h.elim
  | .prt _ _, .mfz _, h => h.elim
  | .prt _ _, .prt _ _, h => h.elim
  | .frz _, _, h => h.elim
  | .dead, _, h => h.elim
  | .half _, _, h => h.elim
  | .mpz _, _, h => h.elim
  | .mfz _, _, h => h.elim
theorem St.weak' (h : St E nt kc kn g rho R s a w) (hw : Wk s s') : ∃ rho', St E nt kc kn g rho' R s' a w ∧ ∀ b, Bc g rho' s'.live (kn ++ kc) b → Bc g rho s.live (kn ++ kc) b := by
  obtain ⟨h1, h2, h3, h4, h0, hb1, hb2⟩ := hw
  obtain ⟨hl, hL⟩ := wkL_spec h2
  have hI := h.inv
  have hlen : (rho.take s'.loc.length).length = s'.loc.length := by rw [List.length_take, hI.len]; omega
  have get : ∀ {id b : Nat}, (rho.take s'.loc.length)[id]? = some b → rho[id]? = some b := fun hb => by
    rw [List.getElem?_take] at hb
    split at hb
    · exact hb
    · cases hb
  refine ⟨rho.take s'.loc.length, ⟨⟨hI.agree, by rw [h0]; exact hI.fr, hI.low, hlen, fun id k b hk hb => ?_, fun id b hb => hI.rlt id b (get hb), fun id cs b hk hmn hb => ?_, fun id id' b hb hb' => hI.dis id id' b (get hb) (get hb'), fun t ht => hI.toks t (h3 t ht), fun t ht v e sz b e1 e2 => ?_, h4, hI.rsz, hI.ksnd, hI.marks⟩, fun j => ?_, h.size, h.defers, h.gle, fun id b hb => ?_, by rw [hb1]; exact h.bse⟩, fun b hb => ?_⟩
  · rcases hL id k hk with rfl | ⟨b0, h5, h6⟩ | ⟨h5, h6⟩
    · trivial
    · rcases toZ_spec h6 with ⟨es, rfl, rfl⟩ | ⟨n, cs, rfl, rfl, h7⟩ | ⟨n, m, cs, rfl, rfl, h7⟩
      · exact hI.locs id _ b h5 (get hb)
      · obtain ⟨vs, us, t, hblk, hr⟩ := hI.locs id _ b h5 (get hb)
        obtain ⟨l, hl⟩ := Option.isSome_iff_exists.1 h7
        exact ⟨vs, us, t, hblk, by rw [pures_map hl]; exact (pures_relP hl hr).toRelL, fun j v hj => absurd hj (Nat.not_lt_zero j)⟩
      · obtain ⟨vs, us, t, hblk, hr, hf⟩ := hI.locs id _ b h5 (get hb)
        obtain ⟨l, hl⟩ := Option.isSome_iff_exists.1 h7
        exact ⟨vs, us, t, hblk, by rw [pures_map hl]; exact (pures_relP hl hr).toRelL, hf⟩
    · have := hI.locs id k b h5 (get hb)
      cases k with
      | cells cs =>
        obtain ⟨vs, us, t, hblk, hr⟩ := this
        exact ⟨vs, us, t, hblk, hr.len, hr.one, fun i x v hx hv => rel_cut_rho (hr.at_ i x v hx hv) (loL_spec h6 x (List.mem_of_getElem? hx))⟩
      | frz cs => exact this
      | mp es => exact this
      | mpz es => exact this
      | mfz es => exact this
      | prz n m cs =>
        obtain ⟨vs, us, t, hblk, hr, hf⟩ := this
        exact ⟨vs, us, t, hblk, ⟨hr.len, hr.one, fun i x v hx hv => rel_cut_rho (hr.at_ i x v hx hv) (loL_spec h6 x (List.mem_of_getElem? hx))⟩, hf⟩
      | prt n cs =>
        obtain ⟨vs, us, t, hblk, hr, hf⟩ := this
        exact ⟨vs, us, t, hblk, ⟨hr.len, hr.one, fun i x v hx hv => rel_cut_rho (hr.at_ i x v hx hv) (loL_spec h6 x (List.mem_of_getElem? hx))⟩, hf⟩
      | half cs =>
        obtain ⟨vs, us, t, hblk, hr, hf⟩ := this
        exact ⟨vs, us, t, hblk, ⟨hr.len, hr.one, fun i x v hx hv => rel_cut_rho (hr.at_ i x v hx hv) (loL_spec h6 x (List.mem_of_getElem? hx))⟩, hf⟩
      | dead => trivial
  · rcases hL id _ hk with h5 | ⟨b0, h5, h6⟩ | ⟨h5, h6⟩
    · subst h5; cases hmn
    · rcases toZ_spec h6 with ⟨es, rfl, rfl⟩ | ⟨n, cs, rfl, rfl, h7⟩ | ⟨n, m, cs, rfl, rfl, h7⟩
      · exact fun o _ => hI.own id _ b h5 rfl (get hb) o (Nat.zero_le _)
      · exact fun o _ => hI.own id _ b h5 rfl (get hb) o (Nat.zero_le _)
      · exact fun o ho => hI.own id _ b h5 rfl (get hb) o ho
    · exact hI.own id cs b h5 hmn (get hb)
  · obtain ⟨h5, h6⟩ := hI.tdis t (h3 t ht) v e sz b e1 e2
    exact ⟨⟨fun id hid => h5.1 id (get hid), h5.2⟩, fun t' ht' => h6 t' (h3 t' ht')⟩
  · rcases wkT_spec h1 j with h5 | ⟨h5, h6⟩
    · rw [h5]; exact .p (.any _)
    · have := h.tmps j
      rw [← h5] at this
      exact rel_cut_rho this h6
  · have hlt : id < E.rho0.length := (List.getElem?_eq_some_iff.1 hb).1
    rw [h.bse] at hlt
    rw [List.getElem?_take_of_lt (by omega)]
    exact h.pre id b hb
  · rcases hb with ⟨id, hb⟩ | ⟨t, ht, v, e, sz, e1, e2⟩ | hb
    · exact .inl ⟨id, get hb⟩
    · exact .inr (.inl ⟨t, h3 t ht, v, e, sz, e1, e2⟩)
    · exact .inr (.inr hb)
theorem St.weak (h : St E nt kc kn g rho R s a w) (hw : Wk s s') : ∃ rho', St E nt kc kn g rho' R s' a w := by
  obtain ⟨rho', h1, _⟩ := h.weak' hw
  exact ⟨rho', h1⟩

theorem Inv.reE {F' : Fence} {E' : Env P F'} (h : Inv E g rho R ks loc live ys w) (hn : E'.n0 = E.n0) (hfr : E'.Φ R' ys g w) (hno : ∀ b, Bc g rho live ks b → ¬ R' b) (hsz : ∀ k, R' k → k < w.heap.size) : Inv E' g rho R' ks loc live ys w := by
  refine ⟨h.agree, hfr, by rw [hn]; exact h.low, h.len, h.locs, fun id b h1 => ?_, h.own, h.dis, fun t ht => by rw [hn]; exact h.toks t ht, fun t ht v e sz b h1 h2 => ?_, h.nodup, hsz, h.ksnd, fun k hk => ?_⟩
  · obtain ⟨h2, h3, _⟩ := h.rlt id b h1
    exact ⟨by rw [hn]; exact h2, h3, hno b (.inl ⟨id, h1⟩)⟩
  · obtain ⟨⟨h3, _⟩, h4⟩ := h.tdis t ht v e sz b h1 h2
    exact ⟨⟨h3, hno b (.inr (.inl ⟨t, ht, v, e, sz, h1, h2⟩))⟩, h4⟩
  · obtain ⟨h1, _, h2⟩ := h.marks k hk
    exact ⟨by rw [hn]; exact h1, hno k (.inr (.inr hk)), h2⟩

def Env.inR (E : Env P F) (l : Nat) : Env P (F.inRound l) := ⟨E.n0, E.g0, E.rho0, E.Φ, E.stab, fun R y ll g w us h1 h2 h3 h4 => E.yld R y ll g w us h1 h2 h3 h4⟩
def Env.outR {l : Nat} (E : Env P (F.inRound l)) : Env P F := ⟨E.n0, E.g0, E.rho0, E.Φ, E.stab, fun R y ll g w us h1 h2 h3 h4 => E.yld R y ll g w us h1 h2 h3 h4⟩
theorem Inv.inR {l : Nat} (h : Inv E g rho R ks loc live ys w) : Inv (E.inR l) g rho R ks loc live ys w := ⟨h.agree, h.fr, h.low, h.len, h.locs, h.rlt, h.own, h.dis, h.toks, h.tdis, h.nodup, h.rsz, h.ksnd, h.marks⟩
theorem Inv.outR {l : Nat} {E : Env P (F.inRound l)} (h : Inv E g rho R ks loc live ys w) : Inv E.outR g rho R ks loc live ys w := ⟨h.agree, h.fr, h.low, h.len, h.locs, h.rlt, h.own, h.dis, h.toks, h.tdis, h.nodup, h.rsz, h.ksnd, h.marks⟩
theorem Inv.ofInR {l : Nat} (h : Inv (E.inR l) g rho R ks loc live ys w) : Inv E g rho R ks loc live ys w := ⟨h.agree, h.fr, h.low, h.len, h.locs, h.rlt, h.own, h.dis, h.toks, h.tdis, h.nodup, h.rsz, h.ksnd, h.marks⟩
theorem Inv.ofOutR {l : Nat} {E : Env P (F.inRound l)} (h : Inv E.outR g rho R ks loc live ys w) : Inv E g rho R ks loc live ys w := ⟨h.agree, h.fr, h.low, h.len, h.locs, h.rlt, h.own, h.dis, h.toks, h.tdis, h.nodup, h.rsz, h.ksnd, h.marks⟩
theorem semP_inRound (l : Nat) : SemP P (F.inRound l) = SemP P F := by
  funext f args rd K s
  refine propext ⟨fun h => ⟨h.1, fun E g rho R ks w vs hI ha => ?_⟩, fun h => ⟨h.1, fun E g rho R ks w vs hI ha => ?_⟩⟩
  · have := h.2 (E.inR l) g rho R ks w vs hI.inR ha
    show CallsIn F 0 P f vs.toArray w _
    refine CallsIn.mono (F := F) this ?_
    rintro e w' ⟨v, av, g', rho', R', loc', live', ys', h1, h2, h3⟩
    exact ⟨v, av, g', rho', R', loc', live', ys', h1, h2.ofInR, h3⟩
  · have := h.2 E.outR g rho R ks w vs hI.outR ha
    show CallsIn F 0 P f vs.toArray w _
    refine this.mono ?_
    rintro e w' ⟨v, av, g', rho', R', loc', live', ys', h1, h2, h3⟩
    exact ⟨v, av, g', rho', R', loc', live', ys', h1, h2.ofOutR, h3⟩
theorem iterC_inRound (l : Nat) : IterC P (F.inRound l) = IterC P F := by
  funext f args xs
  exact propext ⟨fun h => ⟨h.1, fun E => h.2 (E.inR l)⟩, fun h => ⟨h.1, fun E => h.2 E.outR⟩⟩
theorem semK_inRound (l : Nat) : SemK P (F.inRound l) = SemK P F := by
  unfold SemK
  rw [semP_inRound, iterC_inRound]
end
end Go.Proofs.YtlbolnlcncjijaaGreat
