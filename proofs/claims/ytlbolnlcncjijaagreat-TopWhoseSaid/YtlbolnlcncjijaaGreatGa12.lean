/- Contracts of functions, out of abstract code and into it. -/
import Derived.Test.YtlbolnlcncjijaaGreatGa11
namespace Go.Proofs.YtlbolnlcncjijaaGreat
open Go.RowKit Go.Shelf

def plainE (P : Program) (F : Fence) (n0 : Nat) (w0 : World) (g0 : GP) : Env P F where
  n0 := n0
  g0 := g0
  rho0 := []
  Φ := fun _ ys g w => ys = some [] ∧ n0 ≤ w.heap.size ∧ Below n0 w0 w ∧ g0.le g ∧ ∀ b, b < n0 → ∀ o, g.frz b o = g0.frz b o
  stab := fun R O ys g g' w w' ⟨h1, h2, h3, h4, h5⟩ hs => by
    have hk : ∀ k, k < n0 → ¬ O k := fun k hk ho => by have := (hs.own k ho).1; omega
    exact ⟨h1, Nat.le_trans h2 hs.size, ⟨hs.os.trans h3.os, hs.tape.trans h3.tape, hs.output.trans h3.output, Nat.le_trans h3.size hs.size, fun k hk' => (hs.block k (by omega) (hk k hk')).trans (h3.block k hk')⟩, h4.trans hs.gle, fun b hb o => (hs.frz b o (by omega) (hk b hb)).trans (h5 b hb o)⟩
  yld := fun R y l g w us ⟨h1, _⟩ => by cases h1

def SemC (P : Program) (f : FuncId) (args : List PV) (Q : PV → Prop) : Prop := Enters P f ∧ ∀ (g : GP) (w : World) (vs : List Value), Agree g w → ArgsP g args vs →
  Calls P f vs.toArray w fun e w' => ∃ v g' r, e = .returned v ∧ g.le g' ∧ Agree g' w' ∧ (∀ b o, b < w.heap.size → g'.frz b o = g.frz b o) ∧ RelP g' r v ∧ Q r ∧ Below w.heap.size w w'

theorem SemC.mono {P : Program} {f : FuncId} {args : List PV} {Q Q' : PV → Prop} (h : SemC P f args Q) (hr : ∀ r, Q r → Q' r) : SemC P f args Q' :=
  ⟨h.1, fun g w vs hA ha => (h.2 g w vs hA ha).mono fun _ _ ⟨v, g', r, h1, h2, h3, h4, h5, h6, h7⟩ => ⟨v, g', r, h1, h2, h3, h4, h5, hr r h6, h7⟩⟩

section
variable {F : Fence} {P : Program} {E : Env P F} {g g' : GP} {rho rd kc kn ks : List Nat} {R : Nat → Prop} {w w' : World} {loc : List ABlk} {live : List Nat} {ys : Option (List (List PV))} {s : AS} {a : Act} {nt : Nat}

theorem sem_pure (hO : Open F) {f : FuncId} {args : List AV} {l l2 : List PV} {L' : List ABlk} {Q : PV → Prop} {K : AV → AS → Prop} (hC : SemC P f l2 Q) (hp : purArgs s args = some (l, L')) (hle : PVleL l l2)
    (hK : ∀ r, Q r → K (.p r) { s with loc := L' }) : SemP P F f args rd K s := by
  refine ⟨hC.1, fun E g rho R ks w vs hI ha => ?_⟩
  obtain ⟨g1, h1, h2, h3⟩ := purV_ok hp hI
  refine hO.calls ((hC.2 g1 w vs h2.agree ((h3 vs ha).weak hle)).mono ?_)
  rintro e w' ⟨v, g2, r, rfl, k1, k2, k3, k4, k5, k6⟩
  have hI2 := h2.grow ⟨k1, k2, k6.os, k6.tape, k6.output, k6.size, fun _ h => h.elim, fun k hk _ => k6.block k hk, fun b o hb _ => k3 b o hb⟩
  exact ⟨v, .p r, g2, rho, R, L', s.live, s.ys, rfl, hI2, h1.trans k1, Pre.refl rho, .p k4, fun id _ b hb => k6.block b (h2.rlt id b hb).2.1, hK r k5⟩

def resA (P : Program) (s : AS) : List ResultVar → Option (List AV)
  | [] => some []
  | .tmp t :: l => (resA P s l).map (look s.t t :: ·)
  | .cell t ty :: l => match shapeN P ty with
    | some n => match stillV s (.ld n (.t t)), resA P s l with
      | some x, some r => some (x :: r)
      | _, _ => none
    | none => none
def tupP : List PV → PV
  | [x] => x
  | l => .tup l
def tupA : List AV → Option AV
  | [x] => some x
  | l => match pures l with
    | some r => some (.p (.tup r))
    | none => some (.tup l)
def retQ (P : Program) (rs : List ResultVar) (Q : PV → Prop) (s : AS) : Prop := ∃ avs l L' y, resA P s rs = some avs ∧ purArgs s avs = some (l, L') ∧ PVle (tupP l) y ∧ Q y
def retC (P : Program) (rs : List ResultVar) (Q : PV → Prop) : AEx → AS → Prop
  | .normal, s => retQ P rs Q s
  | .ret, s => retQ P rs Q s
  | .exit _, _ => False
def retK (P : Program) (rs : List ResultVar) (K : AV → AS → Prop) (s : AS) : Prop := ∃ avs v, resA P s rs = some avs ∧ tupA avs = some v ∧ K v s
def retG (P : Program) (rs : List ResultVar) (K : AV → AS → Prop) : AEx → AS → Prop
  | .normal, s => retK P rs K s
  | .ret, s => retK P rs K s
  | .exit _, _ => False

def resOne (tmps : Array Value) : ResultVar → Sem Value
  | .tmp t => pure (tmps.getD t undef)
  | .cell a t => do loadVar t (← asAddr (tmps.getD a undef))
theorem results_one (fn : Func) (tmps : Array Value) : results fn tmps = (do let vs ← fn.results.mapM (resOne tmps); pure (if h : vs.size = 1 then vs[0] else .tuple vs)) := by
  have e : (fun x : ResultVar => match x with | .tmp t => pure (tmps.getD t undef) | .cell a t => (do loadVar t (← asAddr (tmps.getD a undef)) : Sem Value)) = resOne tmps := by
    funext x; cases x <;> rfl
  unfold results
  exact congrArg (fun q : ResultVar → Sem Value => (do let vs ← fn.results.mapM q; pure (if h : vs.size = 1 then vs[0] else .tuple vs) : Sem Value)) e

theorem run_resA {ks : List Nat} : ∀ {rs : List ResultVar} {avs : List AV}, resA P s rs = some avs → Inv E g rho R ks s.loc s.live s.ys w → Tmps g rho s a →
    ∃ vs, (rs.mapM (resOne a.tmps)).run P w = .ok vs w ∧ ArgsRel g rho avs vs
  | [], avs, h, _, _ => by
    simp only [resA, Option.some.injEq] at h
    subst h
    exact ⟨[], by simp, rfl, fun i x v hx => by simp at hx⟩
  | .tmp t :: l, avs, h, hI, hT => by
    simp only [resA, Option.map_eq_some_iff] at h
    obtain ⟨r, hr, rfl⟩ := h
    obtain ⟨vs, h1, h2⟩ := run_resA hr hI hT
    refine ⟨a.tmps.getD t undef :: vs, by simp only [List.mapM_cons, Sem.run_bind, resOne, Sem.run_pure, Result.andThen_ok, h1], by simp [h2.len], fun i x v hx hv => ?_⟩
    cases i with
    | zero => simp at hx hv; subst hx; rw [← hv]; simpa using hT t
    | succ i => exact h2.at_ i x v (by simpa using hx) (by simpa using hv)
  | .cell t ty :: l, avs, h, hI, hT => by
    simp only [resA] at h
    split at h
    · rename_i n hn
      split at h
      · rename_i x r hx hr
        simp only [Option.some.injEq] at h
        subst h
        obtain ⟨vs, h1, h2⟩ := run_resA hr hI hT
        obtain ⟨o, ho⟩ : ∃ o : Oper, o.op = .load ty (.tmp t) := ⟨{ (default : Oper) with op := .load ty (.tmp t) }, rfl⟩
        obtain ⟨v, hv, hrun⟩ := still_ld (P := P) ho hn (y := .t t) rfl hT hI.agree hI.locs hx
        have hr1 := hrun w hI.agree (fun _ _ _ _ => rfl)
        have hl : (do loadVar ty (← asAddr (a.tmps.getD t undef)) : Sem Value).run P w = .ok v w := by
          simp only [execOp, ho, Instr.loadAt, Act.eval, Sem.run_bind, Instr.sureAddr] at hr1
          generalize a.tmps.getD t undef = u at hr1 ⊢
          cases u with
          | pointer p =>
            cases p with
            | none => simp at hr1 ⊢
            | some p =>
              simp only [Sem.run_pure, Result.andThen_ok] at hr1
              simp only [asAddr, Sem.run_bind, Sem.run_pure, Result.andThen_ok]
              generalize (loadVar ty p).run P w = q at hr1 ⊢
              cases q with
              | ok v' w' => simp at hr1; rw [hr1.1, hr1.2]
              | halt x w' => simp [Result.andThen] at hr1
          | _ => simp at hr1
        refine ⟨v :: vs, ?_, by simp [h2.len], fun i x v hx hv' => ?_⟩
        · have hl' : (resOne a.tmps (.cell t ty)).run P w = .ok v w := hl
          simp only [List.mapM_cons, Sem.run_bind, hl', Sem.run_pure, Result.andThen_ok, h1]
        · cases i with
          | zero => simp at hx hv'; subst hx; rw [← hv']; exact hv
          | succ i => exact h2.at_ i x v (by simpa using hx) (by simpa using hv')
      · cases h
    · cases h


theorem relT {avs : List AV} {v : AV} {us : List Value} (hv : tupA avs = some v) (h : ArgsRel g rho avs us) : Rel g rho v (if h : us.toArray.size = 1 then us.toArray[0] else .tuple us.toArray) := by
  match avs, us, h with
  | [x], us, h =>
    have hl : us.length = 1 := h.len.symm
    match us, hl with
    | [u], _ =>
      simp only [tupA, Option.some.injEq] at hv
      subst hv
      exact h.at_ 0 x u rfl rfl
  | [], us, h =>
    have hl : us = [] := List.eq_nil_of_length_eq_zero h.len.symm
    subst hl
    simp only [tupA, pures, Option.some.injEq] at hv
    subst hv
    exact .p (.tup [] #[] rfl (fun i x v hx => by simp at hx))
  | x1 :: x2 :: l, us, h =>
    have hl := h.len
    simp only [List.length_cons] at hl
    simp only [tupA] at hv
    rw [dif_neg (by simp; omega)]
    split at hv
    · rename_i r hr
      simp only [Option.some.injEq] at hv
      subst hv
      rw [pures_map hr] at h
      refine .p (.tup _ _ (by have := h.len; simpa using this) (fun i x v hx hv => ?_))
      have := h.at_ i (.p x) v (by rw [List.getElem?_map, hx]; rfl) (by simpa using hv)
      cases this with | p h => exact h
    · simp only [Option.some.injEq] at hv
      subst hv
      exact .tup _ _ (by have := h.len; simpa using this) (fun i x v hx hv => h.at_ i x v hx (by simpa using hv))
theorem relTP {l : List PV} {us : List Value} (h : ArgsP g l us) : RelP g (tupP l) (if h : us.toArray.size = 1 then us.toArray[0] else .tuple us.toArray) := by
  match us, h with
  | [], h =>
    have hl0 : l = [] := List.eq_nil_of_length_eq_zero h.len
    subst hl0
    exact .tup [] #[] rfl (fun i x v hx => by simp at hx)
  | [u], h =>
    have hl1 : l.length = 1 := h.len
    match l, hl1 with
    | [x], _ => exact h.at_ 0 x u rfl rfl
  | u1 :: u2 :: us, h =>
    have hl2 := h.len
    match l, hl2, h with
    | x1 :: x2 :: l, hl2, h =>
      simp only [tupP]
      rw [dif_neg (by simp)]
      exact .tup _ _ (by simpa using hl2) (fun i x v hx hv => h.at_ i x v hx (by simpa using hv))
theorem run_results' {fn : Func} {us : List Value} (h : (fn.results.toList.mapM (resOne a.tmps)).run P w = .ok us w) : (results fn a.tmps).run P w = .ok (if h : us.toArray.size = 1 then us.toArray[0] else .tuple us.toArray) w := by
  rw [results_one, Sem.run_bind]
  have : (fn.results.mapM (resOne a.tmps)).run P w = .ok us.toArray w := by
    rw [Array.mapM_eq_mapM_toList, Sem.run_map, h]
    rfl
  rw [this]
  rfl

def entryT : List AV → Nat → List (Nat × AV)
  | [], _ => []
  | x :: l, i => (i, x) :: entryT l (i + 1)
theorem look_entry : ∀ (l : List AV) (i j : Nat), look (entryT l i) j = if i ≤ j ∧ j - i < l.length then l.getD (j - i) (.p .any) else .p .any
  | [], i, j => by simp [entryT, look]
  | x :: l, i, j => by
    simp only [entryT, look]
    by_cases e : i = j
    · subst e; simp
    · rw [show (i == j) = false by simpa using e, cond_false, look_entry l (i + 1) j]
      by_cases hij : i ≤ j
      · have e2 : j - i = (j - (i + 1)) + 1 := by omega
        rw [e2, List.getD_cons_succ, List.length_cons]
        by_cases hc : j - (i + 1) < l.length
        · rw [if_pos ⟨by omega, hc⟩, if_pos ⟨hij, by omega⟩]
        · rw [if_neg (fun h => hc h.2), if_neg (fun h => hc (by omega))]
      · rw [if_neg (fun h => hij (by omega)), if_neg (fun h => hij h.1)]


theorem Inv.re {g1 : GP} {r1 : List Nat} (h : Inv E g rho R ks loc live ys w) : Inv { E with g0 := g1, rho0 := r1 } g rho R ks loc live ys w :=
  ⟨h.agree, h.fr, h.low, h.len, h.locs, h.rlt, h.own, h.dis, h.toks, h.tdis, h.nodup, h.rsz, h.ksnd, h.marks⟩
theorem Inv.take {k : Nat} (h : Inv E g rho R (k :: ks) loc live ys w) : Inv E g rho R ks loc live ys (w.putObj k (.deferred none)) := by
  obtain ⟨h1, h2, h3⟩ := h.marks k (List.mem_cons_self ..)
  have oth : ∀ b, b ≠ k → (w.putObj k (.deferred none)).heap[b]? = w.heap[b]? := fun b hb => World.putObj_heap_other hb
  have cel : ∀ {b : Nat} {cs : Array Value} {t : TypeId} {f : Nat × Nat}, w.heap[b]? = some (.cells cs t f) → b ≠ k := fun hb e => by subst e; rw [h3] at hb; cases hb
  have fro : ∀ {b o : Nat} {v : Value}, g.frz b o = some v → b ≠ k := fun hb e => by
    subst e
    exact (h.agree.frz _ _ _ hb).not_mark h3
  have hA : Agree g (w.putObj k (.deferred none)) := h.agree.keep (fun b o v hb => oth b (fro hb))
  have hst : OwnStep E.n0 R (fun b => b = k) g g w (w.putObj k (.deferred none)) := ⟨GP.le.refl g, hA, rfl, rfl, rfl, by simp, fun b hb => by subst hb; exact ⟨h1, h2⟩, fun b _ hb => oth b hb, fun _ _ _ _ => rfl⟩
  refine ⟨hA, E.stab _ _ _ _ _ _ _ h.fr hst, by simpa using h.low, h.len, fun id q b h4 h5 => ?_, fun id b h4 => by simpa using h.rlt id b h4, h.own, h.dis, fun t ht => ?_, h.tdis, h.nodup, fun b hb => by simpa using h.rsz b hb, (List.nodup_cons.1 h.ksnd).2, fun b hb => ?_⟩
  · cases q with
    | cells cs =>
      obtain ⟨vs, us, t, hb, hr⟩ := h.locs id _ b h4 h5
      exact ⟨vs, us, t, (oth b (cel hb)).trans hb, hr⟩
    | frz cs => exact h.locs id _ b h4 h5
    | mp es =>
      obtain ⟨ents, clk, hb, hr⟩ := h.locs id _ b h4 h5
      exact ⟨ents, clk, (oth b (fun e => by subst e; rw [h3] at hb; cases hb)).trans hb, hr⟩
    | mpz es =>
      obtain ⟨ents, clk, hb, hr⟩ := h.locs id _ b h4 h5
      exact ⟨ents, clk, (oth b (fun e => by subst e; rw [h3] at hb; cases hb)).trans hb, hr⟩
    | mfz es => exact h.locs id _ b h4 h5
    | prz n m cs =>
      obtain ⟨vs, us, t, hb, hr, hf⟩ := h.locs id _ b h4 h5
      exact ⟨vs, us, t, (oth b (cel hb)).trans hb, hr, hf⟩
    | prt n cs =>
      obtain ⟨vs, us, t, hb, hr, hf⟩ := h.locs id _ b h4 h5
      exact ⟨vs, us, t, (oth b (cel hb)).trans hb, hr, hf⟩
    | half cs =>
      obtain ⟨vs, us, t, hb, hr, hf⟩ := h.locs id _ b h4 h5
      exact ⟨vs, us, t, (oth b (cel hb)).trans hb, hr, hf⟩
    | dead => trivial
  · obtain ⟨v, e, sz, h4, h5⟩ := h.toks t ht
    refine ⟨v, e, sz, h4, fun b hb => ?_⟩
    obtain ⟨n, xs, h6, h7⟩ := h5 b hb
    obtain ⟨c, cur, _, _, _, hblk, _⟩ := rowB_row hb h6
    exact ⟨n, xs, ownsRow_keep h6 (fun b' hb' => by rw [rowB_own hb h6] at hb'; simp only [Option.some.injEq] at hb'; subst hb'; exact oth b (cel hblk)), h7⟩
  · obtain ⟨h4, h5, h6⟩ := h.marks b (List.mem_cons_of_mem _ hb)
    exact ⟨h4, h5, (oth b (fun e => by subst e; exact (List.nodup_cons.1 h.ksnd).1 hb)).trans h6⟩

theorem leaves_of {fn : Func} {Rr : Ending → World → Prop} : ∀ {kn : List Nat} {w : World}, Inv E g rho R (kn ++ kc) loc live ys w →
    (∀ w', Inv E g rho R kc loc live ys w' → (∀ b, (∀ k ∈ kn, b ≠ k) → w'.heap[b]? = w.heap[b]?) → ∃ v, (results fn a.tmps).run P w' = .ok v w' ∧ Rr (.returned v) w') → LeavesInM F 0 P fn a.tmps Rr (kn.map markD) .returning w
  | [], w, hI, h => h w hI (fun _ _ => rfl)
  | k :: kn, w, hI, h => by
    obtain ⟨h1, h2, h3⟩ := hI.marks k (List.mem_cons_self ..)
    refine ⟨by simp, .inl ⟨k, _, rfl, run_takeDeferred h3, leaves_of hI.take (fun w' hI' hk => h w' hI' (fun b hb => ?_))⟩⟩
    rw [hk b (fun q hq => hb q (List.mem_cons_of_mem _ hq))]
    exact World.putObj_heap_other (hb k (List.mem_cons_self ..))

theorem entry_tmps {args : List AV} {vs : List Value} (ha : ArgsRel g rho args vs) {L : List ABlk} {V : List Nat} {Y : Option (List (List PV))} {B nt : Nat} : Tmps g rho ⟨entryT args 0, L, V, Y, B⟩ { tmps := vs.toArray ++ Array.replicate (nt - vs.toArray.size) undef, defers := [] } := by
  intro j
  have hvl : vs.length = args.length := ha.len.symm
  rw [look_entry]
  split
  · rename_i hj
    have hj2 : j < args.length := by simpa using hj.2
    have e1 : args.getD (j - 0) (.p .any) = args[j] := by simp [hj2]
    have e2 : (vs.toArray ++ Array.replicate (nt - vs.toArray.size) undef).getD j undef = vs[j]'(by omega) := by
      have : j < vs.length := by omega
      simp [Array.getD_eq_getD_getElem?, Array.getElem?_append, this]
    rw [e1]
    simp only at e2 ⊢
    rw [e2]
    exact ha.at_ j _ _ (List.getElem?_eq_getElem hj2) (List.getElem?_eq_getElem (by omega))
  · exact .p (.any _)

theorem semP_of_exec (hO : Open F) (hro : F.round = none) {f : FuncId} {fn : Func} {c : Code} {ac : AC} {mu : Nat → Bool} {args : List AV} {K : AV → AS → Prop} (hm : P.follows .mixedOrders = true) (hf : P.funcs[f]? = some fn) (hn : (fn.name == "runtime.NumGoroutine") = false) (hb : fn.body = some c)
    (hc : cCode P mu fn.ntmps c = some ac) (hnt : args.length ≤ fn.ntmps)
    (h : exec (SemK P F) ac (retG P fn.results.toList fun v s' => K v { s with loc := s'.loc, live := s'.live, ys := s'.ys }) ⟨entryT args 0, s.loc, s.live, s.ys, s.loc.length⟩) : SemP P F f args [] K s := by
  refine ⟨enters_of hf hn hb, fun E g rho R ks w vs hI ha => ?_⟩
  refine callsIn_of_wp_marks (n := 0) hf hb (hO.fn f) ?_ hro
  have hSt : St { E with g0 := g, rho0 := rho } fn.ntmps ks [] g rho R ⟨entryT args 0, s.loc, s.live, s.ys, s.loc.length⟩ { tmps := vs.toArray ++ Array.replicate (fn.ntmps - vs.toArray.size) undef, defers := [] } w :=
    ⟨hI.re, entry_tmps ha, by have := ha.len; simp; omega, rfl, GP.le.refl g, Pre.refl rho, hI.len⟩
  refine wpIn_mono (code_sound hm c _ hO _ _ (fun l hl => by rw [hro] at hl; cases hl) ac _ [] g rho _ _ _ w hc h hSt) ?_
  have fin : ∀ {a' : Act} {w' : World}, (∃ kn g' rho' R' s', St { E with g0 := g, rho0 := rho } fn.ntmps ks kn g' rho' R' s' a' w' ∧ retK P fn.results.toList (fun v s' => K v { s with loc := s'.loc, live := s'.live, ys := s'.ys }) s') →
      LeavesInM F 0 P fn a'.tmps (fun e w' => ∃ v av g' rho' R' loc' live' ys', e = .returned v ∧ Inv E g' rho' R' ks loc' live' ys' w' ∧ g.le g' ∧ Pre rho rho' ∧ Rel g' rho' av v ∧
        (∀ id ∈ ([] : List Nat), ∀ b, rho[id]? = some b → w'.heap[b]? = w.heap[b]?) ∧ K av { s with loc := loc', live := live', ys := ys' }) a'.defers .returning w' := by
    rintro a' w' ⟨kn, g', rho', R', s', hSt', avs, v, h1, h2, h3⟩
    rw [hSt'.defers]
    refine leaves_of hSt'.inv (fun w2 hI2 _ => ?_)
    obtain ⟨us, hrun, hus⟩ := run_resA h1 hI2 hSt'.tmps
    exact ⟨_, run_results' hrun, _, v, g', rho', R', s'.loc, s'.live, s'.ys, rfl, hI2.re, hSt'.gle, hSt'.pre, relT h2 hus, fun id hid => (by cases hid), h3⟩
  intro e a' w' hq
  cases e with
  | normal => exact fin hq
  | ret => exact fin hq
  | exit id => obtain ⟨_, _, _, _, _, _, h⟩ := hq; exact h.elim
  | goto l => exact hq.elim
  | panic ch => exact hq.elim
  | outgrown => exact hq.elim

theorem semC_of_exec {f : FuncId} {fn : Func} {c : Code} {ac : AC} {mu : Nat → Bool} {args : List PV} {Q : PV → Prop} (hm : P.follows .mixedOrders = true) (hf : P.funcs[f]? = some fn) (hn : (fn.name == "runtime.NumGoroutine") = false) (hb : fn.body = some c)
    (hc : cCode P mu fn.ntmps c = some ac) (hnt : args.length ≤ fn.ntmps) (h : exec (SemK P Fence.wide) ac (retC P fn.results.toList Q) ⟨entryT (args.map .p) 0, [], [], some [], 0⟩) : SemC P f args Q := by
  refine ⟨enters_of hf hn hb, fun g w vs hA ha => ?_⟩
  refine callsIn_wide.1 (callsIn_of_wp_marks (n := 0) hf hb trivial ?_)
  have hI : Inv (plainE P Fence.wide w.heap.size w g) g [] (fun _ => False) [] [] [] (some []) w :=
    ⟨hA, ⟨rfl, Nat.le_refl _, Below.refl _ _, GP.le.refl g, fun _ _ _ => rfl⟩, Nat.le_refl _, rfl, fun id k b h => by simp at h, fun id b h => by simp at h, fun id cs b h => by simp at h, fun id id' b h => by simp at h, fun t h => by simp at h, fun t h => by simp at h, List.nodup_nil, fun k hk => hk.elim, List.nodup_nil, fun k hk => by simp at hk⟩
  have hvl : vs.length = args.length := ha.len.symm
  have hargs : ArgsRel g [] (args.map .p) vs := ⟨by simpa using ha.len, fun i x v hx hv => by
    rw [List.getElem?_map, Option.map_eq_some_iff] at hx
    obtain ⟨y, hy, rfl⟩ := hx
    exact .p (ha.at_ i y v hy hv)⟩
  have hSt : St (plainE P Fence.wide w.heap.size w g) fn.ntmps [] [] g [] (fun _ => False) ⟨entryT (args.map .p) 0, [], [], some [], 0⟩ { tmps := vs.toArray ++ Array.replicate (fn.ntmps - vs.toArray.size) undef, defers := [] } w :=
    ⟨hI, entry_tmps hargs, by simp; omega, rfl, GP.le.refl g, Pre.refl [], rfl⟩
  refine wpIn_mono (code_sound hm c _ open_wide _ _ (fun l hl => by cases hl) ac _ [] g [] _ _ _ w hc h hSt) ?_
  have fin : ∀ {a' : Act} {w' : World}, (∃ kn g' rho R' s, St (plainE P Fence.wide w.heap.size w g) fn.ntmps [] kn g' rho R' s a' w' ∧ retQ P fn.results.toList Q s) →
      LeavesInM Fence.wide 0 P fn a'.tmps (fun e w' => ∃ v g' r, e = .returned v ∧ g.le g' ∧ Agree g' w' ∧ (∀ b o, b < w.heap.size → g'.frz b o = g.frz b o) ∧ RelP g' r v ∧ Q r ∧ Below w.heap.size w w') a'.defers .returning w' := by
    rintro a' w' ⟨kn, g', rho, R', s, hSt', avs, l, L', y, h1, h2, h3, h4⟩
    rw [hSt'.defers]
    refine leaves_of hSt'.inv (fun w2 hI2 _ => ?_)
    obtain ⟨us, hrun, hus⟩ := run_resA h1 hI2 hSt'.tmps
    obtain ⟨g2, k1, k2, k3⟩ := purV_ok h2 hI2
    obtain ⟨_, _, f3, f4, f5⟩ := k2.fr
    exact ⟨_, run_results' hrun, _, g2, y, rfl, f4, k2.agree, fun b o hb => f5 b hb o, h3 g2 _ (relTP (k3 us hus)), h4, f3⟩
  intro e a' w' hq
  cases e with
  | normal => exact fin hq
  | ret => exact fin hq
  | exit id => obtain ⟨_, _, _, _, _, _, h⟩ := hq; exact h.elim
  | goto l => exact hq.elim
  | panic ch => exact hq.elim
  | outgrown => exact hq.elim

def retI : AEx → AS → Prop
  | .normal, s => s.ys = some [] ∨ s.ys = none
  | .ret, s => s.ys = some [] ∨ s.ys = none
  | .exit _, _ => False
theorem iterC_of_exec (hO : Open F) (hro : F.round = none) {f : FuncId} {fn : Func} {c : Code} {ac : AC} {mu : Nat → Bool} {args : List PV} {xs : List (List PV)} (hm : P.follows .mixedOrders = true) (hf : P.funcs[f]? = some fn) (hn : (fn.name == "runtime.NumGoroutine") = false) (hb : fn.body = some c)
    (hc : cCode P mu fn.ntmps c = some ac) (hnt : args.length ≤ fn.ntmps) (hrs : fn.results.toList = []) (h : exec (SemK P F) ac retI ⟨entryT (args.map .p) 0, [], [], some xs, 0⟩) : IterC P F f args xs := by
  refine ⟨enters_of hf hn hb, fun E g R w vs hn0 hA hΦ hR ha => ?_⟩
  refine callsIn_of_wp_marks (n := 0) hf hb (hO.fn f) ?_ hro
  have hI : Inv { E with g0 := g, rho0 := [] } g [] R [] [] [] (some xs) w :=
    ⟨hA, hΦ, by show E.n0 ≤ _; omega, rfl, fun id k b h => by simp at h, fun id b h => by simp at h, fun id cs b h => by simp at h, fun id id' b h => by simp at h, fun t h => by simp at h, fun t h => by simp at h, List.nodup_nil, hR, List.nodup_nil, fun k hk => by simp at hk⟩
  have hvl : vs.length = args.length := ha.len.symm
  have hargs : ArgsRel g [] (args.map .p) vs := ⟨by simpa using ha.len, fun i x v hx hv => by
    rw [List.getElem?_map, Option.map_eq_some_iff] at hx
    obtain ⟨y, hy, rfl⟩ := hx
    exact .p (ha.at_ i y v hy hv)⟩
  have hSt : St { E with g0 := g, rho0 := [] } fn.ntmps [] [] g [] R ⟨entryT (args.map .p) 0, [], [], some xs, 0⟩ { tmps := vs.toArray ++ Array.replicate (fn.ntmps - vs.toArray.size) undef, defers := [] } w :=
    ⟨hI, entry_tmps hargs, by simp; omega, rfl, GP.le.refl g, Pre.refl [], rfl⟩
  refine wpIn_mono (code_sound hm c _ hO _ _ (fun l hl => by rw [hro] at hl; cases hl) ac _ [] g [] _ _ _ w hc h hSt) ?_
  have fin : ∀ {a' : Act} {w' : World}, (∃ kn g' rho' R' s', St { E with g0 := g, rho0 := [] } fn.ntmps [] kn g' rho' R' s' a' w' ∧ (s'.ys = some [] ∨ s'.ys = none)) →
      LeavesInM F 0 P fn a'.tmps (fun e w' => ∃ v g' R', e = .returned v ∧ g.le g' ∧ Agree g' w' ∧ (E.Φ R' (some []) g' w' ∨ E.Φ R' none g' w')) a'.defers .returning w' := by
    rintro a' w' ⟨kn, g', rho', R', s', hSt', hys⟩
    rw [hSt'.defers]
    refine leaves_of hSt'.inv (fun w2 hI2 _ => ?_)
    have hfr : E.Φ R' s'.ys g' w2 := hI2.fr
    exact ⟨_, run_results' (us := []) (by rw [hrs]; simp), _, g', R', rfl, hSt'.gle, hI2.agree, by rcases hys with h | h <;> rw [h] at hfr <;> simp [hfr]⟩
  intro e a' w' hq
  cases e with
  | normal => exact fin hq
  | ret => exact fin hq
  | exit id => obtain ⟨_, _, _, _, _, _, h⟩ := hq; exact h.elim
  | goto l => exact hq.elim
  | panic ch => exact hq.elim
  | outgrown => exact hq.elim
end
end Go.Proofs.YtlbolnlcncjijaaGreat
