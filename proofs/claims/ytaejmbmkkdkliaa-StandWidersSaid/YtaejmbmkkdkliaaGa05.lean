/- What operations do that lay or write. Slices that are made, and that grow. Operations that lay slices are sound. append is sound. -/
import Derived.Test.YtaejmbmkkdkliaaGa04
namespace Go.Proofs.Ytaejmbmkkdkliaa
open Go.RowKit Go.Shelf

structure ArgsRel (g : GP) (rho : List Nat) (args : List AV) (vs : List Value) : Prop where
  len : args.length = vs.length
  at_ : ∀ (i : Nat) (x : AV) (v : Value), args[i]? = some x → vs[i]? = some v → Rel g rho x v

/-- What a function does that is called, in the model. -/
def SemP (P : Program) (F : Fence) : FuncId → List AV → List Nat → (AV → AS → Prop) → AS → Prop := fun f args rd K s => Enters P f ∧ ∀ (E : Env P F) (g : GP) (rho : List Nat) (R : Nat → Prop) (ks : List Nat) (w : World) (vs : List Value),
  Inv E g rho R ks s.loc s.live s.ys w → ArgsRel g rho args vs → CallsIn F 0 P f vs.toArray w fun e w' => ∃ v av g' rho' R' loc' live' ys', e = .returned v ∧ Inv E g' rho' R' ks loc' live' ys' w' ∧ g.le g' ∧ Pre rho rho' ∧ Rel g' rho' av v ∧
    (∀ id ∈ rd, ∀ b, rho[id]? = some b → w'.heap[b]? = w.heap[b]?) ∧ K av { s with loc := loc', live := live', ys := ys' }

/-- What an iterator does, in the model: it yields xs, in this order, or a part of it if it is told to stop. -/
def IterC (P : Program) (F : Fence) : FuncId → List PV → List (List PV) → Prop := fun f args xs => Enters P f ∧ ∀ (E : Env P F) (g : GP) (R : Nat → Prop) (w : World) (vs : List Value), E.n0 = w.heap.size → Agree g w → E.Φ R (some xs) g w → (∀ k, R k → k < w.heap.size) → ArgsP g args vs →
  CallsIn F 0 P f vs.toArray w fun e w' => ∃ v g' R', e = .returned v ∧ g.le g' ∧ Agree g' w' ∧ (E.Φ R' (some []) g' w' ∨ E.Φ R' none g' w')
def SemK (P : Program) (F : Fence) : Con := ⟨SemP P F, IterC P F⟩

/-- What is so behind an operation. -/
def Did {P : Program} {F : Fence} (E : Env P F) (g : GP) (rho ks : List Nat) (lst : Bool) (rd : List Nat) (w : World) (t : List (Nat × AV) × Nat) (K : AV → AS → Prop) (v : Value) (w' : World) : Prop :=
  ∃ av g' rho' R' s', Inv E g' rho' R' ks s'.loc s'.live s'.ys w' ∧ g.le g' ∧ Pre rho rho' ∧ Rel g' rho' av v ∧ (s'.t, s'.base) = t ∧ (lst = false → ∀ id ∈ rd, ∀ b, rho[id]? = some b → w'.heap[b]? = w.heap[b]?) ∧ K av s'
/-- How an operation is done. -/
def EffOk (P : Program) (F : Fence) (a : Act) (w : World) (o : Oper) (R : Value → World → Prop) : Prop :=
  (∃ v w', (execOp a.eval o).run P w = .ok (.value v) w' ∧ R v w') ∨ (∃ w', (execOp a.eval o).run P w = .ok .skip w' ∧ R undef w') ∨
  (∃ f vs, (execOp a.eval o).run P w = .ok (.enter f vs) w ∧ CallsIn F 0 P f vs w fun e w' => ∃ v, e = .returned v ∧ R v w') ∨
  (∃ l fn tmps assign body, (execOp a.eval o).run P w = .ok (.round l fn tmps assign body) w ∧ RoundIn F 0 P l fn tmps assign body w fun e w' => ∃ v, e = .returned v ∧ R v w')

section
variable {P : Program} {F : Fence} {E : Env P F} {g : GP} {rho rd ks : List Nat} {R : Nat → Prop} {ys : Option (List (List PV))} {w : World} {s : AS} {a : Act} {o : Oper} {K : AV → AS → Prop} {lst : Bool}

theorem run_vw {m : Sem Value} {v : Value} {w w' : World} (h : m.run P w = .ok v w') : (do pure (Next.value (← m)) : Sem Next).run P w = .ok (.value v) w' := by
  rw [Sem.run_bind, h]; rfl
theorem run_uw {m : Sem Unit} {w w' : World} (h : m.run P w = .ok () w') : (do m; pure Next.skip : Sem Next).run P w = .ok .skip w' := by
  rw [Sem.run_bind, h]; rfl

theorem did_box (hI : Inv E g rho R ks s.loc s.live s.ys w) {cs : List AV} {vs : List Value} (us : List Value) (t : TypeId) (hr : RelL g rho cs vs) (hK : K (.loc s.loc.length 0) (mkOwn s cs)) :
    Did E g rho ks lst rd w (s.t, s.base) K (.pointer (some ⟨w.heap.size, 0, none⟩)) (w.alloc (.cells (vs ++ us).toArray t)) :=
  ⟨.loc s.loc.length 0, g, rho ++ [w.heap.size], R, mkOwn s cs, hI.box t hr, GP.le.refl g, Pre.app _ _, .loc (by rw [← hI.len]; simp), rfl, fun _ id _ b hb => Below.heap_alloc w _ b (hI.rlt id b hb).2.1, hK⟩

theorem eff_box {t : TypeId} {x : Operand} (hop : o.op = .box t x) {n : Nat} {x' : AX} (hx : cx x = some x') (hI : Inv E g rho R ks s.loc s.live s.ys w) (hT : Tmps g rho s a) (h : effQ (SemK P F) lst rd s K (.box n x')) :
    EffOk P F a w o (Did E g rho ks lst rd w (s.t, s.base) K) := by
  simp only [effQ] at h
  split at h
  · rename_i cs hcs
    obtain ⟨_, vs, hv, hr⟩ := cellsA_rel hcs (cx_rel hT hx)
    have := did_box (lst := lst) (rd := rd) hI [] t hr h
    rw [List.append_nil] at this
    refine .inl ⟨_, _, ?_, this⟩
    simp only [execOp, hop]
    exact run_vw (by simp [Instr.box, newVar, newRow, hv])
  · exact h.elim

theorem relL_single {x : PV} {v : Value} (h : RelP g x v) (h1 : v.oneCell' = true) : RelL g rho [.p x] [v] := RelL.one' (.p h) h1

theorem eff_new {t : TypeId} (hop : o.op = .alloc t) {i : TypeInfo} {z : Value} (hi : P.info? t = some i) (hz : i.zero = some z) (hI : Inv E g rho R ks s.loc s.live s.ys w) (h : effQ (SemK P F) lst rd s K (.new (ofConst z))) :
    EffOk P F a w o (Did E g rho ks lst rd w (s.t, s.base) K) := by
  have run : (execOp a.eval o).run P w = .ok (.value (.pointer (some ⟨w.heap.size, 0, none⟩))) (w.alloc (.cells z.cells t)) := by
    simp only [execOp, hop]
    exact run_vw (by simp [Instr.alloc, newVar, newRow, Sem.run_bind, zeroValue, typeInfo, hi, hz])
  have hr := relP_const g z
  have fin : ∀ {cs : List AV} {vs : List Value}, z.cells = vs.toArray → RelL g rho cs vs → K (.loc s.loc.length 0) (mkOwn s cs) → EffOk P F a w o (Did E g rho ks lst rd w (s.t, s.base) K) := by
    intro cs vs he hr hK
    have := did_box (lst := lst) (rd := rd) hI [] t hr hK
    rw [List.append_nil] at this
    rw [he] at run
    exact .inl ⟨_, _, run, this⟩
  have one : ∀ {x : PV}, RelP g x z → z.oneCell' = true → z.cells = #[z] → K (.loc s.loc.length 0) (mkOwn s [.p x]) → EffOk P F a w o (Did E g rho ks lst rd w (s.t, s.base) K) := fun hx h1 hc hK => fin (vs := [z]) hc (relL_single hx h1) hK
  generalize hc : ofConst z = c at h hr
  cases hr with
  | any => simp [effQ] at h
  | agg cs vs hl h1 hh =>
    simp only [effQ] at h
    exact fin (vs := vs.toList) (by simp [Value.cells]) (RelLP.toRelL ⟨by simpa using hl, by simpa using h1, by simpa using hh⟩) h
  | val _ hu => exact one (.val _ hu) (oneCell_scalar hu) (by cases z <;> first | rfl | (simp [scalar] at hu)) (by simpa only [effQ] using h)
  | tup cs vs hl hh => simp [effQ] at h
  | sl k sz es ad n c f hl hn hcc hm hk hz' hat hh => exact one (.sl k sz es ad n c f hl hn hcc hm hk hz' hat hh) rfl rfl (by simpa only [effQ] using h)
  | ptr cs off b o f hat hh => exact one (.ptr cs off b o f hat hh) rfl rfl (by simpa only [effQ] using h)
  | nilp => exact one .nilp rfl rfl (by simpa only [effQ] using h)
  | clo f fi cap vf vc hl hl2 hh hh2 => exact one (.clo f fi cap vf vc hl hl2 hh hh2) rfl rfl (by simpa only [effQ] using h)
  | yld => exact one .yld rfl rfl (by simpa only [effQ] using h)
  | und => simp [effQ] at h

theorem eff_st {t : TypeId} {x y : Operand} (hop : o.op = .store t x y) {n : Nat} {x' y' : AX} (hn : sizeN P t = some n) (hx : cx x = some x') (hy : cx y = some y') (hI : Inv E g rho R ks s.loc s.live s.ys w) (hT : Tmps g rho s a)
    (h : effQ (SemK P F) lst rd s K (.st n x' y')) : EffOk P F a w o (Did E g rho ks lst rd w (s.t, s.base) K) := by
  have h0 := cx_rel hT hx
  have h1 := cx_rel hT hy
  unfold sizeN at hn
  rw [Option.map_eq_some_iff] at hn
  obtain ⟨ti, hti, hsz⟩ := hn
  simp only [effQ] at h
  split at h
  · rename_i id off new he hnew
    rw [he] at h0
    obtain ⟨hln, nv, hnv, hrn⟩ := cellsA_rel hnew h1
    generalize hv0 : a.eval x = v0 at h0
    cases h0 with
    | loc hb =>
      rename_i b
      split at h
      · rename_i cs hcs
        obtain ⟨hrd, hlen, hK⟩ := h
        obtain ⟨vs, us, ty, hblk, hr⟩ := hI.locs id _ b hcs hb
        have hnl : nv.length = n := by rw [← hrn.len, hln]
        have hvl := hr.len
        have hset := hI.set hcs hb hblk (hr.put hrn off)
        have key : (storeCells ⟨b, off, none⟩ nv 0).run P w = .ok () (w.setRow b ((vs.take off ++ nv ++ vs.drop (off + nv.length)) ++ us).toArray) := by
          have := run_storeCells_at (P := P) b off ty nv 0 _ w hblk (by simp; omega) hrn.one
          rw [this]
          congr 3
          simp only [Nat.add_zero]
          rw [List.take_append_of_le_length (by omega), List.drop_append_of_le_length (by omega)]
          simp
        refine .inr (.inl ⟨_, ?_, .p .und, g, rho, R, { s with loc := s.loc.set id (.cells (putCells cs off new)) }, hset, GP.le.refl g, Pre.refl rho, .p .und, rfl, fun hl id' hid' b' hb' => ?_, hK⟩)
        · simp only [execOp, hop]
          refine run_uw ?_
          have hsz2 : nv.toArray.size = n := by simpa using hnl
          rw [hv0]
          simp [Instr.storeAt, Instr.sureAddr, storeVar, Sem.run_bind, hnv, sizeOf, typeInfo, hti, hsz, hnl, key]
        · refine setRow_other w b b' _ (fun e => ?_)
          subst e
          have := hI.dis id id' b' hb hb'
          subst this
          rcases hrd with h | h
          · rw [hl] at h; cases h
          · exact h hid'
      · exact h.elim
  · exact h.elim

theorem rows_get {α : Type} : ∀ (n sz : Nat) (l : List PV) (i : Nat) (e : List PV), (rows sz n l)[i]? = some e → i < n ∧ e = (l.drop (i * sz)).take sz
  | 0, sz, l, i, e, h => by simp [rows] at h
  | n + 1, sz, l, 0, e, h => by simp [rows] at h; simp [h]
  | n + 1, sz, l, i + 1, e, h => by
    simp only [rows, List.getElem?_cons_succ] at h
    obtain ⟨h1, h2⟩ := rows_get (α := α) n sz (l.drop sz) i e h
    refine ⟨by omega, ?_⟩
    rw [h2, List.drop_drop, Nat.add_mul, Nat.one_mul, Nat.add_comm]
theorem rows_length : ∀ (n sz : Nat) (l : List PV), (rows sz n l).length = n
  | 0, _, _ => rfl
  | n + 1, sz, l => by simp [rows, rows_length n]

theorem repl_length {α : Type} (z : List α) : ∀ n, (repl n z).length = n * z.length
  | 0 => by simp [repl]
  | n + 1 => by simp [repl, repl_length z n, Nat.add_mul, Nat.add_comm]
theorem repl_get {α : Type} (z : List α) : ∀ (n i j : Nat), j < z.length → i < n → (repl n z)[i * z.length + j]? = z[j]?
  | 0, i, j, _, hi => by omega
  | n + 1, 0, j, hj, _ => by simp [repl, List.getElem?_append_left hj]
  | n + 1, i + 1, j, hj, hi => by
    have : (i + 1) * z.length + j = z.length + (i * z.length + j) := by rw [Nat.add_mul]; omega
    simp only [repl]
    rw [this, List.getElem?_append_right (by omega)]
    simp only [Nat.add_sub_cancel_left]
    exact repl_get z n i j hj (by omega)

theorem made_repl (z : Array Value) (n : Nat) (hz : 0 < z.size) : ((Array.range (n * z.size)).map (z[· % z.size]!)).toList = repl n z.toList := by
  apply List.ext_getElem?
  intro k
  by_cases hk : k < n * z.size
  · have h1 : k / z.size < n := Nat.div_lt_of_lt_mul (by rwa [Nat.mul_comm] at hk)
    have h2 : k % z.size < z.size := Nat.mod_lt _ hz
    have h3 := repl_get z.toList n (k / z.size) (k % z.size) (by simpa using h2) h1
    have h4 : k / z.size * z.toList.length + k % z.size = k := by
      have := Nat.div_add_mod k z.size
      rw [Nat.mul_comm] at this
      simpa using this
    rw [h4] at h3
    rw [h3]

    simp [hk, h2]
  · rw [List.getElem?_eq_none (by simp; omega), List.getElem?_eq_none (by rw [repl_length]; simp; omega)]

theorem relL_repl {z : List PV} {vs : List Value} (h : RelLP g z vs) : ∀ n, RelLP g (repl n z) (repl n vs)
  | 0 => ⟨rfl, by simp [repl], by simp [repl]⟩
  | n + 1 => by
    have := (RelLP.toRelL (rho := []) h).append (RelLP.toRelL (rho := []) (relL_repl h n))
    rw [← List.map_append] at this
    exact this.pure

/-- A row that never turns again, as a slice. -/
theorem relP_rows {sz n : Nat} {l : List PV} {vs : List Value} (hl : l.length = n * sz) (hr : RelLP g l vs) {b c : Nat} (hn : n ≤ 140737488355328) (hc : n ≤ c) (hm : c ≤ maxLen) (k : SK) (hk : k.ok g (some ⟨b, 0, none⟩) n c)
    (hf : ∀ o, o < n * sz → g.frz b o = some (vs.getD o undef)) : RelP g (.sl k sz (rows sz n l)) (.slice (some ⟨b, 0, none⟩) n c) := by
  have hvl := hr.len
  have lt : ∀ i j : Nat, i < n → j < sz → i * sz + j < n * sz := fun i j hi hj => by
    have : (i + 1) * sz ≤ n * sz := Nat.mul_le_mul_right _ hi
    rw [Nat.add_mul] at this
    omega
  refine .sl k sz _ _ n c (fun i j => vs.getD (i * sz + j) undef) (rows_length _ _ _) hn hc hm hk (fun i e he => ?_) (fun i hi => ⟨b, 0, rfl, fun j hj => ?_⟩) (fun i j e x he hx => ?_)
  · obtain ⟨hi, rfl⟩ := rows_get (α := Unit) _ _ _ _ _ he
    have : (i + 1) * sz ≤ n * sz := Nat.mul_le_mul_right _ hi
    rw [Nat.add_mul] at this
    rw [List.length_take, List.length_drop]
    omega
  · rw [Nat.zero_add]
    exact hf _ (lt i j hi hj)
  · obtain ⟨hi, rfl⟩ := rows_get (α := Unit) _ _ _ _ _ he
    have hj : j < sz := by
      have := (List.getElem?_eq_some_iff.1 hx).1
      rw [List.length_take] at this
      omega
    rw [List.getElem?_take_of_lt hj, List.getElem?_drop] at hx
    have h2 : i * sz + j < vs.length := by rw [← hvl, hl]; exact lt i j hi hj
    exact hr.at_ _ _ _ hx (by simp [List.getD_eq_getElem?_getD, List.getElem?_eq_getElem h2])
end
end Go.Proofs.Ytaejmbmkkdkliaa
namespace Go.Proofs.Ytaejmbmkkdkliaa
open Go.RowKit Go.Shelf

section
variable {P : Program} {F : Fence} {E : Env P F} {g : GP} {rho rd ks : List Nat} {R : Nat → Prop} {ys : Option (List (List PV))} {w : World} {s : AS} {a : Act} {o : Oper} {K : AV → AS → Prop} {lst : Bool} {loc : List ABlk} {live : List Nat}

/-- A slice out of cells that never turn again. -/
theorem relP_at {sz n : Nat} {es : List (List PV)} {F : Nat → Value} (hl : es.length = n) (hz : ∀ (i : Nat) (e : List PV), es[i]? = some e → e.length = sz)
    (h : ∀ (i j : Nat) (e : List PV) (x : PV), es[i]? = some e → e[j]? = some x → RelP g x (F (i * sz + j))) {b o c : Nat} (hf : ∀ q, q < n * sz → g.frz b (o + q) = some (F q))
    (hn : n ≤ 140737488355328) (hc : n ≤ c) (hm : c ≤ maxLen) {k : SK} (hk : k.ok g (some ⟨b, o, none⟩) n c) : RelP g (.sl k sz es) (.slice (some ⟨b, o, none⟩) n c) :=
  .sl k sz es _ n c (fun i j => F (i * sz + j)) hl hn hc hm hk hz (fun i hi => ⟨b, o, rfl, fun j hj => by
    have : (i + 1) * sz ≤ n * sz := Nat.mul_le_mul_right _ hi
    rw [Nat.add_mul] at this
    rw [Nat.add_assoc]
    exact hf _ (by omega)⟩) h

/-- The cells of a slice. -/
theorem relP_cells {k : SK} {sz : Nat} {es : List (List PV)} {v : Value} (h : RelP g (.sl k sz es) v) : ∃ ad n c, ∃ F : Nat → Value, v = .slice ad n c ∧ es.length = n ∧ n ≤ c ∧ c ≤ maxLen ∧ k.ok g ad n c ∧ (∀ (i : Nat) (e : List PV), es[i]? = some e → e.length = sz) ∧
    (0 < n → ∃ b o, ad = some ⟨b, o, none⟩ ∧ ∀ q, q < n * sz → g.frz b (o + q) = some (F q)) ∧ ∀ (i j : Nat) (e : List PV) (x : PV), es[i]? = some e → e[j]? = some x → RelP g x (F (i * sz + j)) := by
  cases h with
  | sl _ _ _ ad n c f hl hn hc hm hk hz hat hh =>
    refine ⟨ad, n, c, fun q => f (q / sz) (q % sz), rfl, hl, hc, hm, hk, hz, fun hn0 => ?_, fun i j e x he hx => ?_⟩
    · obtain ⟨b, o, e, _⟩ := hat 0 hn0
      refine ⟨b, o, e, fun q hq => ?_⟩
      have hsz : 0 < sz := by
        rcases Nat.eq_zero_or_pos sz with h0 | h0
        · rw [h0] at hq; omega
        · exact h0
      obtain ⟨b', o', e', h'⟩ := hat (q / sz) (Nat.div_lt_of_lt_mul (by rwa [Nat.mul_comm] at hq))
      rw [e] at e'
      simp only [Option.some.injEq, Addr.mk.injEq, and_true] at e'
      obtain ⟨rfl, rfl⟩ := e'
      have := h' (q % sz) (Nat.mod_lt _ hsz)
      rwa [Nat.add_assoc, Nat.mul_comm, Nat.div_add_mod] at this
    · have hj : j < sz := by rw [← hz i e he]; exact (List.getElem?_eq_some_iff.1 hx).1
      have h1 : (i * sz + j) / sz = i := by
        rw [Nat.mul_comm, Nat.mul_add_div (by omega), Nat.div_eq_of_lt hj, Nat.add_zero]
      have h2 : (i * sz + j) % sz = j := by
        rw [Nat.mul_comm, Nat.mul_add_mod, Nat.mod_eq_of_lt hj]
      simp only [h1, h2]
      exact hh i j e x he hx

theorem relP_nilsz {k : SK} {sz sz' : Nat} {v : Value} (h : RelP g (.sl k sz []) v) : RelP g (.sl k sz' []) v := by
  cases h with
  | sl _ _ _ ad n c f hl hn hc hm hk hz hat hh =>
    have : n = 0 := by simpa using hl.symm
    subst this
    exact .sl k sz' [] ad 0 c f rfl hn hc hm hk (fun i e h => by simp at h) (fun i hi => absurd hi (by omega)) (fun i j e x h => by simp at h)

theorem Inv.fresh (h : Inv E g rho R ks loc live ys w) : ∃ t, g.tok t = none := let ⟨N, hN⟩ := h.agree.fin; ⟨N, hN N (Nat.le_refl _)⟩
theorem Inv.notin (h : Inv E g rho R ks loc live ys w) {t : Nat} (ht : g.tok t = none) : t ∉ live := fun hm => by
  obtain ⟨v, e, sz, h1, _⟩ := h.toks t hm
  rw [ht] at h1; cases h1

/-- A new row with a token. -/
theorem Inv.layTok (h : Inv E g rho R ks loc live ys w) (cs : List Value) (e : TypeId) (h1 : ∀ v ∈ cs, v.oneCell' = true) (n c sz : Nat) (hcs : cs.length = c * sz) (hnc : n ≤ c) (hcm : c ≤ maxLen)
    (w1 : World) (hw1 : w1.heap = w.heap) (ho : w1.os = w.os) (htp : w1.tape = w.tape) (hou : w1.output = w.output) :
    ∃ g' t, g.tok t = none ∧ g.le g' ∧ Inv E g' rho R ks loc (t :: live) ys (w1.alloc (.cells cs.toArray e)) ∧ g'.tok t = some (.slice (some ⟨w.heap.size, 0, none⟩) n c, e, sz) ∧
      ∀ o, o < n * sz → g'.frz w.heap.size o = some (cs.getD o undef) := by
  have hnm : n * sz ≤ cs.length := by rw [hcs]; exact Nat.mul_le_mul_right _ hnc
  obtain ⟨hl, hle⟩ := h.lay cs e h1 (n * sz) hnm w1 hw1 ho htp hou
  obtain ⟨t, ht⟩ := h.fresh
  have hnew := heap_alloc_new w1 (.cells cs.toArray e)
  rw [hw1] at hnew
  obtain ⟨ht2, hle2⟩ := hl.token (t := t) (v := .slice (some ⟨w.heap.size, 0, none⟩) n c) (e := e) (sz := sz) (by simpa [GP.fz] using ht) (fun b hb => by
    have hbe : b = w.heap.size := by
      simp only [rowB] at hb
      split at hb
      · simpa using hb.symm
      · cases hb
    subst hbe
    refine ⟨⟨n, cs.take (n * sz), ⟨by rw [List.length_take]; omega, .inr ⟨_, c, cs.toArray, rfl, h.low, hnew, hnc, hcm, by simpa using hcs, by simp⟩⟩, fun q hq => ?_⟩, ⟨fun id hid => ?_, fun hR => by have := h.rsz _ hR; omega⟩, fun t' ht' v' e' sz' h3 h4 => ?_⟩
    · simp only [GP.fz]
      rw [if_neg (by omega)]
      cases e : g.frz w.heap.size q with
      | none => rfl
      | some v => have := h.agree.lt e; omega
    · have := (h.rlt id _ hid).2.1; omega
    · simp only [GP.fz] at h3
      obtain ⟨v2, e2, sz2, h5, h6⟩ := h.toks t' ht'
      rw [h3] at h5
      simp only [Option.some.injEq, Prod.mk.injEq] at h5
      obtain ⟨rfl, rfl, rfl⟩ := h5
      obtain ⟨n', xs, h7, _⟩ := h6 _ h4
      have := (h7.lt _ (rowB_own h4 h7)).2
      omega)
  refine ⟨_, t, ht, hle.trans hle2, ht2, by simp [GP.tk], fun q hq => ?_⟩
  simp only [GP.tk, GP.fz]
  rw [if_pos ⟨trivial, by omega, hq⟩]

/-- A row that grows where it lies. -/
theorem Inv.room (h : Inv E g rho R ks loc live ys w) {t1 b n c sz : Nat} {e : TypeId} (ht1 : t1 ∈ live) (htok : g.tok t1 = some (.slice (some ⟨b, 0, none⟩) n c, e, sz)) (hnc : n < c)
    {cur : Array Value} (hb : w.heap[b]? = some (.cells cur e (0, 0))) (hcm : c ≤ maxLen) (hcs : cur.size = c * sz) (hfr : ∀ o, n * sz ≤ o → g.frz b o = none)
    (nc : List Value) (m : Nat) (hnl : nc.length = m * sz) (h1 : ∀ v ∈ nc, v.oneCell' = true) (hm : n + m ≤ c) :
    ∃ g' t, g.tok t = none ∧ g.le g' ∧ Inv E g' rho R ks loc (t :: live.erase t1) ys (w.setRow b (cur.toList.take (n * sz) ++ nc ++ cur.toList.drop (n * sz + nc.length)).toArray) ∧
      g'.tok t = some (.slice (some ⟨b, 0, none⟩) (n + m) c, e, sz) ∧ ∀ o, o < m * sz → g'.frz b (n * sz + o) = some (nc.getD o undef) := by
  have hnm : (n + m) * sz ≤ c * sz := Nat.mul_le_mul_right _ hm
  rw [Nat.add_mul] at hnm
  have hrow : rowB (.slice (some ⟨b, 0, none⟩) n c) = some b := by simp [rowB, hnc]
  obtain ⟨hd1, hd2⟩ := h.tdis t1 ht1 _ _ _ _ htok hrow
  have hn0b : E.n0 ≤ b := by
    obtain ⟨v, e', sz', h3, h4⟩ := h.toks t1 ht1
    rw [htok] at h3
    simp only [Option.some.injEq, Prod.mk.injEq] at h3
    obtain ⟨rfl, rfl, rfl⟩ := h3
    obtain ⟨n', xs, h5, _⟩ := h4 b hrow
    exact (h5.lt b rfl).1
  have oth : ∀ b', b' ≠ b → (w.setRow b (cur.toList.take (n * sz) ++ nc ++ cur.toList.drop (n * sz + nc.length)).toArray).heap[b']? = w.heap[b']? := fun b' e => setRow_other w b b' _ e
  have same := setRow_heap w b cur (cur.toList.take (n * sz) ++ nc ++ cur.toList.drop (n * sz + nc.length)).toArray e (0, 0) hb
  have hle := g.le_fz (b := b) (lo := n * sz) (hi := n * sz + m * sz) (fun o => nc.getD (o - n * sz) undef) (fun o ho _ => hfr o ho)
  have fro : ∀ b' o, b' ≠ b → (g.fz b (n * sz) (n * sz + m * sz) (fun o => nc.getD (o - n * sz) undef)).frz b' o = g.frz b' o := fun b' o hne => by
    simp only [GP.fz]; rw [if_neg (fun hc => hne hc.1)]
  have hcl : cur.toList.length = c * sz := by simpa using hcs
  have hA : Agree (g.fz b (n * sz) (n * sz + m * sz) (fun o => nc.getD (o - n * sz) undef)) (w.setRow b (cur.toList.take (n * sz) ++ nc ++ cur.toList.drop (n * sz + nc.length)).toArray) := by
    refine ⟨fun b' o v e' => ?_, h.agree.fin⟩
    by_cases hne : b' = b
    · subst hne
      rw [cell_of_row _ _ _ _ _ _ same]
      simp only [GP.fz] at e'
      split at e'
      · rename_i hc
        simp only [Option.some.injEq] at e'
        subst e'
        have hlt : o - n * sz < nc.length := by omega
        refine ⟨?_, by rw [List.getD_eq_getElem?_getD, List.getElem?_eq_getElem hlt]; exact h1 _ (List.getElem_mem hlt)⟩
        rw [List.getElem?_toArray, List.getElem?_append_left (by rw [List.length_append, List.length_take]; omega), List.getElem?_append_right (by rw [List.length_take]; omega), List.length_take, Nat.min_eq_left (by omega)]
        simp [List.getD_eq_getElem?_getD, List.getElem?_eq_getElem hlt]
      · have hlt : o < n * sz := by
          rcases Nat.lt_or_ge o (n * sz) with h2 | h2
          · exact h2
          · rw [hfr o h2] at e'; cases e'
        obtain ⟨e1, e2⟩ := h.agree.frz b' o v e'
        rw [cell_of_row _ _ _ _ _ _ hb] at e1
        refine ⟨?_, e2⟩
        rw [List.getElem?_toArray, List.getElem?_append_left (by rw [List.length_append, List.length_take]; omega), List.getElem?_append_left (by rw [List.length_take]; omega), List.getElem?_take_of_lt hlt]
        simpa using e1
    · rw [fro b' o hne] at e'
      obtain ⟨e1, e2⟩ := h.agree.frz b' o v e'
      exact ⟨(World.cell?_of_block (w := w) (a := ⟨b', o, none⟩) (oth b' hne)).trans e1, e2⟩
  have hI : Inv E (g.fz b (n * sz) (n * sz + m * sz) (fun o => nc.getD (o - n * sz) undef)) rho R ks loc (live.erase t1) ys (w.setRow b (cur.toList.take (n * sz) ++ nc ++ cur.toList.drop (n * sz + nc.length)).toArray) := by
    have hmem : ∀ {t : Nat}, t ∈ live.erase t1 → t ∈ live ∧ t ≠ t1 := fun ht => by
      rw [h.nodup.mem_erase_iff] at ht
      exact ⟨ht.2, ht.1⟩
    have hst : OwnStep E.n0 R (fun k => k = b) g (g.fz b (n * sz) (n * sz + m * sz) (fun o => nc.getD (o - n * sz) undef)) w (w.setRow b (cur.toList.take (n * sz) ++ nc ++ cur.toList.drop (n * sz + nc.length)).toArray) :=
      ⟨hle, hA, rfl, rfl, rfl, by simp, fun k hk => by subst hk; exact ⟨hn0b, hd1.2⟩, fun k _ hk => oth k hk, fun b' o _ hk => fro b' o hk⟩
    refine ⟨hA, E.stab _ _ _ _ _ _ _ h.fr hst, by simpa using h.low, h.len, fun id k b' h3 h4 => ?_, fun id b' h3 => by simpa using h.rlt id b' h3, fun id cs b' h3 h4 o => ?_, h.dis, fun t ht => ?_, fun t ht v e' sz' b' h3 h4 => ?_, h.nodup.erase _, fun k hk => by simpa using h.rsz k hk, h.ksnd, fun k hk => by
      obtain ⟨h3, h4, h5⟩ := h.marks k hk
      exact ⟨h3, h4, (oth k (fun e => by subst e; rw [hb] at h5; cases h5)).trans h5⟩⟩
    · exact (h.locs id k b' h3 h4).keep hle (Pre.refl _) (fun _ => oth b' (fun e' => hd1.1 id (e' ▸ h4)))
    · rw [fro b' o (fun e' => hd1.1 id (e' ▸ h4))]; exact h.own id cs b' h3 h4 o
    · obtain ⟨htl, hne⟩ := hmem ht
      obtain ⟨v, e', sz', h3, h4⟩ := h.toks t htl
      refine ⟨v, e', sz', h3, fun b' hb' => ?_⟩
      have hbb : b' ≠ b := fun e2 => hne (hd2 t htl v e' sz' h3 (e2 ▸ hb'))
      obtain ⟨n', xs, h5, h6⟩ := h4 b' hb'
      refine ⟨n', xs, ownsRow_keep h5 (fun b2 hb2 => oth b2 (fun e2 => ?_)), fun o ho => by rw [fro b' o hbb]; exact h6 o ho⟩
      rw [rowB_own hb' h5] at hb2
      simp only [Option.some.injEq] at hb2
      exact hbb (hb2.trans e2)
    · obtain ⟨htl, hne⟩ := hmem ht
      obtain ⟨h5, h6⟩ := h.tdis t htl v e' sz' b' h3 h4
      exact ⟨h5, fun t' ht' => h6 t' (hmem ht').1⟩
  obtain ⟨t, ht⟩ := h.fresh
  obtain ⟨ht2, hle2⟩ := hI.token (t := t) (v := .slice (some ⟨b, 0, none⟩) (n + m) c) (e := e) (sz := sz) (by simpa [GP.fz] using ht) (fun b' hb' => by
    have hbe : b' = b := by
      simp only [rowB] at hb'
      split at hb'
      · simpa using hb'.symm
      · cases hb'
    subst hbe
    refine ⟨⟨n + m, cur.toList.take (n * sz) ++ nc, ⟨by rw [List.length_append, List.length_take, hnl, Nat.add_mul]; omega, .inr ⟨_, c, _, rfl, hn0b, same, hm, hcm, ?_, ?_⟩⟩, fun q hq => ?_⟩, hd1, fun t' ht' v' e' sz' h3 h4 => ?_⟩
    · simp only [List.size_toArray, List.length_append, List.length_take, List.length_drop]
      omega
    · rw [show (n + m) * sz = (cur.toList.take (n * sz) ++ nc).length by rw [List.length_append, List.length_take, hnl, Nat.add_mul]; omega]
      exact List.take_left
    · rw [Nat.add_mul] at hq
      simp only [GP.fz]
      rw [if_neg (by omega)]
      exact hfr q (by omega)
    · rw [h.nodup.mem_erase_iff] at ht'
      exact ht'.1 (hd2 t' ht'.2 v' e' sz' h3 h4))
  refine ⟨_, t, ht, hle.trans hle2, ht2, by simp [GP.tk], fun q hq => ?_⟩
  simp only [GP.tk, GP.fz]
  rw [if_pos ⟨trivial, by omega, by omega⟩, Nat.add_sub_cancel_left]
end
end Go.Proofs.Ytaejmbmkkdkliaa
namespace Go.Proofs.Ytaejmbmkkdkliaa
open Go.RowKit Go.Shelf

section
variable {P : Program} {F : Fence} {E : Env P F} {g : GP} {rho rd ks : List Nat} {R : Nat → Prop} {ys : Option (List (List PV))} {w : World} {s : AS} {a : Act} {o : Oper} {K : AV → AS → Prop} {lst : Bool} {loc : List ABlk} {live : List Nat}

theorem fillA_length : ∀ {ps : List (Nat × Nat × AX)} {cs cs' : List AV}, fillA s ps cs = some cs' → cs'.length = cs.length
  | [], cs, cs', h => by simp only [fillA, Option.some.injEq] at h; rw [h]
  | (off, n, x) :: l, cs, cs', h => by
    simp only [fillA] at h
    split at h
    · rename_i v hv
      split at h
      · rename_i hlen
        have hvl : v.length = n := by
          unfold cellsA at hv
          split at hv
          · split at hv
            · rename_i e; simp only [Option.some.injEq] at hv; subst hv; simpa using e
            · cases hv
          · cases hv
          · cases hv
          · cases hv
          · split at hv
            · rename_i e; simp only [Option.some.injEq] at hv; subst hv; exact e
            · cases hv
          · cases hv
          · split at hv
            · rename_i e; simp only [Option.some.injEq] at hv; subst hv; simpa using e.symm
            · cases hv
        rw [fillA_length h]
        simp only [putCells, List.length_append, List.length_take, List.length_drop]
        omega
      · cases h
    · cases h

theorem eff_bslice {t e : TypeId} {n sz : Nat} {m : Bool} {z : List PV} {qs : Array (Nat × Operand)} {ps : List (Nat × Nat × AX)} (hop : o.op = .buildSlice t n qs) (hu : P.underlying t = some (.slice e)) (hsz : sizeN P e = some sz) (hz : zeroN P e = some z)
    (hb : n * sz ≤ 1000 ∧ 0 < sz ∧ z.length = sz) (hc : cparts (fun i => some (i * sz, sz)) qs.toList = some ps) (hI : Inv E g rho R ks s.loc s.live s.ys w) (hT : Tmps g rho s a)
    (h : effQ (SemK P F) lst rd s K (.bslice m e sz n z ps)) : EffOk P F a w o (Did E g rho ks lst rd w (s.t, s.base) K) := by
  obtain ⟨it, zv, hit, hzv, hr⟩ := zeroN_rel (g := g) hz
  unfold sizeN at hsz
  rw [Option.map_eq_some_iff] at hsz
  obtain ⟨ti, hti, hsz⟩ := hsz
  rw [hit] at hti
  simp only [Option.some.injEq] at hti
  subst hti
  have hzs : zv.cells.size = sz := by rw [← Array.length_toList, ← hr.len, hb.2.2]
  have hn : n ≤ 1000 := Nat.le_trans (Nat.le_mul_of_pos_right n hb.2.1) hb.1
  simp only [effQ] at h
  split at h
  · rename_i cs hf
    obtain ⟨vs', h1, h2⟩ := fill_rel _ hc hf hT (RelLP.toRelL (rho := rho) (relL_repl hr n))
    have hcl : vs'.length = n * sz := by
      rw [← h2.len, fillA_length hf, List.length_map, repl_length, hb.2.2]
    have hparts : (qs.map fun (i, x) => (i, a.eval x)).toList = qs.toList.map fun q => (q.1, a.eval q.2) := by simp
    have hmade : (Array.range (n * sz)).map (zv.cells[· % zv.cells.size]!) = (repl n zv.cells.toList).toArray := by
      have := made_repl zv.cells n (by omega)
      rw [hzs] at this
      rw [← this, hzs]
    have run : (execOp a.eval o).run P w = .ok (.value (.slice (some ⟨w.heap.size, 0, none⟩) n n)) (w.alloc (.cells vs'.toArray e)) := by
      simp only [execOp, hop]
      refine run_vw ?_
      by_cases h0 : n * it.size = 0
      · have hn0 : n = 0 := by
          rcases Nat.mul_eq_zero.1 h0 with h | h
          · exact h
          · omega
        subst hn0
        have h3 : Instr.fill (fun i => some (i * sz, sz)) #[] (qs.toList.map fun q => (q.1, a.eval q.2)) = some vs'.toArray := h1
        have h4 : Instr.fill (fun i => some (i * it.size, it.size)) #[] (qs.map fun (i, x) => (i, a.eval x)).toList = some vs'.toArray := by
          rw [hparts, hsz]; exact h3
        simp only [Array.toList_map] at h4
        simp [Instr.buildSlice, run_underlying hu, sizeOf, typeInfo, hit, newRow]
        have h5 : (Array.range 0).map (fun _ : Nat => (default : Value)) = #[] := by simp [Array.range_zero']
        rw [h5, h4]
        simp
      · refine run_buildSlice w t e n _ _ it zv hu hit hzv (by rw [hsz]; omega) h0 ?_
        rw [hparts, hsz, hmade]
        exact h1
    cases m with
    | true =>
      have hI2 := hI.box (us := []) e h2
      rw [List.append_nil] at hI2
      exact .inl ⟨_, _, run, .sli s.loc.length n sz, g, rho ++ [w.heap.size], R, mkOwn s cs, hI2, GP.le.refl g, Pre.app _ _, .sli (by rw [← hI.len]; simp) (Nat.le_refl _) (by unfold maxLen; omega) (by omega), rfl,
        fun _ id _ b hb' => Below.heap_alloc w _ b (hI.rlt id b hb').2.1, h⟩
    | false =>
      simp only at h
      split at h
      · rename_i l hl
        rw [pures_map hl] at h2
        have hrl := h2.pure
        obtain ⟨hI2, hle⟩ := hI.lay vs' e h2.one (n * sz) (by omega) w rfl rfl rfl rfl
        have hll : l.length = n * sz := by rw [hrl.len, hcl]
        refine .inl ⟨_, _, run, .p (.sl .full sz (rows sz n l)), _, rho, R, s, hI2, hle, Pre.refl rho, .p ?_, rfl, fun _ id _ b hb' => Below.heap_alloc w _ b (hI.rlt id b hb').2.1, h⟩
        refine relP_rows hll ⟨hrl.len, hrl.one, fun i x v hx hv => (hrl.at_ i x v hx hv).mono hle⟩ (by omega) (Nat.le_refl _) (by unfold maxLen; omega) .full rfl (fun q hq => ?_)
        simp only [GP.fz]
        rw [if_pos ⟨trivial, by omega, hq⟩]
      · exact h.elim
  · exact h.elim

theorem rows_repl (z : List PV) : ∀ n, rows z.length n (repl n z) = List.replicate n z
  | 0 => rfl
  | n + 1 => by simp [rows, repl, rows_repl z n, List.replicate_succ]
theorem repl_add {α : Type} (z : List α) : ∀ n m, repl (n + m) z = repl n z ++ repl m z
  | 0, m => by simp [repl]
  | n + 1, m => by rw [show n + 1 + m = (n + m) + 1 by omega]; simp [repl, repl_add z n m]

theorem int_of {x : AX} {q : Operand} {n : Int} (hx : cx q = some x) (hT : Tmps g rho s a) (h : (x.ev s).int? = some n) : ∃ k, a.eval q = .int k n ∧ scalar (.int k n) = true := by
  have h0 := cx_rel hT hx
  generalize x.ev s = u at h0 h
  cases u with
  | p y =>
    cases y with
    | val v =>
      cases v with
      | int k m =>
        simp only [AV.int?, Option.some.injEq] at h
        subst h
        exact ⟨k, rel_val h0⟩
      | _ => simp [AV.int?] at h
    | _ => simp [AV.int?] at h
  | _ => simp [AV.int?] at h

theorem eff_mks {t e : TypeId} {m : Bool} {z : List PV} {ql qc : Operand} {xl xc : AX} {it : TypeInfo} (hop : o.op = .makeSlice t ql qc) (hu : P.underlying t = some (.slice e)) (hit : P.info? e = some it) (hz : zeroN P e = some z) (hl : cx ql = some xl) (hc : cx qc = some xc)
    (hb : 0 < it.size ∧ z.length = it.size ∧ it.bytes ≤ 1000) (hI : Inv E g rho R ks s.loc s.live s.ys w) (hT : Tmps g rho s a)
    (h : effQ (SemK P F) lst rd s K (.mks m e it.size it.bytes z xl xc)) : EffOk P F a w o (Did E g rho ks lst rd w (s.t, s.base) K) := by
  obtain ⟨it', zv, hit', hzv, hr⟩ := zeroN_rel (g := g) hz
  rw [hit] at hit'
  simp only [Option.some.injEq] at hit'
  subst hit'
  have hzs : zv.cells.size = it.size := by rw [← Array.length_toList, ← hr.len, hb.2.1]
  have hzl : zv.cells.toList.length = it.size := by simpa using hzs
  simp only [effQ] at h
  split at h
  · rename_i l c h1 h2
    obtain ⟨hl0, hlc, hcm, h⟩ := h
    obtain ⟨kl, e1, _⟩ := int_of hl hT h1
    obtain ⟨kc, e2, _⟩ := int_of hc hT h2
    have hbytes : (it.bytes : Int) * c ≤ 281474976710656 := by
      have h3 : (it.bytes : Int) * c ≤ 1000 * 1000000 := Int.mul_le_mul (by omega) hcm (by omega) (by omega)
      omega
    have hmade : madeCells zv.cells (c.toNat * it.size) = (repl c.toNat zv.cells.toList).toArray := by
      have := made_repl zv.cells c.toNat (by omega)
      rw [hzs] at this
      unfold madeCells
      rw [hzs, ← this]
    have run : (execOp a.eval o).run P w = .ok (.value (.slice (some ⟨w.heap.size, 0, none⟩) l.toNat c.toNat)) (w.alloc (.cells (repl c.toNat zv.cells.toList).toArray e)) := by
      simp only [execOp, hop]
      refine run_vw ?_
      rw [e1, e2, run_make w t e it zv hu hit hzv kl kc l c hl0 hlc hbytes (by omega), hmade]
    have hrc := relL_repl hr c.toNat
    have hpre : repl c.toNat zv.cells.toList = repl l.toNat zv.cells.toList ++ repl (c.toNat - l.toNat) zv.cells.toList := by
      rw [← repl_add]; congr 1; omega
    cases m with
    | true =>
      have hI2 := hI.box (us := repl (c.toNat - l.toNat) zv.cells.toList) e (RelLP.toRelL (rho := rho) (relL_repl hr l.toNat))
      rw [← hpre] at hI2
      exact .inl ⟨_, _, run, .sli s.loc.length l.toNat it.size, g, rho ++ [w.heap.size], R, mkOwn s _, hI2, GP.le.refl g, Pre.app _ _, .sli (by rw [← hI.len]; simp) (by omega) (by unfold maxLen; omega) (by omega), rfl,
        fun _ id _ b hb' => Below.heap_alloc w _ b (hI.rlt id b hb').2.1, h⟩
    | false =>
      obtain ⟨g', t', ht, hle, hI2, htok, hfz⟩ := hI.layTok (repl c.toNat zv.cells.toList) e hrc.one l.toNat c.toNat it.size (by rw [repl_length, hzl]) (by omega) (by unfold maxLen; omega) w rfl rfl rfl rfl
      refine .inl ⟨_, _, run, _, g', rho, R, { s with live := t' :: s.live }, hI2, hle, Pre.refl rho, .p ?_, rfl, fun _ id _ b hb' => Below.heap_alloc w _ b (hI.rlt id b hb').2.1, h t' (hI.notin ht)⟩
      have hrl := relL_repl hr l.toNat
      rw [← rows_repl, hb.2.1]
      refine relP_rows (by rw [repl_length, hb.2.1]) ⟨hrl.len, hrl.one, fun i x v hx hv => (hrl.at_ i x v hx hv).mono hle⟩ (by omega) (by omega) (by unfold maxLen; omega) _ htok (fun q hq => ?_)
      rw [hfz q hq, hpre, List.getD_eq_getElem?_getD, List.getD_eq_getElem?_getD, List.getElem?_append_left (by rw [repl_length, hzl]; exact hq)]
  · exact h.elim
end
end Go.Proofs.Ytaejmbmkkdkliaa
namespace Go.Proofs.Ytaejmbmkkdkliaa
open Go.RowKit Go.Shelf

section
variable {P : Program} {F : Fence} {E : Env P F} {g : GP} {rho rd ks : List Nat} {R : Nat → Prop} {ys : Option (List (List PV))} {w : World} {s : AS} {a : Act} {o : Oper} {K : AV → AS → Prop} {lst : Bool} {loc : List ABlk} {live : List Nat}

theorem run_append_zero {t ty e : TypeId} {it : TypeInfo} (hu : P.underlying t = some (.slice e)) (hit : P.info? e = some it) {ad ad' : Option Addr} {n c c' : Nat} (hc : n ≤ c) (w : World) :
    (Builtin.append_ #[t, t] ty #[.slice ad n c, .slice ad' 0 c']).run P w = .ok (.slice ad n c) w := by
  cases ad <;> cases ad' <;> simp [Builtin.append_, run_underlying hu, sizeOf, typeInfo, hit, Builtin.lenOf, Builtin.firstCells, hc, storeCells, loadCells, loadCellsFrom]

theorem range_get (F : Nat → Value) (n j : Nat) (v : Value) (h : ((List.range n).map F)[j]? = some v) : j < n ∧ v = F j := by
  rw [List.getElem?_map, Option.map_eq_some_iff] at h
  obtain ⟨q, hq, rfl⟩ := h
  obtain ⟨h1, h2⟩ := List.getElem?_eq_some_iff.1 hq
  rw [List.length_range] at h1
  rw [List.getElem_range] at h2
  subst h2
  exact ⟨h1, rfl⟩

/-- What append does: nothing; a row grows where it lies; a new row. -/
theorem app_cases (hI : Inv E g rho R ks loc live ys w) {t ty e : TypeId} {it : TypeInfo} {zv : Value} (hu : P.underlying t = some (.slice e)) (hit : P.info? e = some it) (hzv : it.zero = some zv) (hzs : zv.cells.size = it.size) (h1z : ∀ v ∈ zv.cells.toList, v.oneCell' = true) (hsz : 0 < it.size) (hby : it.bytes ≤ 1000)
    {k k2 : SK} {es news : List (List PV)} {vx vy : Value} (hx : RelP g (.sl k it.size es) vx) (hy : RelP g (.sl k2 it.size news) vy) (hlen : es.length + news.length ≤ 1000000)
    (hk : canApp live e it.size k) :
    (news = [] ∧ (Builtin.append_ #[t, t] ty #[vx, vy]).run P w = .ok vx w) ∨
    (∃ t1 b n c cur, ∃ nc : List Value, k = .own t1 e it.size ∧ t1 ∈ live ∧ g.tok t1 = some (.slice (some ⟨b, 0, none⟩) n c, e, it.size) ∧ n < c ∧ w.heap[b]? = some (.cells cur e (0, 0)) ∧ c ≤ maxLen ∧ cur.size = c * it.size ∧ (∀ o, n * it.size ≤ o → g.frz b o = none) ∧
      es.length = n ∧ nc.length = news.length * it.size ∧ (∀ v ∈ nc, v.oneCell' = true) ∧ n + news.length ≤ c ∧ (∃ F : Nat → Value, (∀ q, q < n * it.size → g.frz b q = some (F q)) ∧ ∀ (i j : Nat) (e : List PV) (x : PV), es[i]? = some e → e[j]? = some x → RelP g x (F (i * it.size + j))) ∧
      (∀ (i j : Nat) (e : List PV) (x : PV), news[i]? = some e → e[j]? = some x → RelP g x (nc.getD (i * it.size + j) undef)) ∧
      (Builtin.append_ #[t, t] ty #[vx, vy]).run P w = .ok (.slice (some ⟨b, 0, none⟩) (n + news.length) c) (w.setRow b (cur.toList.take (n * it.size) ++ nc ++ cur.toList.drop (n * it.size + nc.length)).toArray)) ∨
    (news ≠ [] ∧ ∃ (cs : List Value) (c : Nat), cs.length = c * it.size ∧ es.length + news.length ≤ c ∧ c ≤ maxLen ∧ (∀ v ∈ cs, v.oneCell' = true) ∧
      (∀ (i j : Nat) (e : List PV) (x : PV), (es ++ news)[i]? = some e → e[j]? = some x → RelP g x (cs.getD (i * it.size + j) undef)) ∧
      (Builtin.append_ #[t, t] ty #[vx, vy]).run P w = .ok (.slice (some ⟨w.heap.size, 0, none⟩) (es.length + news.length) c) (w.drew.alloc (.cells cs.toArray e))) := by
  obtain ⟨ad, n, c, F, rfl, hl, hc, hm, hok, hz, hat, hrel⟩ := relP_cells hx
  obtain ⟨ad2, m, c2, F2, rfl, hl2, hc2, hm2, hok2, hz2, hat2, hrel2⟩ := relP_cells hy
  have cell : ∀ {b o q : Nat} {v : Value}, g.frz b (o + q) = some v → w.cell? ((⟨b, o, none⟩ : Addr).add q) = some v ∧ v.oneCell' = true := fun h => by
    rw [addr_add]; exact hI.agree.frz _ _ _ h
  by_cases hm0 : m = 0
  · subst hm0
    exact .inl ⟨List.eq_nil_of_length_eq_zero hl2, run_append_zero hu hit hc w⟩
  · have hne : news ≠ [] := fun e => hm0 (by rw [← hl2, e]; rfl)
    obtain ⟨b2, o2, rfl, hf2⟩ := hat2 (by omega)
    have hncl : ((List.range (m * it.size)).map F2).length = m * it.size := by simp
    have hnews : ∀ j u, ((List.range (m * it.size)).map F2)[j]? = some u → w.cell? ((⟨b2, o2, none⟩ : Addr).add j) = some u := fun j u h => by
      obtain ⟨h1, rfl⟩ := range_get _ _ _ _ h
      exact (cell (hf2 j h1)).1
    have hone : ∀ v ∈ (List.range (m * it.size)).map F2, v.oneCell' = true := fun v hv => by
      obtain ⟨j, hj⟩ := List.mem_iff_getElem?.1 hv
      obtain ⟨h1, rfl⟩ := range_get _ _ _ _ hj
      exact (cell (hf2 j h1)).2
    have lt : ∀ {N : Nat} {l : List (List PV)} {i j : Nat} {e : List PV} {x : PV}, (∀ (i : Nat) (e : List PV), l[i]? = some e → e.length = it.size) → l.length = N → l[i]? = some e → e[j]? = some x → i * it.size + j < N * it.size := by
      intro N l i j e x hz hN he hx
      have h1 : i < N := by rw [← hN]; exact (List.getElem?_eq_some_iff.1 he).1
      have h2 : j < it.size := by rw [← hz i e he]; exact (List.getElem?_eq_some_iff.1 hx).1
      have : (i + 1) * it.size ≤ N * it.size := Nat.mul_le_mul_right _ h1
      rw [Nat.add_mul] at this
      omega
    have relN : ∀ (i j : Nat) (e : List PV) (x : PV), news[i]? = some e → e[j]? = some x → RelP g x (((List.range (m * it.size)).map F2).getD (i * it.size + j) undef) := fun i j e x he hx => by
      have h1 := lt hz2 hl2 he hx
      have : ((List.range (m * it.size)).map F2).getD (i * it.size + j) undef = F2 (i * it.size + j) := by simp [List.getD_eq_getElem?_getD, h1]
      rw [this]
      exact hrel2 i j e x he hx
    by_cases hroom : n + m ≤ c
    · have hlt : n < c := by omega
      cases k with
      | sh => exact hk.elim
      | full => have : c = n := hok; omega
      | own t1 e' sz' =>
        obtain ⟨ht1, rfl, rfl⟩ := hk
        have htok : g.tok t1 = some (.slice ad n c, e', it.size) := hok
        obtain ⟨v, e2, sz2, h3, h4⟩ := hI.toks t1 ht1
        rw [htok] at h3
        simp only [Option.some.injEq, Prod.mk.injEq] at h3
        obtain ⟨rfl, rfl, rfl⟩ := h3
        obtain ⟨b, hb⟩ : ∃ b, rowB (.slice ad n c) = some b := ⟨_, by simp only [rowB]; rw [if_pos hlt]⟩
        obtain ⟨n', xs, h5, h6⟩ := h4 b hb
        obtain ⟨c', cur, h7, _, _, hblk, _, hcs, htake⟩ := rowB_row hb h5
        simp only [Value.slice.injEq] at h7
        obtain ⟨rfl, rfl, rfl⟩ := h7
        refine .inr (.inl ⟨t1, b, n, c, cur, _, rfl, ht1, htok, hlt, hblk, hm, hcs, h6, hl, by rw [hncl, hl2], hone, by omega, ⟨F, fun q hq => ?_, hrel⟩, relN, ?_⟩)
        · have hn0 : 0 < n := by
            rcases Nat.eq_zero_or_pos n with h0 | h0
            · rw [h0] at hq; omega
            · exact h0
          obtain ⟨b', o', e1, hf⟩ := hat hn0
          simp only [Option.some.injEq, Addr.mk.injEq, and_true] at e1
          obtain ⟨rfl, rfl⟩ := e1
          have := hf q hq
          rwa [Nat.zero_add] at this
        · rw [hl2]
          refine run_append_room (P := P) w t ty e' it hu hit b n c cur hblk ⟨b2, o2, none⟩ m c2 _ hncl hnews hone hroom ?_
          rw [hncl, hcs, ← Nat.add_mul]
          exact Nat.mul_le_mul_right _ hroom
    · have hfit : Builtin.nextslicecap (n + m) c * it.bytes ≤ 281474976710656 := growslice_fits (by omega) (by
        have : (n + m) * it.bytes ≤ 1000000 * 1000 := Nat.mul_le_mul (by omega) hby
        omega)
      have hgc : n + m ≤ grownCap w (n + m) c e := grownCap_ge w _ _ _
      have hgm : grownCap w (n + m) c e ≤ maxLen := grownCap_le_maxLen w _ _ _ (by unfold maxLen; omega)
      refine .inr (.inr ⟨hne, (List.range (n * it.size)).map F ++ (List.range (m * it.size)).map F2 ++ (Builtin.zeroCells zv.cells (grownCap w (n + m) c e - (n + m))).toList, grownCap w (n + m) c e, ?_, by omega, hgm, ?_, ?_, ?_⟩)
      · simp only [List.length_append, List.length_map, List.length_range, Array.length_toList, size_zeroCells, hzs, ← Nat.add_mul]
        congr 1
        omega
      · intro v hv
        rcases List.mem_append.1 hv with hv | hv
        · rcases List.mem_append.1 hv with hv | hv
          · obtain ⟨j, hj⟩ := List.mem_iff_getElem?.1 hv
            obtain ⟨h1, rfl⟩ := range_get _ _ _ _ hj
            have hn0 : 0 < n := by
              rcases Nat.eq_zero_or_pos n with h0 | h0
              · rw [h0] at h1; omega
              · exact h0
            obtain ⟨b', o', e1, hf⟩ := hat hn0
            exact (cell (hf j h1)).2
          · exact hone v hv
        · unfold Builtin.zeroCells at hv
          simp only [Array.mem_toList_iff, Array.mem_map] at hv
          obtain ⟨q, hq, rfl⟩ := hv
          have hlt : q % zv.cells.size < zv.cells.size := Nat.mod_lt _ (by omega)
          have h5 : zv.cells[q % zv.cells.size]! = zv.cells[q % zv.cells.size] := getElem!_pos zv.cells (q % zv.cells.size) hlt
          rw [h5]
          exact h1z _ (by simp)
      · intro i j e' x he hx
        by_cases hi : i < es.length
        · rw [List.getElem?_append_left hi] at he
          have h1 := lt hz hl he hx
          rw [List.append_assoc, List.getD_eq_getElem?_getD, List.getElem?_append_left (by simpa using h1)]
          have : ((List.range (n * it.size)).map F)[i * it.size + j]?.getD undef = F (i * it.size + j) := by simp [h1]
          rw [this]
          exact hrel i j e' x he hx
        · rw [List.getElem?_append_right (by omega)] at he
          have h1 := lt hz2 hl2 he hx
          have e1 : i * it.size + j = n * it.size + ((i - es.length) * it.size + j) := by
            have : i = n + (i - es.length) := by omega
            conv => lhs; rw [this, Nat.add_mul]
            omega
          rw [List.append_assoc, e1, List.getD_eq_getElem?_getD, List.getElem?_append_right (by simp), List.length_map, List.length_range, Nat.add_sub_cancel_left, List.getElem?_append_left (by simpa using h1), ← List.getD_eq_getElem?_getD]
          exact relN _ j e' x he hx
      · rw [hl, hl2]
        cases ad with
        | none =>
          have hn0 : n = 0 := by
            rcases Nat.eq_zero_or_pos n with h0 | h0
            · exact h0
            · obtain ⟨b', o', e1, _⟩ := hat h0; cases e1
          have hc0 : c = 0 := by
            cases k with
            | sh => exact hk.elim
            | full => have : c = n := hok; omega
            | own t1 e' sz' =>
              obtain ⟨ht1, rfl, rfl⟩ := hk
              rcases Nat.lt_or_ge n c with hlt | hge
              · have htok : g.tok t1 = some (.slice none n c, e', it.size) := hok
                obtain ⟨v, e2, sz2, h3, h4⟩ := hI.toks t1 ht1
                rw [htok] at h3
                simp only [Option.some.injEq, Prod.mk.injEq] at h3
                obtain ⟨rfl, rfl, rfl⟩ := h3
                obtain ⟨b, hb⟩ : ∃ b, rowB (.slice none n c) = some b := ⟨_, by simp only [rowB]; rw [if_pos hlt]⟩
                obtain ⟨n', xs, h5, h6⟩ := h4 b hb
                obtain ⟨c', cur, h7, _⟩ := rowB_row hb h5
                simp at h7
              · omega
          subst hn0
          subst hc0
          have hr := run_append_nil (P := P) w t ty e it zv hu hit hzv ⟨b2, o2, none⟩ m c2 _ hncl hnews (by omega) (by omega) (by
            have : m * it.bytes ≤ 1000000 * 1000 := Nat.mul_le_mul (by omega) hby
            omega)
          simp only [Nat.zero_add] at hr ⊢
          rw [hr]
          congr 3
          apply Array.ext'
          simp
        | some b =>
          have holds : ∀ j v, ((List.range (n * it.size)).map F)[j]? = some v → w.cell? (b.add j) = some v := fun j v h => by
            obtain ⟨h1, rfl⟩ := range_get _ _ _ _ h
            have hn0 : 0 < n := by
              rcases Nat.eq_zero_or_pos n with h0 | h0
              · rw [h0] at h1; omega
              · exact h0
            obtain ⟨b', o', e1, hf⟩ := hat hn0
            simp only [Option.some.injEq] at e1
            subst e1
            exact (cell (hf j h1)).1
          have hr := run_append_grow (P := P) w t ty e it zv hu hit hzv b n c _ (by simp) holds ⟨b2, o2, none⟩ m c2 _ hncl hnews (by omega) (by omega) hfit
          rw [hr]
          congr 3
          apply Array.ext'
          simp

theorem relP_nz {k : SK} {sz sz' : Nat} {es : List (List PV)} {v : Value} (h : RelP g (.sl k sz es) v) (he : sz = sz' ∨ es = []) : RelP g (.sl k sz' es) v := by
  rcases he with rfl | rfl
  · exact h
  · exact relP_nilsz h
theorem run_callV {b : Builtin} {c : Call} (hop : o.op = .call c) (hb : c.callee = .builtin b) {m : Sem Value} {w w' : World} {v : Value}
    (hm : ∀ cs, (builtin b c.argTypes o.type cs (c.args.map a.eval)) = (do pure (Next.value (← m)) : Sem Next)) (hr : m.run P w = .ok v w') : (execOp a.eval o).run P w = .ok (.value v) w' := by
  simp only [execOp, hop, Sem.run_bind, resolve, hb, Sem.run_pure, Result.andThen_ok, invoke]
  rw [hm]
  exact run_vw hr

theorem eff_app {c : Call} (hop : o.op = .call c) (hb : c.callee = .builtin .append) {t e : TypeId} {it : TypeInfo} {m : Bool} {z : List PV} {qx qy : Operand} {x y : AX} (hat : c.argTypes.toList = [t, t]) (hargs : c.args.toList = [qx, qy])
    (hu : P.underlying t = some (.slice e)) (hit : P.info? e = some it) (hz : zeroN P e = some z) (hx : cx qx = some x) (hy : cx qy = some y) (hb2 : 0 < it.size ∧ z.length = it.size ∧ it.bytes ≤ 1000)
    (hI : Inv E g rho R ks s.loc s.live s.ys w) (hT : Tmps g rho s a) (h : effQ (SemK P F) lst rd s K (.app m e it.size it.bytes z x y)) : EffOk P F a w o (Did E g rho ks lst rd w (s.t, s.base) K) := by
  obtain ⟨it', zv, hit', hzv, hr⟩ := zeroN_rel (g := g) hz
  rw [hit] at hit'
  simp only [Option.some.injEq] at hit'
  subst hit'
  have hzs : zv.cells.size = it.size := by rw [← Array.length_toList, ← hr.len, hb2.2.1]
  have harr : c.args.map a.eval = #[a.eval qx, a.eval qy] := by apply Array.ext'; simp [hargs]
  have htarr : c.argTypes = #[t, t] := by apply Array.ext'; simp [hat]
  have run : ∀ {v : Value} {w' : World}, (Builtin.append_ #[t, t] o.type #[a.eval qx, a.eval qy]).run P w = .ok v w' → (execOp a.eval o).run P w = .ok (.value v) w' := fun hr => by
    refine run_callV hop hb (fun _ => rfl) ?_
    rw [harr, htarr]
    exact hr
  have h0 := cx_rel hT hx
  have h1 := cx_rel hT hy
  simp only [effQ] at h
  split at h
  · rename_i k sz1 es k2 sz2 news he1 he2
    rw [he1] at h0
    rw [he2] at h1
    generalize hvx : a.eval qx = vx at h0 run
    generalize hvy : a.eval qy = vy at h1 run
    obtain ⟨hs1, hs2, hlen, h⟩ := h
    cases h0 with
    | p h0 =>
    cases h1 with
    | p h1 =>
    have h0 := relP_nz h0 hs1
    have h1 := relP_nz h1 hs2
    have hza : ∀ (i : Nat) (e : List PV), es[i]? = some e → e.length = it.size := by
      obtain ⟨_, _, _, _, _, _, _, _, _, hz, _⟩ := relP_cells h0; exact hz
    have hzb : ∀ (i : Nat) (e : List PV), news[i]? = some e → e.length = it.size := by
      obtain ⟨_, _, _, _, _, _, _, _, _, hz, _⟩ := relP_cells h1; exact hz
    have hzc : ∀ (i : Nat) (e : List PV), (es ++ news)[i]? = some e → e.length = it.size := fun i e he => by
      by_cases hi : i < es.length
      · rw [List.getElem?_append_left hi] at he; exact hza i e he
      · rw [List.getElem?_append_right (by omega)] at he; exact hzb _ e he
    have keep : ∀ id ∈ rd, ∀ b, rho[id]? = some b → ∀ cs : List Value, (w.drew.alloc (.cells cs.toArray e)).heap[b]? = w.heap[b]? := fun id _ b hb' cs => Below.heap_alloc w.drew _ b (hI.rlt id b hb').2.1
    cases m with
    | false =>
      obtain ⟨hk, h⟩ := h
      have hsub : (liveApp s.live k).Sublist s.live := by
        unfold liveApp
        split
        · exact List.erase_sublist
        · exact List.Sublist.refl _
      rcases app_cases (ty := o.type) hI hu hit hzv hzs hr.one hb2.1 hb2.2.2 h0 h1 hlen hk with ⟨rfl, hrun⟩ | ⟨t1, b, n, c', cur, nc, rfl, ht1, htok, hnc, hblk, hcm, hcs, hfr, hl, hncl, hone, hroom, ⟨F, hF1, hF2⟩, hN, hrun⟩ | ⟨hne, cs, c', hcs, hcc, hcm, hone, hrel, hrun⟩
      · -- nothing to append
        obtain ⟨t', ht'⟩ := hI.fresh
        obtain ⟨ad, n, c', F, rfl, hl, hc, hm, hok, hz', hat', hrel⟩ := relP_cells h0
        have hI1 := hI.fewer hsub
        obtain ⟨hI2, hle⟩ := hI1.token (t := t') (v := .slice ad n c') (e := e) (sz := it.size) ht' (fun b hb' => by
          cases k with
          | sh => exact hk.elim
          | full =>
            have : c' = n := hok
            subst this
            simp [rowB] at hb'
          | own t1 e' sz' =>
            obtain ⟨ht1, rfl, rfl⟩ := hk
            have htok : g.tok t1 = some (.slice ad n c', e', it.size) := hok
            obtain ⟨v, e2, sz2, h3, h4⟩ := hI.toks t1 ht1
            rw [htok] at h3
            simp only [Option.some.injEq, Prod.mk.injEq] at h3
            obtain ⟨rfl, rfl, rfl⟩ := h3
            obtain ⟨h5, h6⟩ := hI.tdis t1 ht1 _ _ _ b htok hb'
            refine ⟨h4 b hb', h5, fun t2 ht2 v' e2 sz2 h7 h8 => ?_⟩
            simp only [liveApp] at ht2
            rw [hI.nodup.mem_erase_iff] at ht2
            exact ht2.1 (h6 t2 ht2.2 v' e2 sz2 h7 h8))
        refine .inl ⟨_, _, run hrun, _, _, rho, R, { s with live := t' :: liveApp s.live k }, hI2, hle, Pre.refl rho, .p ?_, rfl, fun _ id _ b hb' => rfl, h t' (hI.notin ht')⟩
        rw [List.append_nil]
        exact RelP.sl _ _ _ ad n c' (fun i j => F (i * it.size + j)) hl (by
          have := hl; simp at hlen; omega) hc hm (by simp [SK.ok, GP.tk]) hz' (fun i hi => by
          obtain ⟨b, o', e1, hf⟩ := hat' (by omega)
          refine ⟨b, o', e1, fun j hj => ?_⟩
          have : (i + 1) * it.size ≤ n * it.size := Nat.mul_le_mul_right _ hi
          rw [Nat.add_mul] at this
          rw [Nat.add_assoc]
          exact hle.frz _ _ _ (hf _ (by omega))) (fun i j e x he hx => (hrel i j e x he hx).mono hle)
      · obtain ⟨g', t', ht', hle, hI2, htok', hfz⟩ := hI.room ht1 htok hnc hblk hcm hcs hfr nc news.length hncl hone hroom
        refine .inl ⟨_, _, run hrun, _, g', rho, R, { s with live := t' :: liveApp s.live (.own t1 e it.size) }, hI2, hle, Pre.refl rho, .p ?_, rfl, fun _ id hid b' hb' => setRow_other w b b' _ (fun e' => ?_), h t' (hI.notin ht')⟩
        · refine relP_at (F := fun q => if q < n * it.size then F q else nc.getD (q - n * it.size) undef) (by rw [List.length_append, hl]) hzc (fun i j e x he hx => ?_) (fun q hq => ?_) (by omega) hroom hcm htok'
          · by_cases hi : i < es.length
            · rw [List.getElem?_append_left hi] at he
              have h2 : j < it.size := by rw [← hza i e he]; exact (List.getElem?_eq_some_iff.1 hx).1
              have h3 : (i + 1) * it.size ≤ n * it.size := Nat.mul_le_mul_right _ (by omega)
              rw [Nat.add_mul] at h3
              rw [if_pos (by omega)]
              exact (hF2 i j e x he hx).mono hle
            · rw [List.getElem?_append_right (by omega)] at he
              have e1 : i * it.size + j = n * it.size + ((i - es.length) * it.size + j) := by
                have : i = n + (i - es.length) := by omega
                conv => lhs; rw [this, Nat.add_mul]
                omega
              rw [if_neg (by rw [e1]; omega), e1, Nat.add_sub_cancel_left]
              exact (hN _ j e x he hx).mono hle
          · rw [Nat.zero_add]
            by_cases hq' : q < n * it.size
            · rw [if_pos hq']; exact hle.frz _ _ _ (hF1 q hq')
            · rw [if_neg hq']
              rw [Nat.add_mul] at hq
              have := hfz (q - n * it.size) (by omega)
              rwa [show n * it.size + (q - n * it.size) = q by omega] at this
        · subst e'
          have hrow : rowB (.slice (some ⟨b', 0, none⟩) n c') = some b' := by simp [rowB, hnc]
          exact (hI.tdis t1 ht1 _ _ _ _ htok hrow).1.1 id hb'
      · obtain ⟨g', t', ht', hle, hI2, htok', hfz⟩ := (hI.fewer hsub).layTok cs e hone (es.length + news.length) c' it.size hcs hcc hcm w.drew rfl rfl rfl rfl
        refine .inl ⟨_, _, run hrun, _, g', rho, R, { s with live := t' :: liveApp s.live k }, hI2, hle, Pre.refl rho, .p ?_, rfl, fun _ id hid b' hb' => keep id hid b' hb' cs, h t' (hI.notin ht')⟩
        exact relP_at (F := fun q => cs.getD q undef) (by simp) hzc (fun i j e x he hx => (hrel i j e x he hx).mono hle) (fun q hq => by rw [Nat.zero_add]; exact hfz q hq) (by omega) hcc hcm htok'
    | true =>
      obtain ⟨rfl, hK0, hK1⟩ := h
      rcases app_cases (ty := o.type) hI hu hit hzv hzs hr.one hb2.1 hb2.2.2 h0 h1 hlen trivial with ⟨rfl, hrun⟩ | ⟨t1, b, n, c', cur, nc, hkk, _⟩ | ⟨hne, cs, c', hcs, hcc, hcm, hone, hrel, hrun⟩
      · exact .inl ⟨_, _, run hrun, _, g, rho, R, s, hI, GP.le.refl g, Pre.refl rho, .p h0, rfl, fun _ _ _ _ _ => rfl, hK0 rfl⟩
      · cases hkk
      · have hfl : ∀ (l : List (List PV)), (∀ (i : Nat) (e : List PV), l[i]? = some e → e.length = it.size) → l.flatten.length = l.length * it.size ∧ ∀ (q : Nat) (x : PV), l.flatten[q]? = some x → ∃ i j e, q = i * it.size + j ∧ l[i]? = some e ∧ e[j]? = some x := by
          intro l
          induction l with
          | nil => intro _; exact ⟨by simp, fun q x h => by simp at h⟩
          | cons r l ih =>
            intro hz
            have hr0 : r.length = it.size := hz 0 r rfl
            obtain ⟨i1, i2⟩ := ih (fun i e he => hz (i + 1) e he)
            refine ⟨by simp only [List.flatten_cons, List.length_append, List.length_cons, i1, hr0, Nat.add_mul]; omega, fun q x hq => ?_⟩
            rw [List.flatten_cons] at hq
            by_cases hlt : q < r.length
            · rw [List.getElem?_append_left hlt] at hq
              exact ⟨0, q, r, by simp, rfl, hq⟩
            · rw [List.getElem?_append_right (by omega)] at hq
              obtain ⟨i, j, e', h1, h2, h3⟩ := i2 _ x hq
              exact ⟨i + 1, j, e', by rw [Nat.add_mul]; omega, h2, h3⟩
        obtain ⟨f1, f2⟩ := hfl (es ++ news) hzc
        have hnc : (es.length + news.length) * it.size ≤ cs.length := by rw [hcs]; exact Nat.mul_le_mul_right _ hcc
        have hrl : RelL g rho ((es ++ news).flatten.map .p) (cs.take ((es.length + news.length) * it.size)) := by
          refine ⟨by rw [List.length_map, f1, List.length_take, List.length_append]; omega, fun v hv => hone v (List.mem_of_mem_take hv), fun q x v hx hv => ?_⟩
          rw [List.getElem?_map, Option.map_eq_some_iff] at hx
          obtain ⟨y, hy, rfl⟩ := hx
          obtain ⟨i, j, e', rfl, he, hj⟩ := f2 q y hy
          have := hrel i j e' y he hj
          rw [List.getElem?_take] at hv
          split at hv
          · rw [List.getD_eq_getElem?_getD, hv] at this
            exact .p this
          · cases hv
        have hdrew : Inv E g rho R ks s.loc s.live s.ys w.drew := hI.drew
        have hI2 := hdrew.box (us := cs.drop ((es.length + news.length) * it.size)) e hrl
        rw [List.take_append_drop] at hI2
        exact .inl ⟨_, _, run hrun, .sli s.loc.length (es ++ news).length it.size, g, rho ++ [w.heap.size], R, mkOwn s _, hI2, GP.le.refl g, Pre.app _ _, by
          rw [List.length_append]
          exact .sli (by rw [← hI.len]; simp) hcc hcm (by omega), rfl, fun _ id hid b' hb' => keep id hid b' hb' cs, hK1 hne⟩
  · exact h.elim
end
end Go.Proofs.Ytaejmbmkkdkliaa
