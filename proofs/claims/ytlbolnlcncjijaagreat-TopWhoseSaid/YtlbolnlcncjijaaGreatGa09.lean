/- Calls; all operations are sound. -/
import Derived.Test.YtlbolnlcncjijaaGreatGa07
import Derived.Test.YtlbolnlcncjijaaGreatGa08
namespace Go.Proofs.YtlbolnlcncjijaaGreat
open Go.RowKit Go.Shelf

section
variable {P : Program} {F : Fence} {E : Env P F} {g : GP} {rho rd ks : List Nat} {R : Nat → Prop} {ys : Option (List (List PV))} {w : World} {s : AS} {a : Act} {o : Oper} {K : AV → AS → Prop} {lst : Bool} {loc : List ABlk} {live : List Nat} {av : AV}

theorem purV_ok : ∀ {args : List AV} {L L' : List ABlk} {zs : List PV} {g : GP}, purArgs.purV args L = some (zs, L') → Inv E g rho R ks L live ys w →
    ∃ g', g.le g' ∧ Inv E g' rho R ks L' live ys w ∧ ∀ vs, ArgsRel g rho args vs → ArgsP g' zs vs
  | [], L, L', zs, g, h, hI => by
    simp only [purArgs.purV, Option.some.injEq, Prod.mk.injEq] at h
    obtain ⟨rfl, rfl⟩ := h
    exact ⟨g, GP.le.refl g, hI, fun vs hv => ⟨hv.len, fun i x v hx => by simp at hx⟩⟩
  | x :: xs, L, L', zs, g, h, hI => by
    simp only [purArgs.purV] at h
    split at h
    · rename_i y L1 hy
      split at h
      · rename_i r L2 hr
        simp only [Option.some.injEq, Prod.mk.injEq] at h
        obtain ⟨rfl, rfl⟩ := h
        obtain ⟨g1, h1, h2, h3, h4⟩ := pur_ok 100 hy hI
        obtain ⟨g2, k1, k2, k3⟩ := purV_ok hr h2
        refine ⟨g2, h1.trans k1, k2, fun vs hv => ?_⟩
        match vs, hv with
        | [], hv => have := hv.len; simp at this
        | v :: vs, hv =>
          have ht := k3 vs ⟨by simpa using hv.len, fun i x u hx hu => (hv.at_ (i + 1) x u hx hu).mono h1 (Pre.refl _)⟩
          refine ⟨by simp [ht.len], fun i x u hx hu => ?_⟩
          cases i with
          | zero =>
            simp at hx hu
            subst hx; subst hu
            exact (h3 v (hv.at_ 0 _ v rfl rfl)).mono k1
          | succ i => exact ht.at_ i x u (by simpa using hx) (by simpa using hu)
      · cases h
    · cases h

theorem ArgsP.weak {l r : List PV} (h : PVleL l r) {vs : List Value} (ha : ArgsP g l vs) : ArgsP g r vs := by
  obtain ⟨h1, h2⟩ := h.spec
  refine ⟨by rw [← h1]; exact ha.len, fun i x v hx hv => ?_⟩
  have hi : i < l.length := by rw [h1]; exact (List.getElem?_eq_some_iff.1 hx).1
  exact h2 i _ x (List.getElem?_eq_getElem hi) hx g v (ha.at_ i _ v (List.getElem?_eq_getElem hi) hv)

theorem did_call {f : FuncId} {args : List AV} {vs : List Value} (hI : Inv E g rho R ks s.loc s.live s.ys w) (ha : ArgsRel g rho args vs) (h : SemP P F f args (if lst then [] else rd) K s)
    (hrun : (execOp a.eval o).run P w = (callFunc f vs.toArray).run P w) : EffOk P F a w o (Did E g rho ks lst rd w (s.t, s.base) K) := by
  refine .inr (.inr (.inl ⟨f, vs.toArray, by rw [hrun]; exact h.1 _ _, (h.2 E g rho R ks w vs hI ha).mono ?_⟩))
  rintro e w' ⟨v, av, g', rho', R', loc', live', ys', rfl, h1, h2, h3, h4, h5, h6⟩
  refine ⟨v, rfl, av, g', rho', R', { s with loc := loc', live := live', ys := ys' }, h1, h2, h3, h4, rfl, fun hl id hid => ?_, h6⟩
  rw [hl] at h5
  exact h5 id hid

theorem eff_call {c : Call} {f : FuncId} (hop : o.op = .call c) (hb : c.callee = .value (.func f)) {xs : List AX} (hx : cxs c.args.toList = some xs) (hI : Inv E g rho R ks s.loc s.live s.ys w) (hT : Tmps g rho s a)
    (h : effQ (SemK P F) lst rd s K (.call f xs)) : EffOk P F a w o (Did E g rho ks lst rd w (s.t, s.base) K) := by
  obtain ⟨h1, h2⟩ := cxs_evs hT hx
  refine did_call hI (vs := (c.args.toList.map a.eval)) ⟨by rw [h1]; simp, h2⟩ h ?_
  have : (c.args.toList.map a.eval).toArray = c.args.map a.eval := by apply Array.ext'; simp
  rw [this]
  simp only [execOp, hop, Sem.run_bind, resolve, hb, Act.eval]
  simp [Deferred.ofValue, invoke]

theorem args_append {xs ys : List AV} {us vs : List Value} (h : ArgsRel g rho xs us) (k : ArgsRel g rho ys vs) : ArgsRel g rho (xs ++ ys) (us ++ vs) := by
  refine ⟨by simp [h.len, k.len], fun i y v hy hv => ?_⟩
  by_cases hi : i < xs.length
  · rw [List.getElem?_append_left hi] at hy
    rw [List.getElem?_append_left (by rw [← h.len]; exact hi)] at hv
    exact h.at_ i y v hy hv
  · rw [List.getElem?_append_right (by omega)] at hy
    rw [List.getElem?_append_right (by rw [← h.len]; omega)] at hv
    rw [← h.len] at hv
    exact k.at_ _ y v hy hv
theorem args_map {l : List PV} {vs : Array Value} (hl : l.length = vs.size) (h : ∀ (i : Nat) (x : PV) (v : Value), l[i]? = some x → vs[i]? = some v → RelP g x v) : ArgsRel g rho (l.map .p) vs.toList :=
  ⟨by simpa using hl, fun i x v hx hv => by
    rw [List.getElem?_map, Option.map_eq_some_iff] at hx
    obtain ⟨y, hy, rfl⟩ := hx
    exact .p (h i y v hy (by simpa using hv))⟩

theorem did_yield {args : List AV} {vs : List Value} (hI : Inv E g rho R ks s.loc s.live s.ys w) (ha : ArgsRel g rho args vs) {y : List PV} {l : List (List PV)} (hys : s.ys = some (y :: l)) {xs : List PV} {L' : List ABlk} (hp : purArgs s args = some (xs, L')) (hle : PVleL xs y)
    (hK1 : K (.p (.val (.bool true))) { s with loc := L', ys := some l }) (hK0 : K (.p (.val (.bool false))) { s with loc := L', ys := none })
    (hrun : (execOp a.eval o).run P w = (Instr.yield g.yl vs.toArray).run P w) : EffOk P F a w o (Did E g rho ks lst rd w (s.t, s.base) K) := by
  obtain ⟨g1, k1, k2, k3⟩ := purV_ok hp hI
  have hP := (k3 vs ha).weak hle
  have hfr := k2.fr
  rw [hys] at hfr
  obtain ⟨fn, tmps, assign, body, hy, hR⟩ := E.yld R y l g1 w vs hfr k2.agree hP k2.rsz
  rw [k1.yl] at hy
  refine .inr (.inr (.inr ⟨_, fn, tmps, assign, body, hrun.trans hy, ?_⟩))
  rw [k1.yl] at hR
  refine hR.mono ?_
  rintro e w' ⟨R', g2, m1, m2, m3, m4, m5, m6, m7⟩
  have own : ∀ k, k < w.heap.size → E.n0 ≤ k → ¬ R k → ¬ R' k := fun k h1 h2 h3 h4 => by
    rcases m3 k h4 with h | h
    · exact h3 h
    · omega
  have inv : ∀ ys', E.Φ R' ys' g2 w' → Inv E g2 rho R' ks L' s.live ys' w' := fun ys' hΦ => by
    have tok : ∀ t ∈ s.live, g2.tok t = g1.tok t := fun t ht => by
      obtain ⟨v, e, sz, h1, _⟩ := k2.toks t ht
      rw [h1]; exact m1.tok _ _ h1
    refine ⟨m2, hΦ, Nat.le_trans k2.low m5, k2.len, fun id k b h1 h2 => ?_, fun id b h1 => ?_, fun id cs b h1 hmn h2 o ho => ?_, k2.dis, fun t ht => ?_, fun t ht v e sz b h1 h2 => ?_, k2.nodup, m4, k2.ksnd, fun k hk => ?_⟩
    · obtain ⟨h3, h4, h5⟩ := k2.rlt id b h2
      exact (k2.locs id k b h1 h2).keep m1 (Pre.refl _) (fun _ => (m6 b h4 h3 h5).1)
    · obtain ⟨h3, h4, h5⟩ := k2.rlt id b h1
      exact ⟨h3, Nat.lt_of_lt_of_le h4 m5, own b h4 h3 h5⟩
    · obtain ⟨h3, h4, h5⟩ := k2.rlt id b h2
      exact ((m6 b h4 h3 h5).2 o).trans (k2.own id cs b h1 hmn h2 o ho)
    · obtain ⟨v, e, sz, h1, h2⟩ := k2.toks t ht
      refine ⟨v, e, sz, m1.tok _ _ h1, fun b hb => ?_⟩
      obtain ⟨n, xs, h3, h4⟩ := h2 b hb
      obtain ⟨h5, h6⟩ := h3.lt b (rowB_own hb h3)
      have h7 := (k2.tdis t ht v e sz b h1 hb).1.2
      exact ⟨n, xs, ownsRow_keep h3 (fun b' hb' => by rw [rowB_own hb h3] at hb'; simp only [Option.some.injEq] at hb'; subst hb'; exact (m6 b h6 h5 h7).1), fun o ho => ((m6 b h6 h5 h7).2 o).trans (h4 o ho)⟩
    · rw [tok t ht] at h1
      obtain ⟨⟨h3, h4⟩, h5⟩ := k2.tdis t ht v e sz b h1 h2
      obtain ⟨v2, e2, sz2, h6, h7⟩ := k2.toks t ht
      rw [h1] at h6
      simp only [Option.some.injEq, Prod.mk.injEq] at h6
      obtain ⟨rfl, rfl, rfl⟩ := h6
      obtain ⟨n, xs, h8, _⟩ := h7 b h2
      obtain ⟨h9, h10⟩ := h8.lt b (rowB_own h2 h8)
      exact ⟨⟨h3, own b h10 h9 h4⟩, fun t' ht' v' e' sz' h11 h12 => by rw [tok t' ht'] at h11; exact h5 t' ht' v' e' sz' h11 h12⟩
    · obtain ⟨h1, h2, h3⟩ := k2.marks k hk
      have h4 := (Array.getElem?_eq_some_iff.1 h3).1
      exact ⟨h1, own k h4 h1 h2, ((m6 k h4 h1 h2).1).trans h3⟩
  have keep : ∀ id ∈ rd, ∀ b, rho[id]? = some b → w'.heap[b]? = w.heap[b]? := fun id _ b hb => by
    obtain ⟨h3, h4, h5⟩ := k2.rlt id b hb
    exact (m6 b h4 h3 h5).1
  rcases m7 with ⟨rfl, hΦ⟩ | ⟨rfl, hΦ⟩
  · exact ⟨_, rfl, _, g2, rho, R', { s with loc := L', ys := some l }, inv _ hΦ, k1.trans m1, Pre.refl rho, .p (.val _ rfl), rfl, fun _ => keep, hK1⟩
  · exact ⟨_, rfl, _, g2, rho, R', { s with loc := L', ys := none }, inv _ hΦ, k1.trans m1, Pre.refl rho, .p (.val _ rfl), rfl, fun _ => keep, hK0⟩

theorem eff_callv {c : Call} {q : Operand} (hop : o.op = .call c) (hb : c.callee = .value q) {x : AX} (hq : cx q = some x) {xs : List AX} (hx : cxs c.args.toList = some xs) (hI : Inv E g rho R ks s.loc s.live s.ys w) (hT : Tmps g rho s a)
    (h : effQ (SemK P F) lst rd s K (.callv x xs)) : EffOk P F a w o (Did E g rho ks lst rd w (s.t, s.base) K) := by
  obtain ⟨h1, h2⟩ := cxs_evs hT hx
  have h0 := cx_rel hT hq
  have harg : ArgsRel g rho (evs s xs) (c.args.toList.map a.eval) := ⟨by rw [h1]; simp, h2⟩
  have hca : (c.args.toList.map a.eval).toArray = c.args.map a.eval := by apply Array.ext'; simp
  simp only [effQ] at h
  split at h
  · rename_i f fa fb he
    rw [he] at h0
    obtain ⟨e0, s0⟩ := rel_val h0
    have hfe : fa = #[] ∧ fb = #[] := by simpa [scalar] using s0
    obtain ⟨rfl, rfl⟩ := hfe
    refine did_call hI harg h ?_
    rw [hca]
    simp only [execOp, hop, Sem.run_bind, resolve, hb, e0]
    simp [Deferred.ofValue, invoke]
  · rename_i he
    rw [he] at h0
    split at h
    · rename_i y l hys
      split at h
      · rename_i zs L' hp
        obtain ⟨hle, hK1, hK0⟩ := h
        refine did_yield hI harg hys hp hle hK1 hK0 ?_
        rw [hca]
        generalize hv0 : a.eval q = v0 at h0
        cases h0 with
        | p h0 =>
          cases h0
          simp only [execOp, hop, Sem.run_bind, resolve, hb, hv0]
          simp [Deferred.ofValue, invoke]
      · exact h.elim
    · exact h.elim
  · rename_i f fi cap he
    rw [he] at h0
    generalize hv0 : a.eval q = v0 at h0
    cases h0 with
    | p h0 =>
      cases h0 with
      | clo _ _ _ vf vc hl hl2 hh hh2 =>
        refine did_call hI (args_append (args_append (args_map hl hh) harg) (args_map hl2 hh2)) h ?_
        have : (vf.toList ++ c.args.toList.map a.eval ++ vc.toList).toArray = vf ++ c.args.map a.eval ++ vc := by apply Array.ext'; simp
        rw [this]
        simp only [execOp, hop, Sem.run_bind, resolve, hb, hv0]
        simp [Deferred.ofValue, invoke]
  · rename_i f fi cap he
    rw [he] at h0
    generalize hv0 : a.eval q = v0 at h0
    cases h0 with
    | clo _ _ _ vf vc hl hl2 hh hh2 =>
      have a1 : ArgsRel g rho fi vf.toList := ⟨by simpa using hl, fun i x v hx hv => hh i x v hx (by simpa using hv)⟩
      have a2 : ArgsRel g rho cap vc.toList := ⟨by simpa using hl2, fun i x v hx hv => hh2 i x v hx (by simpa using hv)⟩
      refine did_call hI (args_append (args_append a1 harg) a2) h ?_
      have : (vf.toList ++ c.args.toList.map a.eval ++ vc.toList).toArray = vf ++ c.args.map a.eval ++ vc := by apply Array.ext'; simp
      rw [this]
      simp only [execOp, hop, Sem.run_bind, resolve, hb, hv0]
      simp [Deferred.ofValue, invoke]
  · exact h.elim

theorem run_boundsA {lo hi : Option Value} {n : Nat} {l h : Int} (hlo : (lo = none ∧ l = 0) ∨ ∃ k, lo = some (.int k l)) (hhi : (hi = none ∧ h = n) ∨ ∃ k, hi = some (.int k h)) (h1 : 0 ≤ l) (h2 : l ≤ h) (h3 : h ≤ n) (w : World) :
    (Instr.sliceBounds false n n lo hi none).run P w = .ok (l.toNat, h.toNat, n) w := by
  have e1 : ∀ k (y : Nat) code, h ≤ y → (Instr.sliceBound (.int k h) y code).run P w = .ok h.toNat w := fun k y code hy => run_bound code rfl (by omega) hy w
  have e2 : ∀ k (y : Nat) code, l ≤ y → (Instr.sliceBound (.int k l) y code).run P w = .ok l.toNat w := fun k y code hy => run_bound code rfl h1 hy w
  have e4 : l ≤ (h.toNat : Int) := by omega
  rcases hhi with ⟨rfl, rfl⟩ | ⟨kh, rfl⟩
  · rcases hlo with ⟨rfl, rfl⟩ | ⟨kl, rfl⟩
    · simp [Instr.sliceBounds]
    · simp [Instr.sliceBounds, e2 _ _ _ h2]
  · rcases hlo with ⟨rfl, rfl⟩ | ⟨kl, rfl⟩
    · simp [Instr.sliceBounds, e1 _ _ _ h3]
    · simp [Instr.sliceBounds, e1 _ _ _ h3, e2 _ _ _ e4]

theorem eff_slcA {t e : TypeId} {x : Operand} {lo hi : Option Operand} {len : Nat} (hop : o.op = .slice t x lo hi none) {n : Nat} {x' : AX} {lo' hi' : Option AX} (hu : P.underlying t = some (.array len e)) (hn : sizeN P e = some n) (hx : cx x = some x')
    (hlo : lo.mapM cx = some lo') (hhi : hi.mapM cx = some hi') (hlen : len ≤ 1000000) (h0n : 0 < n) (hI : Inv E g rho R ks s.loc s.live s.ys w) (hT : Tmps g rho s a) (h : effQ (SemK P F) lst rd s K (.slcA n len x' lo' hi')) : EffOk P F a w o (Did E g rho ks lst rd w (s.t, s.base) K) := by
  have h0 := cx_rel hT hx
  unfold sizeN at hn
  rw [Option.map_eq_some_iff] at hn
  obtain ⟨ti, hti, hsz⟩ := hn
  simp only [effQ] at h
  split at h
  · rename_i l hgh cs off L' hl hh hp
    obtain ⟨b1, b2, b3, b4, hK⟩ := h
    obtain ⟨g1, k1, k2, k3, _⟩ := pur_ok 100 hp hI
    have h1 := k3 _ h0
    generalize hv0 : a.eval x = v0 at h1
    cases h1 with
    | ptr _ _ b o' f hat hrel =>
      have L0 := opt_cx hT hlo hl
      have H0 := opt_cx hT hhi hh
      have L1 : (lo.map a.eval = none ∧ l = 0) ∨ ∃ k, lo.map a.eval = some (.int k l) := by
        rcases L0 with ⟨rfl, e⟩ | ⟨q, kq, rfl, e⟩
        · exact .inl ⟨rfl, e⟩
        · exact .inr ⟨kq, by rw [Option.map_some, e]⟩
      have H1 : (hi.map a.eval = none ∧ hgh = (len : Int)) ∨ ∃ k, hi.map a.eval = some (.int k hgh) := by
        rcases H0 with ⟨rfl, e⟩ | ⟨q, kq, rfl, e⟩
        · exact .inl ⟨rfl, e⟩
        · exact .inr ⟨kq, by rw [Option.map_some, e]⟩
      obtain ⟨ln, rfl⟩ : ∃ m : Nat, l = m := ⟨l.toNat, by omega⟩
      obtain ⟨hn2, rfl⟩ : ∃ m : Nat, hgh = m := ⟨hgh.toNat, by omega⟩
      simp only [Int.toNat_natCast] at hK
      have e1 : ((hn2 : Int) - ln).toNat = hn2 - ln := by omega
      rw [e1] at hK
      have run : (execOp a.eval o).run P w = .ok (.value (.slice (some (if len = ln then ⟨b, o' + off, none⟩ else (⟨b, o' + off, none⟩ : Addr).add (ln * n))) (hn2 - ln) (len - ln))) w := by
        simp only [execOp, hop]
        refine run_v ?_
        rw [hv0]
        simp [Instr.sliceAt, Sem.run_bind, run_underlying hu, Instr.sureAddr, run_boundsA L1 H1 b1 b2 b3, sizeOf, typeInfo, hti, hsz]
      refine .inl ⟨_, w, run, _, g1, rho, R, { s with loc := L' }, k2, k1, Pre.refl rho, .p ?_, rfl, fun _ _ _ _ _ => rfl, hK⟩
      have lt : ∀ i j : Nat, i < hn2 - ln → j < n → off + ln * n + i * n + j < cs.length := fun i j hi hj => by
        have : (ln + i + 1) * n ≤ len * n := Nat.mul_le_mul_right _ (by omega)
        rw [Nat.add_mul, Nat.add_mul] at this
        omega
      refine .sl _ _ _ _ _ _ (fun i j => f (off + ln * n + i * n + j)) (rows_length _ _ _) (by omega) (by omega) (by unfold maxLen; omega) ?_ (fun i e he => ?_) (fun i hi => ?_) (fun i j e x he hx => ?_)
      · by_cases e : (hn2 : Int) = (len : Int)
        · rw [if_pos e]; show len - ln = hn2 - ln; omega
        · rw [if_neg e]; trivial
      · obtain ⟨hi, rfl⟩ := rows_get (α := Unit) _ _ _ _ _ he
        have := lt i (n - 1) hi (by omega)
        rw [List.length_take, List.length_drop, List.length_drop]
        omega
      · have hne : ¬ len = ln := by omega
        refine ⟨b, o' + off + ln * n, by rw [if_neg hne, addr_add], fun j hj => ?_⟩
        have := hat (off + ln * n + i * n + j) (lt i j hi hj)
        rwa [show o' + (off + ln * n + i * n + j) = o' + off + ln * n + i * n + j by omega] at this
      · obtain ⟨hi, rfl⟩ := rows_get (α := Unit) _ _ _ _ _ he
        have hj : j < n := by
          have := (List.getElem?_eq_some_iff.1 hx).1
          rw [List.length_take] at this
          omega
        rw [List.getElem?_take_of_lt hj, List.getElem?_drop, List.getElem?_drop] at hx
        exact hrel _ x (by rw [← hx]; congr 1; omega)
  · exact h.elim

theorem did_still {rs : List Nat} (hI : Inv E g rho R ks s.loc s.live s.ys w) (h : StillOk P g rho rs w a o av) (hK : K av s) : EffOk P F a w o (Did E g rho ks lst rd w (s.t, s.base) K) := by
  obtain ⟨v, hr, hrun⟩ := h
  exact .inl ⟨v, w, hrun w hI.agree (fun _ _ _ _ => rfl), av, g, rho, R, s, hI, GP.le.refl g, Pre.refl rho, hr, rfl, fun _ _ _ _ _ => rfl, hK⟩

theorem StillOk.more {rs : List Nat} (h : StillOk P g rho [] w a o av) : StillOk P g rho rs w a o av := by
  obtain ⟨v, h1, h2⟩ := h
  exact ⟨v, h1, fun w' hA _ => h2 w' hA (fun _ hid => by cases hid)⟩

theorem still_ok {mu : Nat → Bool} {k : AK} (hc : cop P mu o = some k) (hk : k.still = true) (hI : Inv E g rho R ks s.loc s.live s.ys w) (hT : Tmps g rho s a) (h : stillV s k = some av) : StillOk P g rho (rdOf s k) w a o av := by
  unfold cop at hc
  split at hc
  · rename_i hop
    rw [Option.map_eq_some_iff] at hc
    obtain ⟨y, hy, rfl⟩ := hc
    simp only [stillV, Option.some.injEq] at h
    subst h
    exact still_mv (.inl hop) hy hT
  · rename_i hop
    rw [Option.map_eq_some_iff] at hc
    obtain ⟨y, hy, rfl⟩ := hc
    simp only [stillV, Option.some.injEq] at h
    subst h
    exact still_mv (.inr hop) hy hT
  · rename_i hop
    split at hc
    · rename_i h1 h2 h3
      simp only [Option.some.injEq] at hc
      subst hc
      exact still_pick hop h1 h2 h3 hT h
    · cases hc
  · split at hc
    · simp only [Option.some.injEq] at hc; subst hc; cases hk
    · cases hc
  · split at hc
    · simp only [Option.some.injEq] at hc; subst hc; cases hk
    · simp only [Option.some.injEq] at hc; subst hc; cases hk
    · cases hc
  · rename_i hop
    split at hc
    · rename_i fs z hu hz
      split at hc
      · rename_i places hp
        rw [Option.map_eq_some_iff] at hc
        obtain ⟨ps, hps, rfl⟩ := hc
        exact (still_build hop hz (.inl ⟨fs, places, hu, hp, hps⟩) hT h).more
      · cases hc
    · rename_i n e z hu hz
      split at hc
      · rename_i ie hie
        rw [Option.map_eq_some_iff] at hc
        obtain ⟨ps, hps, rfl⟩ := hc
        exact (still_build hop hz (.inr ⟨n, e, ie, hu, hie, hps⟩) hT h).more
      · cases hc
    · cases hc
  · split at hc
    · split at hc
      · split at hc
        · rw [Option.map_eq_some_iff] at hc; obtain ⟨_, _, rfl⟩ := hc; cases hk
        · cases hc
      · cases hc
    · cases hc
  · rename_i hop
    split at hc
    · rename_i h1 h2
      simp only [Option.some.injEq] at hc
      subst hc
      exact still_ld hop h1 h2 hT hI.agree hI.locs h
    · cases hc
  · split at hc
    · simp only [Option.some.injEq] at hc; subst hc; cases hk
    · cases hc
  · rename_i hop
    split at hc
    · rename_i fs hu
      split at hc
      · rename_i f y hf hy
        rw [Option.map_eq_some_iff] at hc
        obtain ⟨n, hn, rfl⟩ := hc
        exact (still_fld hop hu hf hn hy hT h).more
      · cases hc
    · cases hc
  · rename_i hop
    split at hc
    · rename_i fs hu
      split at hc
      · rename_i f y hf hy
        split at hc
        · rename_i n hn
          simp only [Option.some.injEq] at hc
          subst hc
          exact (still_fadr hop hu hf hn hy hT h).more
        · cases hc
      · cases hc
    · cases hc
  · rename_i hop
    split at hc
    · rename_i e y j hu hy hj
      rw [Option.map_eq_some_iff] at hc
      obtain ⟨n, hn, rfl⟩ := hc
      exact (still_iadrS hop hu hn hy hj hT h).more
    · rename_i len e y j hu hy hj
      rw [Option.map_eq_some_iff] at hc
      obtain ⟨n, hn, rfl⟩ := hc
      exact (still_iadrA hop hu hn hy hj hT h).more
    · cases hc
  · rename_i hop
    split at hc
    · rename_i len e y j hu hy hj
      split at hc
      · rename_i n sh hn hs
        simp only [Option.some.injEq] at hc
        subst hc
        exact (still_idx hop hu hn hs hy hj hT h).more
      · cases hc
    · cases hc
  · rename_i hop
    split at hc
    · rename_i hu hx hy
      split at hc
      · rename_i hfk
        split at hc
        · rename_i hg
          simp only [Option.some.injEq] at hc; subst hc
          exact (still_eqs (ne := false) hop rfl hfk hg (.inl ⟨_, hu⟩) hx hy hT h).more
        · cases hc
      · rename_i hfk
        split at hc
        · rename_i hg
          simp only [Option.some.injEq] at hc; subst hc
          exact (still_eqs (ne := true) hop rfl hfk hg (.inl ⟨_, hu⟩) hx hy hT h).more
        · cases hc
      · cases hc
    · rename_i hu hx hy
      split at hc
      · rename_i hfk
        split at hc
        · rename_i hg
          simp only [Option.some.injEq] at hc; subst hc
          exact (still_eqs (ne := false) hop rfl hfk hg (.inr ⟨_, _, hu⟩) hx hy hT h).more
        · cases hc
      · rename_i hfk
        split at hc
        · rename_i hg
          simp only [Option.some.injEq] at hc; subst hc
          exact (still_eqs (ne := true) hop rfl hfk hg (.inr ⟨_, _, hu⟩) hx hy hT h).more
        · cases hc
      · cases hc
    · rename_i hu hx hy
      simp only [Option.some.injEq] at hc
      subst hc
      exact (still_bin hop hx hy hT (fun _ => hu) h).more
    · rename_i hu hx hy
      simp only [Option.some.injEq] at hc
      subst hc
      exact (still_bin hop hx hy hT (fun e => by cases e) h).more
    · split at hc
      · simp only [Option.some.injEq] at hc; subst hc; cases hk
      · simp only [Option.some.injEq] at hc; subst hc; cases hk
      · cases hc
    · cases hc
  · rename_i hop
    rw [Option.map_eq_some_iff] at hc
    obtain ⟨y, hy, rfl⟩ := hc
    exact (still_un hop hy hT h).more
  · rename_i hop
    split at hc
    · rename_i hu hd hx
      simp only [Option.some.injEq] at hc
      subst hc
      exact (still_conv hop hu hd hx hT h).more
    · cases hc
  · rename_i hop
    rw [Option.map_eq_some_iff] at hc
    obtain ⟨y, hy, rfl⟩ := hc
    exact (still_ext hop hy hT h).more
  · rename_i hop
    split at hc
    · rename_i e y hu hy
      split at hc
      · rename_i hn hlo hhi hm
        split at hc
        · cases hc
        · rename_i hmh
          simp only [Option.some.injEq] at hc
          subst hc
          refine (still_slc hop hu hn hy hlo hhi hm hT h (fun h1 => ?_)).more
          rw [h1, Bool.true_and] at hmh
          exact Option.isSome_iff_ne_none.2 (fun e => hmh (by rw [e]; rfl))
      · cases hc
    · split at hc
      · split at hc
        · simp only [Option.some.injEq] at hc; subst hc; cases hk
        · cases hc
      · cases hc
    · cases hc
  · split at hc
    · split at hc
      · split at hc
        · simp only [Option.some.injEq] at hc; subst hc; cases hk
        · cases hc
      · cases hc
    · cases hc
  · rename_i hop
    split at hc
    · rename_i hfi hy
      simp only [Option.some.injEq] at hc
      subst hc
      exact (still_mkf hop hfi hy hT h).more
    · cases hc
  · rename_i hop
    rw [Option.map_eq_some_iff] at hc
    obtain ⟨y, hy, rfl⟩ := hc
    exact (still_nilc hop hy hT h).more
  · simp only [Option.some.injEq] at hc; subst hc; cases hk
  · rename_i hop
    split at hc
    · rename_i hu
      split at hc
      · rename_i hK hz hx hi
        simp only [Option.some.injEq] at hc
        subst hc
        exact still_lkp hop hu hK hz hx hi hT hI.locs h
      · cases hc
    · cases hc
  · split at hc
    · split at hc
      · simp only [Option.some.injEq] at hc; subst hc; cases hk
      · cases hc
    · cases hc
  · rename_i c hop
    split at hc
    · rename_i hb
      split at hc
      · rename_i t x ht hx
        split at hc
        · rename_i hu hcx
          simp only [Option.some.injEq] at hc
          subst hc
          exact (still_len hop hb ht hx hu hcx hT h).more
        · cases hc
      · cases hc
    · rename_i hb
      rw [Option.map_eq_some_iff] at hc
      obtain ⟨y, hy, rfl⟩ := hc
      exact (still_mx hop (m := true) (by simpa using hb) hy hT h).more
    · rename_i hb
      rw [Option.map_eq_some_iff] at hc
      obtain ⟨y, hy, rfl⟩ := hc
      exact (still_mx hop (m := false) (by simpa using hb) hy hT h).more
    · split at hc
      · split at hc
        · split at hc
          · split at hc
            · split at hc
              · simp only [Option.some.injEq] at hc; subst hc; cases hk
              · cases hc
            · cases hc
          · cases hc
        · cases hc
      · cases hc
    · rw [Option.map_eq_some_iff] at hc; obtain ⟨_, _, rfl⟩ := hc; cases hk
    · split at hc
      · simp only [Option.some.injEq] at hc; subst hc; cases hk
      · cases hc
    · cases hc
  · cases hc

theorem eff_nilS {op : BinOp} {t ty e : TypeId} {x : Operand} {ne : Bool} {x' : AX} (hop : o.op = .binOp op t x (.const (.slice none 0 0)) ty) (hne : op = if ne then .neq else .eql) (hu : P.underlying t = some (.slice e)) (hx : cx x = some x') (hI : Inv E g rho R ks s.loc s.live s.ys w) (hT : Tmps g rho s a)
    (h : effQ (SemK P F) lst rd s K (.nilS ne x')) : EffOk P F a w o (Did E g rho ks lst rd w (s.t, s.base) K) := by
  have h0 := cx_rel hT hx
  simp only [effQ] at h
  split at h
  · rename_i k sz es he
    rw [he] at h0
    generalize hv0 : a.eval x = v0 at h0
    cases h0 with
    | p h0 =>
      cases h0 with
      | sl _ _ _ ad n c f hl hn hc hm hk hz hat hh =>
        have hy : a.eval (.const (.slice none 0 0)) = .slice none 0 0 := rfl
        have run : (execOp a.eval o).run P w = .ok (.value (.bool (if ne then !ad.isNone else ad.isNone))) w := by
          simp only [execOp, hop, hv0, hy]
          refine run_v ?_
          have hgd : (eqGuard op t x (.const (.slice none 0 0)) (.slice ad n c) (.slice none 0 0)).run P w = .ok () w := by
            subst hne; cases ne <;> simp [eqGuard]
          rw [Sem.run_bind, hgd]
          simp only [Result.andThen_ok]
          subst hne
          cases ne
          · simp only [Bool.false_eq_true, if_false, binOp]
            simp [run_equal_slice_nil w t e ad n c hu]
          · simp only [if_true, binOp]
            simp [run_equal_slice_nil w t e ad n c hu]
        have fin : ∀ b : Bool, K (.p (.val (.bool b))) s → (if ne then !ad.isNone else ad.isNone) = b → EffOk P F a w o (Did E g rho ks lst rd w (s.t, s.base) K) := fun b hK hb => by
          rw [hb] at run
          exact .inl ⟨_, w, run, .p (.val (.bool b)), g, rho, R, s, hI, GP.le.refl g, Pre.refl rho, .p (.val _ rfl), rfl, fun _ _ _ _ _ => rfl, hK⟩
        cases ad with
        | some ad => exact fin ne h.1 (by cases ne <;> rfl)
        | none =>
          have hes : es = [] := by
            rcases Nat.eq_zero_or_pos n with h0 | h0
            · exact List.eq_nil_of_length_eq_zero (by omega)
            · obtain ⟨b, o', hb, _⟩ := hat 0 h0
              cases hb
          exact fin (!ne) (h.2 hes) (by cases ne <;> rfl)
  · exact h.elim

theorem eff_ok {mu : Nat → Bool} {k : AK} (hc : cop P mu o = some k) (hk : k.still = false) (hI : Inv E g rho R ks s.loc s.live s.ys w) (hT : Tmps g rho s a) (h : effQ (SemK P F) lst rd s K k) : EffOk P F a w o (Did E g rho ks lst rd w (s.t, s.base) K) := by
  unfold cop at hc
  split at hc
  · rw [Option.map_eq_some_iff] at hc; obtain ⟨y, hy, rfl⟩ := hc; cases hk
  · rw [Option.map_eq_some_iff] at hc; obtain ⟨y, hy, rfl⟩ := hc; cases hk
  · split at hc
    · simp only [Option.some.injEq] at hc; subst hc; cases hk
    · cases hc
  · rename_i hop
    split at hc
    · rename_i hn hx
      simp only [Option.some.injEq] at hc
      subst hc
      exact eff_box hop hx hI hT h
    · cases hc
  · rename_i hop
    split at hc
    · rename_i hz
      simp only [Option.some.injEq] at hc
      subst hc
      rw [Option.bind_eq_some_iff] at hz
      obtain ⟨i, hi, hz⟩ := hz
      exact eff_newM hop hi hz hI h
    · rename_i z hz
      simp only [Option.some.injEq] at hc
      subst hc
      rw [Option.bind_eq_some_iff] at hz
      obtain ⟨i, hi, hz⟩ := hz
      exact eff_new hop hi hz hI h
    · cases hc
  · split at hc
    · split at hc
      · rw [Option.map_eq_some_iff] at hc; obtain ⟨y, hy, rfl⟩ := hc; cases hk
      · cases hc
    · split at hc
      · rw [Option.map_eq_some_iff] at hc; obtain ⟨y, hy, rfl⟩ := hc; cases hk
      · cases hc
    · cases hc
  · rename_i hop
    split at hc
    · rename_i e hu
      split at hc
      · rename_i sz z hsz hz
        split at hc
        · rename_i hb
          rw [Option.map_eq_some_iff] at hc
          obtain ⟨ps, hps, rfl⟩ := hc
          exact eff_bslice hop hu hsz hz hb hps hI hT h
        · cases hc
      · cases hc
    · cases hc
  · split at hc
    · simp only [Option.some.injEq] at hc; subst hc; cases hk
    · cases hc
  · rename_i hop
    split at hc
    · rename_i hn hx hy
      simp only [Option.some.injEq] at hc
      subst hc
      exact eff_st hop hn hx hy hI hT h
    · cases hc
  · split at hc
    · split at hc
      · rw [Option.map_eq_some_iff] at hc; obtain ⟨y, hy, rfl⟩ := hc; cases hk
      · cases hc
    · cases hc
  · split at hc
    · split at hc
      · split at hc
        · simp only [Option.some.injEq] at hc; subst hc; cases hk
        · cases hc
      · cases hc
    · cases hc
  · split at hc
    · rw [Option.map_eq_some_iff] at hc; obtain ⟨y, hy, rfl⟩ := hc; cases hk
    · rw [Option.map_eq_some_iff] at hc; obtain ⟨y, hy, rfl⟩ := hc; cases hk
    · cases hc
  · split at hc
    · split at hc
      · simp only [Option.some.injEq] at hc; subst hc; cases hk
      · cases hc
    · cases hc
  · rename_i hop
    split at hc
    · split at hc
      · split at hc
        · simp only [Option.some.injEq] at hc; subst hc; cases hk
        · cases hc
      · split at hc
        · simp only [Option.some.injEq] at hc; subst hc; cases hk
        · cases hc
      · cases hc
    · split at hc
      · split at hc
        · simp only [Option.some.injEq] at hc; subst hc; cases hk
        · cases hc
      · split at hc
        · simp only [Option.some.injEq] at hc; subst hc; cases hk
        · cases hc
      · cases hc
    · simp only [Option.some.injEq] at hc; subst hc; cases hk
    · simp only [Option.some.injEq] at hc; subst hc; cases hk
    · rename_i hu hx _
      split at hc
      · simp only [Option.some.injEq] at hc
        subst hc
        exact eff_nilS (ne := false) hop rfl hu hx hI hT h
      · simp only [Option.some.injEq] at hc
        subst hc
        exact eff_nilS (ne := true) hop rfl hu hx hI hT h
      · cases hc
    · cases hc
  · rw [Option.map_eq_some_iff] at hc; obtain ⟨y, hy, rfl⟩ := hc; cases hk
  · split at hc
    · simp only [Option.some.injEq] at hc; subst hc; cases hk
    · cases hc
  · rw [Option.map_eq_some_iff] at hc; obtain ⟨y, hy, rfl⟩ := hc; cases hk
  · rename_i hop
    split at hc
    · split at hc
      · split at hc
        · cases hc
        · simp only [Option.some.injEq] at hc; subst hc; cases hk
      · cases hc
    · rename_i len e x' hu hx
      split at hc
      · rename_i n lo' hi' hn hlo hhi
        split at hc
        · rename_i hb
          simp only [Option.some.injEq] at hc
          subst hc
          exact eff_slcA hop hu hn hx hlo hhi hb.1 hb.2 hI hT h
        · cases hc
      · cases hc
    · cases hc
  · rename_i hop
    split at hc
    · rename_i e hu
      split at hc
      · rename_i i z l c hi hz hl hcc
        split at hc
        · rename_i hb
          simp only [Option.some.injEq] at hc
          subst hc
          exact eff_mks hop hu hi hz hl hcc hb hI hT h
        · cases hc
      · cases hc
    · cases hc
  · split at hc
    · simp only [Option.some.injEq] at hc; subst hc; cases hk
    · cases hc
  · rw [Option.map_eq_some_iff] at hc; obtain ⟨y, hy, rfl⟩ := hc; cases hk
  · rename_i hop
    simp only [Option.some.injEq] at hc
    subst hc
    exact eff_mkm hop hI h
  · split at hc
    · split at hc
      · simp only [Option.some.injEq] at hc; subst hc; cases hk
      · cases hc
    · cases hc
  · rename_i hop
    split at hc
    · rename_i hu
      split at hc
      · rename_i hK hx hi hy
        simp only [Option.some.injEq] at hc
        subst hc
        exact eff_mup hop hu hK hx hi hy hI hT h
      · cases hc
    · cases hc
  · rename_i c hop
    split at hc
    · split at hc
      · split at hc
        · simp only [Option.some.injEq] at hc; subst hc; cases hk
        · cases hc
      · cases hc
    · rw [Option.map_eq_some_iff] at hc; obtain ⟨y, hy, rfl⟩ := hc; cases hk
    · rw [Option.map_eq_some_iff] at hc; obtain ⟨y, hy, rfl⟩ := hc; cases hk
    · rename_i hb
      split at hc
      · rename_i t u x y hat hargs
        split at hc
        · rename_i htu
          subst htu
          split at hc
          · rename_i e hu
            split at hc
            · rename_i i z x' y' hi hz hx hy
              split at hc
              · rename_i hbb
                simp only [Option.some.injEq] at hc
                subst hc
                exact eff_app hop hb hat hargs hu hi hz hx hy hbb hI hT h
              · cases hc
            · cases hc
          · cases hc
        · cases hc
      · cases hc
    · rename_i hb
      rw [Option.map_eq_some_iff] at hc
      obtain ⟨y, hy, rfl⟩ := hc
      exact eff_call hop hb hy hI hT h
    · rename_i hb
      split at hc
      · rename_i hq hx
        simp only [Option.some.injEq] at hc
        subst hc
        exact eff_callv hop hb hq hx hI hT h
      · cases hc
    · cases hc
  · cases hc
end
end Go.Proofs.YtlbolnlcncjijaaGreat
