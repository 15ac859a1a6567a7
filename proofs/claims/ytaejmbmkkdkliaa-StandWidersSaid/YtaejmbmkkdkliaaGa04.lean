/- Operations that only compute or read are sound, further: numbers, slices, aggregates. Operations that only compute or read are sound: the rest of them, and all of them. Slices of slices are sound. Structs, arrays and slices laid out of parts. What holds of a world in which abstract code runs. -/
import Derived.Test.YtaejmbmkkdkliaaGa03
import Derived.Laws.Bits
import Derived.Great.BuildSlice
import Derived.Laws.MakeOwn
import Derived.Maps.AppendAt
namespace Go.Proofs.Ytaejmbmkkdkliaa
open Go.RowKit

section
variable {P : Program} {g : GP} {rho : List Nat} {w : World} {s : AS} {a : Act} {o : Oper} {av : AV}

theorem wrap_range (k : IntKind) (n : Int) : k.min ≤ k.wrap n ∧ k.wrap n ≤ k.max := by
  cases k <;> simp only [IntKind.min, IntKind.max, IntKind.wrap, IntKind.signed, IntKind.bits] <;> simp <;> (try split) <;> omega
theorem scalar_wrap (k : IntKind) (n : Int) : scalar (.int k (k.wrap n)) = true := by
  have := wrap_range k n
  simp [scalar, this.1, this.2]

theorem eqGuard_int {op : BinOp} {t : TypeId} {x y : Operand} {k k' : IntKind} {m n : Int} {w : World} : (eqGuard op t x y (.int k m) (.int k' n)).run P w = .ok () w := by
  unfold eqGuard
  split <;> simp
theorem eqGuard_bool {op : BinOp} {t : TypeId} {x y : Operand} {m n : Bool} {w : World} : (eqGuard op t x y (.bool m) (.bool n)).run P w = .ok () w := by
  unfold eqGuard
  split <;> simp

theorem tmod_range {a b : Int} {lo hi : Int} (h1 : lo ≤ a) (h2 : a ≤ hi) (h3 : lo ≤ 0) (h4 : 0 ≤ hi) : lo ≤ a.tmod b ∧ a.tmod b ≤ hi := by
  rcases Int.le_total 0 a with h | h
  · have h5 := Int.tmod_nonneg b h
    have h6 : a.tmod b ≤ a := by
      have := Int.tmod_def a b
      have h7 : 0 ≤ b * a.tdiv b := by
        rcases Int.le_total 0 b with hb' | hb'
        · exact Int.mul_nonneg hb' (Int.tdiv_nonneg h hb')
        · have := Int.tdiv_nonpos_of_nonneg_of_nonpos h hb'
          exact Int.mul_nonneg_of_nonpos_of_nonpos hb' this
      omega
    omega
  · have e : a.tmod b = -((-a).tmod b) := by rw [Int.neg_tmod]; omega
    have h5 := Int.tmod_nonneg b (show 0 ≤ -a by omega)
    have h6 : (-a).tmod b ≤ -a := by
      have := Int.tmod_def (-a) b
      have h7 : 0 ≤ b * (-a).tdiv b := by
        rcases Int.le_total 0 b with hb' | hb'
        · exact Int.mul_nonneg hb' (Int.tdiv_nonneg (by omega) hb')
        · have := Int.tdiv_nonpos_of_nonneg_of_nonpos (show 0 ≤ -a by omega) hb'
          exact Int.mul_nonneg_of_nonpos_of_nonpos hb' this
      omega
    omega
theorem kind_zero (k : IntKind) : k.min ≤ 0 ∧ 0 ≤ k.max := by cases k <;> simp [IntKind.min, IntKind.max, IntKind.signed, IntKind.bits]

theorem fdiv_range {a d : Int} (hd : 1 ≤ d) {lo hi : Int} (h1 : lo ≤ a) (h2 : a ≤ hi) (h3 : lo ≤ 0) (h4 : 0 ≤ hi) : lo ≤ a.fdiv d ∧ a.fdiv d ≤ hi := by
  rw [Int.fdiv_eq_ediv_of_nonneg _ (by omega)]
  have e1 := Int.mul_ediv_add_emod a d
  have e2 := Int.emod_nonneg a (show d ≠ 0 by omega)
  have e3 := Int.emod_lt_of_pos a (show 0 < d by omega)
  rcases Int.le_total 0 a with h | h
  · have h5 := Int.ediv_nonneg h (show 0 ≤ d by omega)
    have h6 : a / d ≤ d * (a / d) := by
      have : 1 * (a / d) ≤ d * (a / d) := Int.mul_le_mul_of_nonneg_right hd h5
      omega
    omega
  · have h5 : a / d ≤ 0 := Int.ediv_nonpos_of_nonpos_of_neg h (show 0 < d by omega)
    have h6 : d * (a / d) ≤ a / d := by
      have : d * (a / d) ≤ 1 * (a / d) := Int.mul_le_mul_of_nonpos_right hd h5
      omega
    have h7 : a - d < d * (a / d) := by omega
    constructor
    · by_cases h8 : a / d = 0
      · omega
      · rcases Int.lt_or_le (a / d) a with h9 | h9
        · exfalso
          have h10 : a / d + 1 ≤ a := by omega
          have h11 : d * (a / d + 1) ≤ 1 * (a / d + 1) := Int.mul_le_mul_of_nonpos_right hd (by omega)
          rw [Int.mul_add] at h11
          omega
        · omega
    · omega

theorem run_binV {op : BinOp} {c : Bool} {t : TypeId} {u v r : Value} (h : binV op c u v = some r) (hu : scalar u = true) (ht : c = true → P.underlying t = some .bool) :
    scalar r = true ∧ ∀ (x y : Operand) (w : World), (do eqGuard op t x y u v; binOp op t u v : Sem Value).run P w = .ok r w := by
  unfold binV at h
  split at h
  · rename_i k m k' n
    have key : ∀ r', some r' = some r → scalar r' = true → (∀ w, (binOp op t (.int k m) (.int k' n)).run P w = .ok r' w) → scalar r = true ∧ ∀ (x y : Operand) (w : World), (do eqGuard op t x y (.int k m) (.int k' n); binOp op t (.int k m) (.int k' n) : Sem Value).run P w = .ok r w := by
      intro r' e h1 h2
      simp only [Option.some.injEq] at e
      subst e
      refine ⟨h1, fun x y w => ?_⟩
      rw [Sem.run_bind, eqGuard_int]
      exact h2 w
    split at h
    · split at h
      · cases h
      · rename_i hn
        exact key _ h (scalar_wrap k _) (fun w => by simp [binOp, Op.shift, hn])
    · split at h
      · cases h
      · rename_i hn
        refine key _ h ?_ (fun w => by simp [binOp, Op.shift, hn])
        simp only [scalar, Bool.and_eq_true, decide_eq_true_eq] at hu ⊢
        exact fdiv_range (by have : (0 : Int) < 2 ^ (min n.toNat k.bits) := Int.pow_pos (by decide)
                             omega) hu.1 hu.2 (kind_zero k).1 (kind_zero k).2
    · rename_i h1 h2
      split at h
      · rename_i hk
        subst hk
        split at h
        · exact key _ h (scalar_wrap k _) (fun w => by simp [binOp, Op.intArith])
        · exact key _ h (scalar_wrap k _) (fun w => by simp [binOp, Op.intArith])
        · exact key _ h (scalar_wrap k _) (fun w => by simp [binOp, Op.intArith])
        · split at h
          · cases h
          · rename_i hn
            exact key _ h (scalar_wrap k _) (fun w => by simp [binOp, Op.intDiv, hn])
        · split at h
          · cases h
          · rename_i hn
            refine key _ h ?_ (fun w => by simp [binOp, Op.intDiv, hn])
            simp only [scalar, Bool.and_eq_true, decide_eq_true_eq] at hu ⊢
            exact tmod_range hu.1 hu.2 (kind_zero k).1 (kind_zero k).2
        · exact key _ h (scalar_wrap k _) (fun w => by simp [binOp, Op.intBits])
        · exact key _ h (scalar_wrap k _) (fun w => by simp [binOp, Op.intBits])
        · exact key _ h rfl (fun w => by simp [binOp, Op.intCmp])
        · exact key _ h rfl (fun w => by simp [binOp, Op.intCmp])
        · exact key _ h rfl (fun w => by simp [binOp, Op.intCmp])
        · exact key _ h rfl (fun w => by simp [binOp, Op.intCmp])
        · exact key _ h rfl (fun w => by simp [binOp, Op.intCmp])
        · exact key _ h rfl (fun w => by simp [binOp, Op.intCmp])
        · cases h
      · cases h
  · rename_i m n
    have hb := ht rfl
    have he : ∀ w, (Op.equal t (.bool m) (.bool n)).run P w = .ok (m == n) w := fun w => by
      show (Op.equalIn (9999 + 1) t (.bool m) (.bool n)).run P w = _
      unfold Op.equalIn
      rw [Sem.run_bind, run_underlying hb]
      rfl
    split at h
    · simp only [Option.some.injEq] at h
      subst h
      refine ⟨rfl, fun x y w => ?_⟩
      rw [Sem.run_bind, eqGuard_bool]
      simp [binOp, he]
    · simp only [Option.some.injEq] at h
      subst h
      refine ⟨rfl, fun x y w => ?_⟩
      rw [Sem.run_bind, eqGuard_bool]
      simp [binOp, he, bne]
    · cases h
  · cases h
end
end Go.Proofs.Ytaejmbmkkdkliaa
namespace Go.Proofs.Ytaejmbmkkdkliaa
open Go.RowKit

section
variable {P : Program} {g : GP} {rho : List Nat} {w : World} {s : AS} {a : Act} {o : Oper} {av : AV}

theorem still_bin {op : BinOp} {t ty : TypeId} {x y : Operand} (hop : o.op = .binOp op t x y ty) {c : Bool} {x' y' : AX} (hx : cx x = some x') (hy : cx y = some y') (hT : Tmps g rho s a)
    (hc : c = true → P.underlying t = some .bool) (h : stillV s (.bin c op x' y') = some av) : StillOk P g rho [] w a o av := by
  have h0 := cx_rel hT hx
  have h1 := cx_rel hT hy
  simp only [stillV] at h
  split at h
  · rename_i u v hu hv
    rw [hu] at h0
    rw [hv] at h1
    obtain ⟨e0, s0⟩ := rel_val h0
    obtain ⟨e1, _⟩ := rel_val h1
    rw [Option.map_eq_some_iff] at h
    obtain ⟨r, hr, rfl⟩ := h
    obtain ⟨hs, hrun⟩ := run_binV hr s0 hc
    refine ⟨r, .p (.val r hs), fun w' _ _ => ?_⟩
    simp only [execOp, hop, e0, e1]
    exact run_v (hrun x y w')
  · cases h

theorem still_un {op : UnOp} {t : TypeId} {x : Operand} (hop : o.op = .unOp op t x) {x' : AX} (hx : cx x = some x') (hT : Tmps g rho s a) (h : stillV s (.un op x') = some av) : StillOk P g rho [] w a o av := by
  have h0 := cx_rel hT hx
  simp only [stillV] at h
  split at h
  · rename_i k n he
    rw [he] at h0
    obtain ⟨e0, s0⟩ := rel_val h0
    simp only [Option.some.injEq] at h
    subst h
    refine ⟨_, .p (.val _ (scalar_wrap k (0 - n))), fun w' _ _ => ?_⟩
    simp only [execOp, hop, e0]
    exact run_v (by simp [Op.unary, Op.intArith])
  · rename_i b he
    rw [he] at h0
    obtain ⟨e0, s0⟩ := rel_val h0
    simp only [Option.some.injEq] at h
    subst h
    refine ⟨_, .p (.val _ rfl), fun w' _ _ => ?_⟩
    simp only [execOp, hop, e0]
    exact run_v (by simp [Op.unary])
  · cases h

theorem still_conv {src dst : TypeId} {x : Operand} (hop : o.op = .convert src dst x) {k k' : IntKind} {x' : AX} (hu : P.underlying src = some (.int k')) (hd : P.underlying dst = some (.int k)) (hx : cx x = some x') (hT : Tmps g rho s a)
    (h : stillV s (.conv k x') = some av) : StillOk P g rho [] w a o av := by
  have h0 := cx_rel hT hx
  simp only [stillV] at h
  split at h
  · rename_i k2 n he
    rw [he] at h0
    obtain ⟨e0, s0⟩ := rel_val h0
    simp only [Option.some.injEq] at h
    subst h
    refine ⟨_, .p (.val _ (scalar_wrap k n)), fun w' _ _ => ?_⟩
    simp only [execOp, hop, e0]
    exact run_v (by simp [convert, Sem.run_bind, run_underlying hu, run_underlying hd, Conv.intToInt])
  · cases h

theorem cxs_evs {l : List Operand} : ∀ {r : List AX}, (∀ j, Rel g rho (look s.t j) (a.tmps.getD j undef)) → cxs l = some r → (evs s r).length = l.length ∧ ∀ (i : Nat) (x : AV) (v : Value), (evs s r)[i]? = some x → (l.map a.eval)[i]? = some v → Rel g rho x v := by
  induction l with
  | nil => intro r _ hr; simp only [cxs, Option.some.injEq] at hr; subst hr; exact ⟨rfl, fun i x v hx _ => by simp [evs] at hx⟩
  | cons q l ih =>
    intro r hT hr
    simp only [cxs] at hr
    split at hr
    · rename_i b c hb hc
      simp only [Option.some.injEq] at hr
      subst hr
      obtain ⟨h1, h2⟩ := ih hT hc
      refine ⟨by simp [evs, h1], fun i x v hx hv => ?_⟩
      cases i with
      | zero => simp only [evs, List.getElem?_cons_zero, Option.some.injEq, List.map_cons] at hx hv; subst hx; subst hv; exact cx_rel hT hb
      | succ i => simp only [evs, List.getElem?_cons_succ, List.map_cons] at hx hv; exact h2 i x v hx hv
    · cases hr

theorem still_mkf {f : FuncId} {fi cap : Array Operand} (hop : o.op = .makeFunc (.func f) fi cap) {fi' cap' : List AX} (hfi : cxs fi.toList = some fi') (hcap : cxs cap.toList = some cap') (hT : Tmps g rho s a)
    (h : stillV s (.mkf f fi' cap') = some av) : StillOk P g rho [] w a o av := by
  simp only [stillV, Option.some.injEq] at h
  subst h
  obtain ⟨h1, h2⟩ := cxs_evs hT hfi
  obtain ⟨h3, h4⟩ := cxs_evs hT hcap
  refine ⟨.func (.func f) (fi.map a.eval) (cap.map a.eval), ?_, fun w' _ _ => by simp only [execOp, hop]; exact run_v (by simp [Instr.makeFunc])⟩
  unfold mkClo
  split
  · rename_i l r hl hr
    rw [pures_map hl] at h1 h2
    rw [pures_map hr] at h3 h4
    refine .p (.clo f l r _ _ (by simpa using h1) (by simpa using h3) (fun i x v hx hv => ?_) (fun i x v hx hv => ?_))
    · have := h2 i (.p x) v (by rw [List.getElem?_map, hx]; rfl) (by simpa using hv)
      cases this with | p h => exact h
    · have := h4 i (.p x) v (by rw [List.getElem?_map, hx]; rfl) (by simpa using hv)
      cases this with | p h => exact h
  · exact .clo f _ _ _ _ (by simp [h1]) (by simp [h3]) (fun i x v hx hv => h2 i x v hx (by simpa using hv)) (fun i x v hx hv => h4 i x v hx (by simpa using hv))

theorem run_builtinV {b : Builtin} {c : Call} (hop : o.op = .call c) (hb : c.callee = .builtin b) {m : Sem Value} (w : World) {v : Value}
    (hm : ∀ cs, (builtin b c.argTypes o.type cs (c.args.map a.eval)) = (do pure (Next.value (← m)) : Sem Next)) (hr : m.run P w = .ok v w) : (execOp a.eval o).run P w = .ok (.value v) w := by
  simp only [execOp, hop, Sem.run_bind, resolve, hb, Sem.run_pure, Result.andThen_ok, invoke]
  rw [hm]
  exact run_v hr

theorem still_len {c : Call} (hop : o.op = .call c) (hb : c.callee = .builtin .len) {t e : TypeId} {x : Operand} {x' : AX} (ht : c.argTypes[0]? = some t) (hxs : c.args.toList = [x]) (hu : P.underlying t = some (.slice e)) (hx : cx x = some x')
    (hT : Tmps g rho s a) (h : stillV s (.len x') = some av) : StillOk P g rho [] w a o av := by
  have h0 := cx_rel hT hx
  have hargs : c.args.map a.eval = #[a.eval x] := by
    apply Array.ext'
    simp [hxs]
  have run : ∀ (ad : Option Addr) (n cp : Nat) (w' : World), a.eval x = .slice ad n cp → (Builtin.len_ c.argTypes o.type (c.args.map a.eval)).run P w' = .ok (.int .i64 n) w' := by
    intro ad n cp w' hv
    rw [hargs, hv]
    simp [Builtin.len_, ht, Sem.run_bind, run_underlying hu, goInt]
  have sc : ∀ n : Nat, n ≤ 140737488355328 → scalar (.int .i64 n) = true := by
    intro n hn
    simp [scalar, IntKind.min, IntKind.max, IntKind.signed, IntKind.bits]
    omega
  simp only [stillV] at h
  split at h
  · rename_i k sz es he
    rw [he] at h0
    generalize hv0 : a.eval x = v0 at h0
    simp only [Option.some.injEq] at h
    subst h
    cases h0 with
    | p h0 =>
      cases h0 with
      | sl _ _ _ ad n cp f hl hn hc hm hk hz hat hh =>
        subst hl
        exact ⟨_, .p (.val _ (sc _ hn)), fun w' _ _ => run_builtinV hop hb w' (fun _ => rfl) (run _ _ _ w' hv0)⟩
  · rename_i id n sz he
    rw [he] at h0
    generalize hv0 : a.eval x = v0 at h0
    simp only [Option.some.injEq] at h
    subst h
    cases h0 with
    | sli hb' hn hc hm => exact ⟨_, .p (.val _ (sc _ hm)), fun w' _ _ => run_builtinV hop hb w' (fun _ => rfl) (run _ _ _ w' hv0)⟩
  · cases h

theorem mx_in {k : IntKind} {m : Bool} {x y : Int} (hx : scalar (.int k x) = true) (hy : scalar (.int k y) = true) : scalar (.int k (maxI m x y)) = true := by
  unfold maxI
  split <;> split <;> assumption

theorem run_mxV (m : Bool) {l : List Operand} : ∀ {r : List AX} {k : IntKind} {n : Int} {v : Value}, cxs l = some r → mxV m s r k n = some v → (∀ j, Rel g rho (look s.t j) (a.tmps.getD j undef)) → scalar (.int k n) = true →
    scalar v = true ∧ ∀ w : World, ((l.map a.eval).foldlM (if m then Builtin.max2 else Builtin.min2) (.int k n)).run P w = .ok v w := by
  induction l with
  | nil =>
    intro r k n v hr h _ hs
    simp only [cxs, Option.some.injEq] at hr
    subst hr
    simp only [mxV, Option.some.injEq] at h
    subst h
    exact ⟨hs, fun w => by simp⟩
  | cons q l ih =>
    intro r k n v hr h hT hs
    simp only [cxs] at hr
    split at hr
    · rename_i b c hb hc
      simp only [Option.some.injEq] at hr
      subst hr
      simp only [mxV] at h
      split at h
      · rename_i k' j he
        split at h
        · rename_i hk
          subst hk
          have h0 := cx_rel hT hb
          rw [he] at h0
          obtain ⟨e0, s0⟩ := rel_val h0
          obtain ⟨h1, h2⟩ := ih hc h hT (mx_in hs s0)
          refine ⟨h1, fun w => ?_⟩
          have h3 := h2 w
          cases m
          · simp only [Bool.false_eq_true, if_false] at h3 ⊢
            simpa [List.foldlM_cons, e0, Builtin.min2, Sem.run_bind, maxI] using h3
          · simp only [if_true] at h3 ⊢
            simpa [List.foldlM_cons, e0, Builtin.max2, Sem.run_bind, maxI] using h3
        · cases h
      · cases h
    · cases hr

theorem still_mx {c : Call} {m : Bool} (hop : o.op = .call c) (hb : c.callee = .builtin (if m then .max else .min)) {xs : List AX} (hxs : cxs c.args.toList = some xs) (hT : Tmps g rho s a) (h : stillV s (.mx m xs) = some av) : StillOk P g rho [] w a o av := by
  simp only [stillV] at h
  split at h
  · cases h
  · rename_i x l
    split at h
    · rename_i k n he
      rw [Option.map_eq_some_iff] at h
      obtain ⟨v, hv, rfl⟩ := h
      cases hl : c.args.toList with
      | nil => rw [hl] at hxs; simp [cxs] at hxs
      | cons q r =>
        rw [hl] at hxs
        simp only [cxs] at hxs
        split at hxs
        · rename_i b d hq hr
          simp only [Option.some.injEq, List.cons.injEq] at hxs
          obtain ⟨rfl, rfl⟩ := hxs
          have h0 := cx_rel hT hq
          rw [he] at h0
          obtain ⟨e0, s0⟩ := rel_val h0
          obtain ⟨h1, h2⟩ := run_mxV (P := P) m hr hv hT s0
          have hargs : (c.args.map a.eval).toList = .int k n :: r.map a.eval := by simp [hl, e0]
          refine ⟨v, .p (.val _ h1), fun w' _ _ => ?_⟩
          cases m
          · refine run_builtinV hop hb w' (fun _ => rfl) ?_
            simp only [Builtin.min_, hargs]
            simpa using h2 w'
          · refine run_builtinV hop hb w' (fun _ => rfl) ?_
            simp only [Builtin.max_, hargs]
            simpa using h2 w'
        · cases hxs
    · cases h
end
end Go.Proofs.Ytaejmbmkkdkliaa
namespace Go.Proofs.Ytaejmbmkkdkliaa
open Go.RowKit

section
variable {P : Program} {g : GP} {rho : List Nat} {w : World} {s : AS} {a : Act} {o : Oper} {av : AV}

theorem opt_cx {s : AS} {lo : Option Operand} {lo' : Option AX} {d l : Int} (hT : ∀ j, Rel g rho (look s.t j) (a.tmps.getD j undef)) (h : lo.mapM cx = some lo') (hl : optInt s lo' d = some l) :
    (lo = none ∧ l = d) ∨ ∃ q k, lo = some q ∧ a.eval q = .int k l := by
  cases lo with
  | none =>
    simp only [Option.mapM_none, Option.pure_def, Option.some.injEq] at h
    subst h
    simp only [optInt, Option.some.injEq] at hl
    exact .inl ⟨rfl, hl.symm⟩
  | some q =>
    refine .inr ⟨q, ?_⟩
    cases hq : cx q with
    | none => simp [hq] at h
    | some q' =>
      simp [hq] at h
      subst h
      simp only [optInt] at hl
      have h0 := cx_rel hT hq
      generalize hv : q'.ev s = u at h0 hl
      cases u with
      | p x =>
        cases x with
        | val v =>
          cases v with
          | int k n =>
            simp only [AV.int?, Option.some.injEq] at hl
            subst hl
            exact ⟨k, rfl, (rel_val h0).1⟩
          | _ => simp [AV.int?] at hl
        | _ => simp [AV.int?] at hl
      | _ => simp [AV.int?] at hl

theorem run_bound {v : Value} {k : IntKind} {i : Int} {y : Nat} (code : BoundsCode) (hv : v = .int k i) (h0 : 0 ≤ i) (h1 : i ≤ y) (w : World) : (Instr.sliceBound v y code).run P w = .ok i.toNat w := by
  subst hv
  simp [Instr.sliceBound, asIntOf, h0, h1]

theorem run_bounds {lo hi mx : Option Value} {n c : Nat} {l h m : Int} (hlo : (lo = none ∧ l = 0) ∨ ∃ k, lo = some (.int k l)) (hhi : (hi = none ∧ h = n) ∨ ∃ k, hi = some (.int k h))
    (hmx : (mx = none ∧ m = c) ∨ ((∃ k, mx = some (.int k m)) ∧ ∃ k, hi = some (.int k h))) (h1 : 0 ≤ l) (h2 : l ≤ h) (h3 : h ≤ m) (h4 : m ≤ c) (w : World) :
    (Instr.sliceBounds true n c lo hi mx).run P w = .ok (l.toNat, h.toNat, m.toNat) w := by
  have e1 : ∀ k (y : Nat) code, h ≤ y → (Instr.sliceBound (.int k h) y code).run P w = .ok h.toNat w := fun k y code hy => run_bound code rfl (by omega) hy w
  have e2 : ∀ k (y : Nat) code, l ≤ y → (Instr.sliceBound (.int k l) y code).run P w = .ok l.toNat w := fun k y code hy => run_bound code rfl h1 hy w
  have e3 : ∀ k code, (Instr.sliceBound (.int k m) c code).run P w = .ok m.toNat w := fun k code => run_bound code rfl (by omega) h4 w
  have e4 : l ≤ (h.toNat : Int) := by omega
  have e5 : h ≤ (m.toNat : Int) := by omega
  rcases hmx with ⟨rfl, rfl⟩ | ⟨⟨km, rfl⟩, kh, rfl⟩
  · rcases hhi with ⟨rfl, rfl⟩ | ⟨kh, rfl⟩
    · rcases hlo with ⟨rfl, rfl⟩ | ⟨kl, rfl⟩
      · simp [Instr.sliceBounds]
      · simp [Instr.sliceBounds, e2 _ _ _ h2]
    · rcases hlo with ⟨rfl, rfl⟩ | ⟨kl, rfl⟩
      · simp [Instr.sliceBounds, e1 _ _ _ h3]
      · simp [Instr.sliceBounds, e1 _ _ _ h3, e2 _ _ _ e4]
  · rcases hlo with ⟨rfl, rfl⟩ | ⟨kl, rfl⟩
    · simp [Instr.sliceBounds, e3, e1 _ _ _ e5]
    · simp [Instr.sliceBounds, e3, e1 _ _ _ e5, e2 _ _ _ e4]

theorem rel_cut {k : SK} {sz n c : Nat} {es : List (List PV)} {ad : Option Addr} (hr : RelP g (.sl k sz es) (.slice ad n c)) (l h m : Nat) (h1 : l ≤ h) (h2 : h ≤ n) (h3 : h ≤ m) (h4 : m ≤ c) (k' : SK)
    (hk' : k'.ok g (if m = l then ad else ad.map (·.add (l * sz))) (h - l) (m - l)) :
    RelP g (.sl k' sz ((es.take h).drop l)) (.slice (if m = l then ad else ad.map (·.add (l * sz))) (h - l) (m - l)) := by
  cases hr with
  | sl _ _ _ _ _ _ f hl hn hc hm hk hz hat hh =>
    refine .sl k' sz _ _ (h - l) (m - l) (fun i => f (l + i)) (by simp; omega) (by omega) (by omega) (by omega) hk' (fun i e he => ?_) (fun i hi => ?_) (fun i j e x he hx => ?_)
    · rw [List.getElem?_drop, List.getElem?_take] at he
      split at he
      · exact hz _ _ he
      · cases he
    · obtain ⟨b, o', e, hcell⟩ := hat (l + i) (by omega)
      refine ⟨b, o' + l * sz, ?_, fun j hj => ?_⟩
      · rw [if_neg (by omega), e, Option.map_some, addr_add]
      · have := hcell j hj
        rwa [Nat.add_mul, ← Nat.add_assoc] at this
    · rw [List.getElem?_drop, List.getElem?_take] at he
      split at he
      · exact hh _ _ _ _ he hx
      · cases he

theorem relP_nilsz0 {k : SK} {sz sz' : Nat} {v : Value} (h : RelP g (.sl k sz []) v) : RelP g (.sl k sz' []) v := by
  cases h with
  | sl _ _ _ ad n c f hl hn hc hm hk hz hat hh =>
    have : n = 0 := by simpa using hl.symm
    subst this
    exact .sl k sz' [] ad 0 c f rfl hn hc hm hk (fun i e h => by simp at h) (fun i hi => absurd hi (by omega)) (fun i j e x h => by simp at h)
theorem still_slc {t e : TypeId} {x : Operand} {lo hi mx : Option Operand} (hop : o.op = .slice t x lo hi mx) {n : Nat} {x' : AX} {lo' hi' mx' : Option AX} (hu : P.underlying t = some (.slice e)) (hn : sizeN P e = some n) (hx : cx x = some x')
    (hlo : lo.mapM cx = some lo') (hhi : hi.mapM cx = some hi') (hmx : mx.mapM cx = some mx') (hT : Tmps g rho s a) (h : stillV s (.slc n x' lo' hi' mx') = some av) (hmh : mx.isSome = true → hi.isSome = true) : StillOk P g rho [] w a o av := by
  have h0 := cx_rel hT hx
  unfold sizeN at hn
  rw [Option.map_eq_some_iff] at hn
  obtain ⟨ti, hti, hsz⟩ := hn
  simp only [stillV] at h
  split at h
  · rename_i k sz es he
    rw [he] at h0
    generalize hv0 : a.eval x = v0 at h0
    split at h
    · cases h
    · rename_i hsz2
      have h0 : Rel g rho (.p (.sl k n es)) v0 := by
        by_cases e : sz = n
        · subst e; exact h0
        · have : es = [] := by
            cases es with
            | nil => rfl
            | cons => simp [e] at hsz2
          subst this
          cases h0 with
          | p h => exact .p (relP_nilsz0 h)
      clear hsz2
      split at h
      · rename_i l hgh hl hh
        split at h
        · rename_i hb
          cases h0 with
          | p h0 =>
            have h0' := h0
            cases h0 with
            | sl _ _ _ ad m c f hlen hn' hc hmx' hk hz hat hrel =>
              have L := opt_cx hT hlo hl
              have H := opt_cx hT hhi hh
              have L' : (lo.map a.eval = none ∧ l = 0) ∨ ∃ k, lo.map a.eval = some (.int k l) := by
                rcases L with ⟨rfl, e⟩ | ⟨q, kq, rfl, e⟩
                · exact .inl ⟨rfl, e⟩
                · exact .inr ⟨kq, by rw [Option.map_some, e]⟩
              have H' : (hi.map a.eval = none ∧ hgh = (m : Int)) ∨ ∃ k, hi.map a.eval = some (.int k hgh) := by
                rcases H with ⟨rfl, e⟩ | ⟨q, kq, rfl, e⟩
                · exact .inl ⟨rfl, by rw [e, hlen]⟩
                · exact .inr ⟨kq, by rw [Option.map_some, e]⟩
              have run : ∀ (mm : Int) (w' : World), ((mx.map a.eval = none ∧ mm = c) ∨ ((∃ k, mx.map a.eval = some (.int k mm)) ∧ ∃ k, hi.map a.eval = some (.int k hgh))) → hgh ≤ mm → mm ≤ c →
                  (execOp a.eval o).run P w' = .ok (.value (.slice (if mm.toNat = l.toNat then ad else ad.map (·.add (l.toNat * n))) (hgh.toNat - l.toNat) (mm.toNat - l.toNat))) w' := fun mm w' M h3 h4 => by
                simp only [execOp, hop]
                refine run_v ?_
                rw [hv0]
                simp [Instr.sliceAt, Sem.run_bind, run_underlying hu, Instr.slice, run_bounds L' H' M hb.1 hb.2.1 h3 h4, sizeOf, typeInfo, hti, hsz]
              split at h
              · have hmn : mx = none := by
                  cases mx with
                  | none => rfl
                  | some q => cases hq : cx q <;> simp [hq] at hmx
                subst hmn
                simp only [Option.some.injEq] at h
                subst h
                have hcn : (c : Int).toNat = c := by omega
                refine ⟨_, .p (rel_cut h0' l.toNat hgh.toNat (c : Int).toNat (by omega) (by omega) (by omega) (by omega) _ ?_), fun w' _ _ => run c w' (.inl ⟨rfl, rfl⟩) (by omega) (by omega)⟩
                by_cases hfull : l = 0 ∧ hgh = (es.length : Int)
                · rw [if_pos hfull]
                  have e1 : l.toNat = 0 := by omega
                  have e2 : hgh.toNat = m := by omega
                  have e3 : (if (c : Int).toNat = l.toNat then ad else ad.map (·.add (l.toNat * n))) = ad := by
                    rw [e1]
                    split
                    · rfl
                    · cases ad with
                      | none => rfl
                      | some q => simp [Addr.add]
                  rw [e3, e2, hcn, e1]
                  exact hk
                · rw [if_neg hfull]; trivial
              · rename_i mq
                split at h
                · rename_i mm hmm
                  split at h
                  · rename_i hmh2
                    simp only [Option.some.injEq] at h
                    subst h
                    subst hmh2
                    have M : ∃ q k, mx = some q ∧ a.eval q = .int k mm := by
                      rcases opt_cx (d := 0) hT hmx (by simpa [optInt] using hmm) with ⟨e, _⟩ | h
                      · subst e; simp at hmx
                      · exact h
                    obtain ⟨q, kq, rfl, hq⟩ := M
                    have H2 : ∃ k, hi.map a.eval = some (.int k mm) := by
                      rcases H' with ⟨e, _⟩ | h
                      · cases hi with
                        | none => simp at hmh
                        | some _ => cases e
                      · exact h
                    exact ⟨_, .p (rel_cut h0' l.toNat mm.toNat mm.toNat (by omega) (by omega) (by omega) (by omega) .full rfl), fun w' _ _ => run mm w' (.inr ⟨⟨kq, by rw [Option.map_some, hq]⟩, H2⟩) (by omega) (by omega)⟩
                  · cases h
                · cases h
        · cases h
      · cases h
  · cases h
end
end Go.Proofs.Ytaejmbmkkdkliaa
namespace Go.Proofs.Ytaejmbmkkdkliaa
open Go.RowKit

section
variable {P : Program} {g : GP} {rho : List Nat} {w : World} {s : AS} {a : Act} {o : Oper} {av : AV}

theorem foldl_put : ∀ (cs : List Value) (k off : Nat) (arr : List Value), off + k + cs.length ≤ arr.length →
    (cs.zipIdx k).foldl (fun (l : List Value) (c : Value × Nat) => l.set (off + c.2) c.1) arr = arr.take (off + k) ++ cs ++ arr.drop (off + k + cs.length)
  | [], k, off, arr, h => by simp
  | c :: cs, k, off, arr, h => by
    simp only [List.length_cons] at h
    rw [List.zipIdx_cons, List.foldl_cons, foldl_put cs (k + 1) off _ (by simp; omega)]
    have hk : off + k < arr.length := by omega
    rw [show off + (k + 1) = off + k + 1 by omega, List.take_succ_eq_append_getElem (by simpa using hk), List.getElem_set_self, List.take_set_of_le (by omega), List.drop_set_of_lt (by omega)]
    simp only [List.append_assoc, List.cons_append, List.nil_append, List.length_cons]
    congr 4
    omega

theorem foldl_arr (off : Nat) : ∀ (l : List (Value × Nat)) (arr : Array Value), (l.foldl (fun (cs : Array Value) (c : Value × Nat) => cs.setIfInBounds (off + c.2) c.1) arr).toList = l.foldl (fun (l : List Value) (c : Value × Nat) => l.set (off + c.2) c.1) arr.toList
  | [], arr => rfl
  | c :: l, arr => by
    rw [List.foldl_cons, List.foldl_cons, foldl_arr off l]
    simp

theorem fill_one (vs cs : List Value) (off : Nat) (h : off + vs.length ≤ cs.length) :
    vs.toArray.zipIdx.foldl (fun (cs : Array Value) (c : Value × Nat) => cs.setIfInBounds (off + c.2) c.1) cs.toArray = (cs.take off ++ vs ++ cs.drop (off + vs.length)).toArray := by
  apply Array.ext'
  rw [← Array.foldl_toList]
  have hz : vs.toArray.zipIdx.toList = vs.zipIdx := by simp
  rw [foldl_arr, hz, List.toList_toArray, foldl_put vs 0 off _ (by simpa using h)]
  simp

theorem fill_rel (place : Nat → Option (Nat × Nat)) : ∀ {qs : List (Nat × Operand)} {ps : List (Nat × Nat × AX)} {cs cs' : List AV} {vs : List Value}, cparts place qs = some ps → fillA s ps cs = some cs' → (∀ j, Rel g rho (look s.t j) (a.tmps.getD j undef)) → RelL g rho cs vs →
    ∃ vs', Instr.fill place vs.toArray (qs.map fun q => (q.1, a.eval q.2)) = some vs'.toArray ∧ RelL g rho cs' vs'
  | [], ps, cs, cs', vs, hp, hf, _, hr => by
    simp only [cparts, Option.some.injEq] at hp
    subst hp
    simp only [fillA, Option.some.injEq] at hf
    subst hf
    exact ⟨vs, rfl, hr⟩
  | (i, x) :: qs, ps, cs, cs', vs, hp, hf, hT, hr => by
    simp only [cparts] at hp
    split at hp
    · rename_i off n y r hpl hx hq
      simp only [Option.some.injEq] at hp
      subst hp
      simp only [fillA] at hf
      split at hf
      · rename_i new hnew
        split at hf
        · rename_i hlen
          obtain ⟨hl, us, hus, hru⟩ := cellsA_rel hnew (cx_rel hT hx)
          have hun : us.length = n := by rw [← hru.len, hl]
          obtain ⟨vs', h1, h2⟩ := fill_rel place hq hf hT (hr.put hru off)
          refine ⟨vs', ?_, h2⟩
          simp only [List.map_cons, Instr.fill, hpl, hus]
          have hs1 : us.toArray.size = n := by simpa using hun
          have hs2 : ¬ (us.toArray.size ≠ n || off + us.toArray.size > vs.toArray.size) = true := by
            have := hr.len
            simp only [hs1, List.size_toArray]
            simp
            omega
          rw [if_neg hs2, fill_one us vs off (by rw [hun, ← hr.len]; exact hlen)]
          exact h1
        · cases hf
      · cases hf
    · cases hp

theorem zeroN_rel {t : TypeId} {z : List PV} (h : zeroN P t = some z) : ∃ i zv, P.info? t = some i ∧ i.zero = some zv ∧ RelLP g z zv.cells.toList := by
  unfold zeroN at h
  cases hi : P.info? t with
  | none => simp [hi] at h
  | some i =>
    cases hz : i.zero with
    | none => simp [hi, hz] at h
    | some zv =>
      simp only [hi, hz, Option.bind_some] at h
      have hr := relP_const g zv
      refine ⟨i, zv, rfl, hz, ?_⟩
      have one : ∀ {x : PV}, RelP g x zv → zv.oneCell' = true → zv.cells = #[zv] → RelLP g [x] zv.cells.toList := fun {x} hx h1 hc => by
        rw [hc]
        exact ⟨rfl, by simpa using h1, fun i y u hy hu => by
          cases i with
          | zero => simp at hy hu; subst hy; subst hu; exact hx
          | succ i => simp at hy⟩
      generalize hc : ofConst zv = c at h hr
      cases hr with
      | any => simp at h
      | agg cs vs hl h1 hh =>
        simp only [Option.some.injEq] at h
        subst h
        exact ⟨by simpa [Value.cells] using hl, by simpa [Value.cells] using h1, by simpa [Value.cells] using hh⟩
      | val _ hu =>
        simp only [Option.some.injEq] at h
        subst h
        exact one (.val _ hu) (oneCell_scalar hu) (by cases zv <;> first | rfl | (simp [scalar] at hu))
      | tup cs vs hl hh =>
        exfalso
        unfold ofConst at hc
        split at hc <;> (try cases hc) <;> (split at hc <;> cases hc)
      | sl k sz es ad n c f hl hn hcc hm hk hz' hat hh =>
        simp only [Option.some.injEq] at h
        subst h
        exact one (.sl k sz es ad n c f hl hn hcc hm hk hz' hat hh) rfl rfl
      | ptr cs off b o f hat hh =>
        simp only [Option.some.injEq] at h
        subst h
        exact one (.ptr cs off b o f hat hh) rfl rfl
      | nilp =>
        simp only [Option.some.injEq] at h
        subst h
        exact one .nilp rfl rfl
      | clo f fi cap vf vc hl hl2 hh hh2 =>
        simp only [Option.some.injEq] at h
        subst h
        exact one (.clo f fi cap vf vc hl hl2 hh hh2) rfl rfl
      | yld =>
        simp only [Option.some.injEq] at h
        subst h
        exact one .yld rfl rfl
      | und =>
        exfalso
        unfold ofConst at hc
        split at hc <;> (try cases hc) <;> (split at hc <;> cases hc)

theorem still_build {t : TypeId} {qs : Array (Nat × Operand)} (hop : o.op = .build t qs) {z : List PV} {ps : List (Nat × Nat × AX)} (hz : zeroN P t = some z)
    (hp : (∃ fs places, P.underlying t = some (.struct fs) ∧ fs.toList.mapM (fun f => (P.info? f.type).map fun i => (f.offset, i.size)) = some places ∧ cparts (places.toArray[·]?) qs.toList = some ps) ∨
      (∃ n e ie, P.underlying t = some (.array n e) ∧ P.info? e = some ie ∧ cparts (fun i => some (i * ie.size, ie.size)) qs.toList = some ps))
    (hT : Tmps g rho s a) (h : stillV s (.build z ps) = some av) : StillOk P g rho [] w a o av := by
  obtain ⟨it, zv, hit, hzv, hr⟩ := zeroN_rel (g := g) hz
  simp only [stillV, Option.map_eq_some_iff] at h
  obtain ⟨cs', hf, rfl⟩ := h
  have hparts : (qs.map fun (i, x) => (i, a.eval x)).toList = qs.toList.map fun q => (q.1, a.eval q.2) := by simp
  have hzc : zv.cells.toList.toArray = zv.cells := by simp
  rcases hp with ⟨fs, places, hu, hpl, hc⟩ | ⟨n, e, ie, hu, hie, hc⟩
  · obtain ⟨vs', h1, h2⟩ := fill_rel _ hc hf hT (RelLP.toRelL (rho := rho) hr)
    refine ⟨_, RelL.mkAgg h2, fun w' _ _ => ?_⟩
    simp only [execOp, hop]
    refine run_v (run_build w' t _ _ ?_)
    rw [hparts]
    rw [hzc] at h1
    simp only [Program.built, hit, hu, hzv, hpl, h1]
  · obtain ⟨vs', h1, h2⟩ := fill_rel _ hc hf hT (RelLP.toRelL (rho := rho) hr)
    refine ⟨_, RelL.mkAgg h2, fun w' _ _ => ?_⟩
    simp only [execOp, hop]
    refine run_v (run_build w' t _ _ ?_)
    rw [hparts]
    rw [hzc] at h1
    simp only [Program.built, hit, hu, hzv, hie, h1]
end
end Go.Proofs.Ytaejmbmkkdkliaa
namespace Go.Proofs.Ytaejmbmkkdkliaa
open Go.RowKit

def Pre (rho rho' : List Nat) : Prop := ∀ (id b : Nat), rho[id]? = some b → rho'[id]? = some b
theorem Pre.refl (rho : List Nat) : Pre rho rho := fun _ _ h => h
theorem Pre.trans {a b c : List Nat} (h : Pre a b) (k : Pre b c) : Pre a c := fun i x e => k i x (h i x e)
theorem Pre.app (rho : List Nat) (b : Nat) : Pre rho (rho ++ [b]) := fun i x e => by
  rw [List.getElem?_append_left (List.getElem?_eq_some_iff.1 e).1]; exact e

theorem Rel.mono {g g' : GP} {rho rho' : List Nat} (hg : g.le g') (hr : Pre rho rho') {x : AV} {v : Value} (h : Rel g rho x v) : Rel g' rho' x v := by
  induction h with
  | p h => exact .p (h.mono hg)
  | loc h => exact .loc (hr _ _ h)
  | agg cs vs hl h1 _ ih => exact .agg cs vs hl h1 ih
  | clo f fi cap vf vs hl hl2 _ _ ih ih2 => exact .clo f fi cap vf vs hl hl2 ih ih2
  | sli h hn hc hm => exact .sli (hr _ _ h) hn hc hm
  | mpl h => exact .mpl (hr _ _ h)
  | tup cs vs hl _ ih => exact .tup cs vs hl ih
theorem RelL.mono {g g' : GP} {rho rho' : List Nat} (hg : g.le g') (hr : Pre rho rho') {cs : List AV} {vs : List Value} (h : RelL g rho cs vs) : RelL g' rho' cs vs :=
  ⟨h.len, h.one, fun i x v hx hv => (h.at_ i x v hx hv).mono hg hr⟩

def GP.fz (g : GP) (b lo hi : Nat) (f : Nat → Value) : GP := { g with frz := fun b' o => if b' = b ∧ lo ≤ o ∧ o < hi then some (f o) else g.frz b' o }
def GP.tk (g : GP) (t : Nat) (x : Value × TypeId × Nat) : GP := { g with tok := fun t' => if t' = t then some x else g.tok t' }
theorem GP.le_fz (g : GP) {b lo hi : Nat} (f : Nat → Value) (h : ∀ o, lo ≤ o → o < hi → g.frz b o = none) : g.le (g.fz b lo hi f) :=
  ⟨fun b' o v e => by
    simp only [GP.fz]
    by_cases hc : b' = b ∧ lo ≤ o ∧ o < hi
    · obtain ⟨rfl, h1, h2⟩ := hc
      rw [h o h1 h2] at e; cases e
    · rw [if_neg hc]; exact e, fun _ _ e => e, rfl⟩
theorem GP.le_tk (g : GP) {t : Nat} (x : Value × TypeId × Nat) (h : g.tok t = none) : g.le (g.tk t x) :=
  ⟨fun _ _ _ e => e, fun t' v e => by
    simp only [GP.tk]
    by_cases hc : t' = t
    · subst hc; rw [h] at e; cases e
    · rw [if_neg hc]; exact e, rfl⟩

/-- The block in which a slice has room behind it. -/
def rowB : Value → Option Nat
  | .slice a n c => if n < c then some ((a.map (·.block)).getD 0) else none
  | _ => none
/-- A token's slice: where there is room behind it, it is the call's own, and nothing there must stand. -/
def TokAt (n0 : Nat) (g : GP) (w : World) (t : Nat) : Prop :=
  ∃ v e sz, g.tok t = some (v, e, sz) ∧ ∀ b, rowB v = some b → ∃ n xs, w.ownsRow n0 e sz v n xs ∧ ∀ o, n * sz ≤ o → g.frz b o = none

/-- Steps that write only blocks of a set O, which are the call's own: not below n0, and not the outside's (R). -/
structure OwnStep (n0 : Nat) (R O : Nat → Prop) (g g' : GP) (w w' : World) : Prop where
  gle : g.le g'
  agree : Agree g' w'
  os : w'.os = w.os
  tape : w'.tape = w.tape
  output : w'.output = w.output
  size : w.heap.size ≤ w'.heap.size
  own : ∀ k, O k → n0 ≤ k ∧ ¬ R k
  block : ∀ k, k < w.heap.size → ¬ O k → w'.heap[k]? = w.heap[k]?
  frz : ∀ b o, b < w.heap.size → ¬ O b → g'.frz b o = g.frz b o

structure ArgsP (g : GP) (args : List PV) (vs : List Value) : Prop where
  len : args.length = vs.length
  at_ : ∀ (i : Nat) (x : PV) (v : Value), args[i]? = some x → vs[i]? = some v → RelP g x v

/-- Where a call runs: its own blocks lie from n0 on; Φ is what the outside must find again. -/
structure Env (P : Program) (F : Fence) where
  n0 : Nat
  /-- what was known, and which variables there were, where the call began -/
  g0 : GP
  rho0 : List Nat
  Φ : (Nat → Prop) → Option (List (List PV)) → GP → World → Prop
  stab : ∀ (R O : Nat → Prop) (ys : Option (List (List PV))) (g g' : GP) (w w' : World), Φ R ys g w → OwnStep n0 R O g g' w w' → Φ R ys g' w'
  /-- What the outside does when something is yielded. -/
  yld : ∀ (R : Nat → Prop) (y : List PV) (l : List (List PV)) (g : GP) (w : World) (us : List Value), Φ R (some (y :: l)) g w → Agree g w → ArgsP g y us → (∀ k, R k → k < w.heap.size) →
    YieldAt F 0 P g.yl us.toArray w fun e w' => ∃ (R' : Nat → Prop) (g' : GP), g.le g' ∧ Agree g' w' ∧ (∀ k, R' k → R k ∨ w.heap.size ≤ k) ∧ (∀ k, R' k → k < w'.heap.size) ∧ w.heap.size ≤ w'.heap.size ∧
      (∀ k, k < w.heap.size → n0 ≤ k → ¬ R k → w'.heap[k]? = w.heap[k]? ∧ ∀ o, g'.frz k o = g.frz k o) ∧
      ((e = .returned (.bool true) ∧ Φ R' (some l) g' w') ∨ (e = .returned (.bool false) ∧ Φ R' none g' w'))

structure Inv {P : Program} {F : Fence} (E : Env P F) (g : GP) (rho : List Nat) (R : Nat → Prop) (ks : List Nat) (loc : List ABlk) (live : List Nat) (ys : Option (List (List PV))) (w : World) : Prop where
  agree : Agree g w
  fr : E.Φ R ys g w
  low : E.n0 ≤ w.heap.size
  len : rho.length = loc.length
  locs : LocAt g rho w loc
  rlt : ∀ (id b : Nat), rho[id]? = some b → E.n0 ≤ b ∧ b < w.heap.size ∧ ¬ R b
  own : ∀ (id : Nat) (cs : List AV) (b : Nat), loc[id]? = some (.cells cs) → rho[id]? = some b → ∀ o, g.frz b o = none
  dis : ∀ (id id' b : Nat), rho[id]? = some b → rho[id']? = some b → id = id'
  toks : ∀ t ∈ live, TokAt E.n0 g w t
  tdis : ∀ t ∈ live, ∀ (v : Value) (e : TypeId) (sz b : Nat), g.tok t = some (v, e, sz) → rowB v = some b →
    ((∀ id : Nat, rho[id]? ≠ some b) ∧ ¬ R b) ∧ ∀ t' ∈ live, ∀ (v' : Value) (e' : TypeId) (sz' : Nat), g.tok t' = some (v', e', sz') → rowB v' = some b → t' = t
  nodup : live.Nodup
  rsz : ∀ k, R k → k < w.heap.size
  ksnd : ks.Nodup
  marks : ∀ k ∈ ks, E.n0 ≤ k ∧ ¬ R k ∧ w.heap[k]? = some (.deferred (some []))

section
variable {P : Program} {F : Fence} {E : Env P F} {g g' : GP} {rho ks : List Nat} {R : Nat → Prop} {loc : List ABlk} {live : List Nat} {ys : Option (List (List PV))} {w w' : World}

theorem Agree.lt (h : Agree g w) {b o : Nat} {v : Value} (e : g.frz b o = some v) : b < w.heap.size := World.block_lt_of_cell? w ⟨b, o, none⟩ (h.frz b o v e).1
theorem Agree.mono {g' : GP} (h : Agree g' w) (hg : g.le g') : Agree g w :=
  ⟨fun b o v e => h.frz b o v (hg.frz b o v e), let ⟨N, hN⟩ := h.fin; ⟨N, fun t ht => by
    cases e : g.tok t with
    | none => rfl
    | some x => have := hg.tok t x e; rw [hN t ht] at this; cases this⟩⟩
/-- Blocks that stay keep what agrees. -/
theorem Agree.keep (h : Agree g w) (hk : ∀ b o v, g.frz b o = some v → w'.heap[b]? = w.heap[b]?) : Agree g w' :=
  ⟨fun b o v e => ⟨(World.cell?_of_block (w := w) (a := ⟨b, o, none⟩) (hk b o v e)).trans (h.frz b o v e).1, (h.frz b o v e).2⟩, h.fin⟩

theorem EntsP.mono {es : List (PV × PV)} {l : List MapEntry} (h : EntsP g es l) (hg : g.le g') : EntsP g' es l :=
  ⟨h.len, fun i x e h1 h2 => ⟨(h.at_ i x e h1 h2).1.mono hg, (h.at_ i x e h1 h2).2.mono hg⟩⟩
/-- Is it written, or do all its cells stand? -/
def ABlk.turns : ABlk → Bool
  | .cells _ | .mp _ | .half _ => true
  | _ => false
theorem BlkAt.keep {b : Nat} {k : ABlk} {rho' : List Nat} (h : BlkAt g rho w b k) (hg : g.le g') (hr : Pre rho rho') (hk : k.turns = true → w'.heap[b]? = w.heap[b]?) : BlkAt g' rho' w' b k := by
  cases k with
  | cells cs =>
    obtain ⟨vs, us, t, hb, hrl⟩ := h
    exact ⟨vs, us, t, (hk rfl).trans hb, hrl.mono hg hr⟩
  | mp es =>
    obtain ⟨ents, clk, hb, he⟩ := h
    exact ⟨ents, clk, (hk rfl).trans hb, he.mono hg⟩
  | half cs =>
    obtain ⟨vs, us, t, hb, hrl, hf⟩ := h
    exact ⟨vs, us, t, (hk rfl).trans hb, hrl.mono hg hr, fun j v hv => hg.frz _ _ _ (hf j v hv)⟩
  | frz cs =>
    obtain ⟨f, hf⟩ := h
    exact ⟨f, fun j x hx => ⟨hg.frz _ _ _ (hf j x hx).1, (hf j x hx).2.mono hg⟩⟩
  | dead => trivial

theorem ownsRow_keep {n0 : Nat} {e : TypeId} {sz n : Nat} {v : Value} {xs : List Value} (h : w.ownsRow n0 e sz v n xs) (hk : ∀ b, v.ownBlock = some b → w'.heap[b]? = w.heap[b]?) : w'.ownsRow n0 e sz v n xs := by
  refine ⟨h.1, ?_⟩
  rcases h.2 with hn | ⟨b, cap, cur, rfl, hb, hgg, rest⟩
  · exact .inl hn
  · exact .inr ⟨b, cap, cur, rfl, hb, (hk b rfl).trans hgg, rest⟩
theorem rowB_row {n0 : Nat} {v : Value} {b n : Nat} {e : TypeId} {sz : Nat} {xs : List Value} (h : rowB v = some b) (ho : w.ownsRow n0 e sz v n xs) :
    ∃ c cur, v = .slice (some ⟨b, 0, none⟩) n c ∧ n < c ∧ n0 ≤ b ∧ w.heap[b]? = some (.cells cur e (0, 0)) ∧ c ≤ maxLen ∧ cur.size = c * sz ∧ cur.toList.take (n * sz) = xs := by
  rcases ho.2 with ⟨rfl, rfl⟩ | ⟨b', cap, cur, rfl, hb, hgg, hn, hc, hs, ht⟩
  · simp [rowB] at h
  · simp only [rowB] at h
    split at h
    · simp at h
      subst h
      exact ⟨cap, cur, rfl, by assumption, hb, hgg, hc, hs, ht⟩
    · cases h
theorem rowB_own {n0 : Nat} {v : Value} {b n : Nat} {e : TypeId} {sz : Nat} {xs : List Value} (h : rowB v = some b) (ho : w.ownsRow n0 e sz v n xs) : v.ownBlock = some b := by
  obtain ⟨c, cur, rfl, _⟩ := rowB_row h ho
  rfl

theorem OwnStep.refl (n0 : Nat) (R : Nat → Prop) {g : GP} {w : World} (h : Agree g w) : OwnStep n0 R (fun _ => False) g g w w :=
  ⟨GP.le.refl g, h, rfl, rfl, rfl, Nat.le_refl _, fun _ h => h.elim, fun _ _ _ => rfl, fun _ _ _ _ => rfl⟩

/-- All blocks stay; nothing old is frozen anew: all holds on. -/
theorem Inv.grow (h : Inv E g rho R ks loc live ys w) (hs : OwnStep E.n0 R (fun _ => False) g g' w w') : Inv E g' rho R ks loc live ys w' := by
  have hg := hs.gle
  have hk : ∀ b, b < w.heap.size → w'.heap[b]? = w.heap[b]? := fun b hb => hs.block b hb (fun h => h)
  have hn : ∀ b o, b < w.heap.size → g'.frz b o = g.frz b o := fun b o hb => hs.frz b o hb (fun h => h)
  have hz := hs.size
  have tok : ∀ t ∈ live, g'.tok t = g.tok t := fun t ht => by
    obtain ⟨v, e, sz, h1, _⟩ := h.toks t ht
    rw [h1]; exact hg.tok _ _ h1
  refine ⟨hs.agree, E.stab _ _ _ _ _ _ _ h.fr hs, Nat.le_trans h.low hz, h.len, ?_, ?_, ?_, h.dis, ?_, ?_, h.nodup, fun k hk => Nat.lt_of_lt_of_le (h.rsz k hk) hz, h.ksnd, ?_⟩
  · intro id k b h1 h2
    exact (h.locs id k b h1 h2).keep hg (Pre.refl _) (fun _ => hk b (h.rlt id b h2).2.1)
  · intro id b h1
    obtain ⟨h2, h3, h4⟩ := h.rlt id b h1
    exact ⟨h2, Nat.lt_of_lt_of_le h3 hz, h4⟩
  · intro id cs b h1 h2 o
    exact (hn b o (h.rlt id b h2).2.1).trans (h.own id cs b h1 h2 o)
  · intro t ht
    obtain ⟨v, e, sz, h1, h2⟩ := h.toks t ht
    refine ⟨v, e, sz, hg.tok _ _ h1, fun b hb' => ?_⟩
    obtain ⟨n, xs, h3, h4⟩ := h2 b hb'
    have hlt := (h3.lt b (rowB_own hb' h3)).2
    exact ⟨n, xs, ownsRow_keep h3 (fun b' hb2 => hk b' (h3.lt b' hb2).2), fun o ho => (hn b o hlt).trans (h4 o ho)⟩
  · intro t ht v e sz b h1 h2
    rw [tok t ht] at h1
    obtain ⟨h3, h4⟩ := h.tdis t ht v e sz b h1 h2
    refine ⟨h3, fun t' ht' v' e' sz' h5 h6 => ?_⟩
    rw [tok t' ht'] at h5
    exact h4 t' ht' v' e' sz' h5 h6
  · intro k hk'
    obtain ⟨h1, h2, h3⟩ := h.marks k hk'
    exact ⟨h1, h2, (hk k (Array.getElem?_eq_some_iff.1 h3).1).trans h3⟩

theorem Inv.drew (h : Inv E g rho R ks loc live ys w) : Inv E g rho R ks loc live ys w.drew :=
  h.grow ⟨GP.le.refl g, h.agree.keep (fun _ _ _ _ => rfl), rfl, rfl, rfl, Nat.le_refl _, fun _ h => h.elim, fun _ _ _ => rfl, fun _ _ _ _ => rfl⟩

/-- New blocks alone. -/
theorem Inv.step_alloc (_ : Inv E g rho R ks loc live ys w) (w1 : World) (hw1 : w1.heap = w.heap) (ho : w1.os = w.os) (htp : w1.tape = w.tape) (hou : w1.output = w.output) (o : Obj) (hg : g.le g') (hA : Agree g' (w1.alloc o)) (hn : ∀ b o, b < w.heap.size → g'.frz b o = g.frz b o) :
    OwnStep E.n0 R (fun _ => False) g g' w (w1.alloc o) :=
  ⟨hg, hA, ho, htp, hou, by simp [hw1], fun _ h => h.elim, fun k hk _ => by rw [Below.heap_alloc w1 _ k (by rw [hw1]; exact hk), hw1], fun b o hb _ => hn b o hb⟩

/-- A new variable of the call's own. -/
theorem Inv.box (h : Inv E g rho R ks loc live ys w) {cs : List AV} {vs us : List Value} (t : TypeId) (hr : RelL g rho cs vs) :
    Inv E g (rho ++ [w.heap.size]) R ks (loc ++ [.cells cs]) live ys (w.alloc (.cells (vs ++ us).toArray t)) := by
  have hk : ∀ b, b < w.heap.size → (w.alloc (.cells (vs ++ us).toArray t)).heap[b]? = w.heap[b]? := fun b hb => Below.heap_alloc w _ b hb
  have hA : Agree g (w.alloc (.cells (vs ++ us).toArray t)) := h.agree.keep (fun b o v e => hk b (h.agree.lt e))
  have hi := h.grow (h.step_alloc w rfl rfl rfl rfl _ (GP.le.refl g) hA (fun _ _ _ => rfl))
  have cutr : ∀ {id : Nat} {b : Nat}, (rho ++ [w.heap.size])[id]? = some b → rho[id]? = some b ∨ (id = loc.length ∧ b = w.heap.size) := by
    intro id b h2
    by_cases hid : id < loc.length
    · rw [List.getElem?_append_left (by rw [h.len]; exact hid)] at h2
      exact .inl h2
    · have e : id = loc.length := by
        have := (List.getElem?_eq_some_iff.1 h2).1
        simp [h.len] at this; omega
      subst e
      rw [List.getElem?_append_right (by rw [h.len]; exact Nat.le_refl _), h.len] at h2
      simp at h2
      exact .inr ⟨rfl, h2.symm⟩
  have cut : ∀ {id : Nat} {k : ABlk} {b : Nat}, (loc ++ [.cells cs])[id]? = some k → (rho ++ [w.heap.size])[id]? = some b → (loc[id]? = some k ∧ rho[id]? = some b) ∨ (id = loc.length ∧ k = .cells cs ∧ b = w.heap.size) := by
    intro id k b h1 h2
    rcases cutr h2 with h3 | ⟨rfl, rfl⟩
    · have hid : id < loc.length := by rw [← h.len]; exact (List.getElem?_eq_some_iff.1 h3).1
      rw [List.getElem?_append_left hid] at h1
      exact .inl ⟨h1, h3⟩
    · rw [List.getElem?_append_right (Nat.le_refl _)] at h1
      simp at h1
      exact .inr ⟨rfl, h1.symm, rfl⟩
  refine ⟨hA, hi.fr, hi.low, by simp [h.len], ?_, ?_, ?_, ?_, hi.toks, ?_, hi.nodup, hi.rsz, hi.ksnd, hi.marks⟩
  · intro id k b h1 h2
    rcases cut h1 h2 with ⟨h1, h2⟩ | ⟨rfl, rfl, rfl⟩
    · refine (hi.locs id k b h1 h2).keep (GP.le.refl g) (Pre.app _ _) (fun _ => rfl)
    · exact ⟨vs, us, t, heap_alloc_new w _, hr.mono (GP.le.refl g) (Pre.app _ _)⟩
  · intro id b h1
    rcases cutr h1 with h1 | ⟨rfl, rfl⟩
    · exact hi.rlt id b h1
    · exact ⟨h.low, by simp, fun hR => by have := h.rsz _ hR; omega⟩
  · intro id cs' b h1 h2
    rcases cut h1 h2 with ⟨h1, h2⟩ | ⟨rfl, h3, rfl⟩
    · exact h.own id cs' b h1 h2
    · intro o
      cases e : g.frz w.heap.size o with
      | none => rfl
      | some v => have := h.agree.lt e; omega
  · intro id id' b h1 h2
    rcases cutr h1 with h1 | ⟨rfl, rfl⟩
    · rcases cutr h2 with h2 | ⟨rfl, rfl⟩
      · exact h.dis id id' b h1 h2
      · have := (h.rlt id _ h1).2.1; omega
    · rcases cutr h2 with h2 | ⟨rfl, -⟩
      · have := (h.rlt id' _ h2).2.1; omega
      · rfl
  · intro t' ht v e sz b h1 h2
    obtain ⟨h3, h4⟩ := h.tdis t' ht v e sz b h1 h2
    refine ⟨⟨fun id h6 => ?_, h3.2⟩, h4⟩
    rcases cutr h6 with h6 | ⟨-, rfl⟩
    · exact h3.1 id h6
    · obtain ⟨v', e', sz', h7, h8⟩ := h.toks t' ht
      rw [h1] at h7
      simp only [Option.some.injEq, Prod.mk.injEq] at h7
      obtain ⟨rfl, rfl, rfl⟩ := h7
      obtain ⟨n, xs, h9, _⟩ := h8 _ h2
      have := (h9.lt _ (rowB_own h2 h9)).2
      omega

/-- New cells that never turn again. -/
theorem Inv.lay (h : Inv E g rho R ks loc live ys w) (cs : List Value) (t : TypeId) (h1 : ∀ v ∈ cs, v.oneCell' = true) (m : Nat) (hm : m ≤ cs.length) (w1 : World) (hw1 : w1.heap = w.heap) (ho : w1.os = w.os) (htp : w1.tape = w.tape) (hou : w1.output = w.output) :
    Inv E (g.fz w.heap.size 0 m (fun o => cs.getD o undef)) rho R ks loc live ys (w1.alloc (.cells cs.toArray t)) ∧ g.le (g.fz w.heap.size 0 m (fun o => cs.getD o undef)) := by
  have none : ∀ o, g.frz w.heap.size o = none := fun o => by
    cases e : g.frz w.heap.size o with
    | none => rfl
    | some v => have := h.agree.lt e; omega
  have hle := g.le_fz (b := w.heap.size) (lo := 0) (hi := m) (fun o => cs.getD o undef) (fun o _ _ => none o)
  have hk : ∀ b, b < w.heap.size → (w1.alloc (.cells cs.toArray t)).heap[b]? = w.heap[b]? := fun b hb => by rw [Below.heap_alloc w1 _ b (by rw [hw1]; exact hb), hw1]
  have hA : Agree (g.fz w.heap.size 0 m (fun o => cs.getD o undef)) (w1.alloc (.cells cs.toArray t)) := by
    refine ⟨fun b o v e => ?_, h.agree.fin⟩
    simp only [GP.fz] at e
    split at e
    · rename_i hc
      obtain ⟨rfl, -, h3⟩ := hc
      simp only [Option.some.injEq] at e
      subst e
      have hlt : o < cs.length := by omega
      have hnew := heap_alloc_new w1 (.cells cs.toArray t)
      rw [hw1] at hnew
      refine ⟨?_, ?_⟩
      · rw [cell_of_row _ _ _ _ _ _ hnew]
        simp [List.getD_eq_getElem?_getD, List.getElem?_eq_getElem hlt]
      · rw [List.getD_eq_getElem?_getD, List.getElem?_eq_getElem hlt]
        exact h1 _ (List.getElem_mem hlt)
    · obtain ⟨e1, e2⟩ := h.agree.frz b o v e
      exact ⟨(World.cell?_of_block (w := w) (a := ⟨b, o, Option.none⟩) (hk b (h.agree.lt e))).trans e1, e2⟩
  refine ⟨h.grow (h.step_alloc w1 hw1 ho htp hou _ hle hA (fun b o hb => ?_)), hle⟩
  simp only [GP.fz]
  rw [if_neg (by omega)]

/-- A store into a variable of the call's own. -/
theorem Inv.set (h : Inv E g rho R ks loc live ys w) {id b : Nat} {cs cs' : List AV} (h1 : loc[id]? = some (.cells cs)) (h2 : rho[id]? = some b) {vs vs' us : List Value} {t : TypeId}
    (hb : w.heap[b]? = some (.cells (vs ++ us).toArray t (0, 0))) (hr : RelL g rho cs' vs') : Inv E g rho R ks (loc.set id (.cells cs')) live ys (w.setRow b (vs' ++ us).toArray) := by
  have oth : ∀ b', b' ≠ b → (w.setRow b (vs' ++ us).toArray).heap[b']? = w.heap[b']? := fun b' e => setRow_other w b b' _ e
  have get : ∀ {id' : Nat} {k : ABlk}, (loc.set id (.cells cs'))[id']? = some k → (id' = id ∧ k = .cells cs') ∨ (id' ≠ id ∧ loc[id']? = some k) := by
    intro id' k hk
    rw [List.getElem?_set] at hk
    split at hk
    · rename_i e
      split at hk
      · simp only [Option.some.injEq] at hk; exact .inl ⟨e.symm, hk.symm⟩
      · cases hk
    · rename_i e
      exact .inr ⟨fun e' => e e'.symm, hk⟩
  have hA : Agree g (w.setRow b (vs' ++ us).toArray) := h.agree.keep (fun b' o v e => oth b' (fun e' => by subst e'; rw [h.own id cs b' h1 h2 o] at e; cases e))
  have hst : OwnStep E.n0 R (fun k => k = b) g g w (w.setRow b (vs' ++ us).toArray) := ⟨GP.le.refl g, hA, rfl, rfl, rfl, by simp, fun k hk => by subst hk; exact ⟨(h.rlt id k h2).1, (h.rlt id k h2).2.2⟩, fun k _ hk => oth k hk, fun _ _ _ _ => rfl⟩
  refine ⟨hA, E.stab _ _ _ _ _ _ _ h.fr hst, by simpa using h.low, by simp [h.len], ?_, ?_, ?_, h.dis, ?_, h.tdis, h.nodup, fun k hk => by simpa using h.rsz k hk, h.ksnd, fun k hk => ?_⟩
  · intro id' k b' h3 h4
    rcases get h3 with ⟨rfl, rfl⟩ | ⟨hne, h3⟩
    · rw [h2] at h4
      simp only [Option.some.injEq] at h4
      subst h4
      exact ⟨vs', us, t, setRow_heap w b _ _ t _ hb, hr⟩
    · exact (h.locs id' k b' h3 h4).keep (GP.le.refl g) (Pre.refl _) (fun _ => oth b' (fun e => hne (h.dis id' id b' h4 (e ▸ h2))))
  · intro id' b' h3
    simpa using h.rlt id' b' h3
  · intro id' c b' h3 h4
    rcases get h3 with ⟨rfl, _⟩ | ⟨hne, h3⟩
    · rw [h2] at h4
      simp only [Option.some.injEq] at h4
      subst h4
      exact h.own id' cs b h1 h2
    · exact h.own id' c b' h3 h4
  · intro t' ht
    obtain ⟨v, e, sz, h3, h4⟩ := h.toks t' ht
    refine ⟨v, e, sz, h3, fun b' hb' => ?_⟩
    obtain ⟨n, xs, h5, h6⟩ := h4 b' hb'
    refine ⟨n, xs, ownsRow_keep h5 (fun b2 hb2 => oth b2 (fun e' => ?_)), h6⟩
    have := rowB_own hb' h5
    rw [this] at hb2
    simp only [Option.some.injEq] at hb2
    subst hb2
    subst e'
    exact (h.tdis t' ht v e sz b' h3 hb').1.1 id h2
  · obtain ⟨h3, h4, h5⟩ := h.marks k hk
    exact ⟨h3, h4, (oth k (fun e => by subst e; rw [hb] at h5; cases h5)).trans h5⟩

/-- Fewer tokens. -/
theorem Inv.fewer (h : Inv E g rho R ks loc live ys w) {live' : List Nat} (hs : live'.Sublist live) : Inv E g rho R ks loc live' ys w :=
  ⟨h.agree, h.fr, h.low, h.len, h.locs, h.rlt, h.own, h.dis, fun t ht => h.toks t (hs.subset ht), fun t ht v e sz b h1 h2 =>
    let ⟨h3, h4⟩ := h.tdis t (hs.subset ht) v e sz b h1 h2; ⟨h3, fun t' ht' => h4 t' (hs.subset ht')⟩, h.nodup.sublist hs, h.rsz, h.ksnd, h.marks⟩

/-- A new token. -/
theorem Inv.token (h : Inv E g rho R ks loc live ys w) {t : Nat} (hnew : g.tok t = none) {v : Value} {e : TypeId} {sz : Nat}
    (hat : ∀ b, rowB v = some b → (∃ n xs, w.ownsRow E.n0 e sz v n xs ∧ ∀ o, n * sz ≤ o → g.frz b o = none) ∧ ((∀ id : Nat, rho[id]? ≠ some b) ∧ ¬ R b) ∧
      ∀ t' ∈ live, ∀ (v' : Value) (e' : TypeId) (sz' : Nat), g.tok t' = some (v', e', sz') → rowB v' ≠ some b) :
    Inv E (g.tk t (v, e, sz)) rho R ks loc (t :: live) ys w ∧ g.le (g.tk t (v, e, sz)) := by
  have hle := g.le_tk (v, e, sz) hnew
  have hnl : t ∉ live := fun hm => by
    obtain ⟨v', e', sz', h1, _⟩ := h.toks t hm
    rw [hnew] at h1; cases h1
  have hA : Agree (g.tk t (v, e, sz)) w := ⟨h.agree.frz, let ⟨N, hN⟩ := h.agree.fin; ⟨max N (t + 1), fun t' ht' => by
    simp only [GP.tk]
    rw [if_neg (by omega)]
    exact hN t' (by omega)⟩⟩
  have hi := h.grow ⟨hle, hA, rfl, rfl, rfl, Nat.le_refl _, fun _ h => h.elim, fun _ _ _ => rfl, fun _ _ _ _ => rfl⟩
  have get : ∀ {t' : Nat} {x : Value × TypeId × Nat}, t' ∈ t :: live → (g.tk t (v, e, sz)).tok t' = some x → (t' = t ∧ x = (v, e, sz)) ∨ (t' ∈ live ∧ g.tok t' = some x) := by
    intro t' x hm hx
    simp only [GP.tk] at hx
    split at hx
    · rename_i e'
      simp only [Option.some.injEq] at hx
      exact .inl ⟨e', hx.symm⟩
    · rename_i e'
      rcases List.mem_cons.1 hm with rfl | hm
      · exact absurd rfl e'
      · exact .inr ⟨hm, hx⟩
  refine ⟨⟨hA, hi.fr, hi.low, hi.len, hi.locs, hi.rlt, hi.own, hi.dis, fun t' ht' => ?_, fun t' ht' v' e' sz' b h1 h2 => ?_, List.nodup_cons.2 ⟨hnl, h.nodup⟩, hi.rsz, hi.ksnd, hi.marks⟩, hle⟩
  · rcases List.mem_cons.1 ht' with rfl | ht'
    · exact ⟨v, e, sz, by simp [GP.tk], fun b hb => (hat b hb).1⟩
    · exact hi.toks t' ht'
  · rcases get ht' h1 with ⟨rfl, h3⟩ | ⟨hm, h3⟩
    · simp only [Prod.mk.injEq] at h3
      obtain ⟨rfl, rfl, rfl⟩ := h3
      refine ⟨(hat b h2).2.1, fun t2 ht2 v2 e2 sz2 h4 h5 => ?_⟩
      rcases get ht2 h4 with ⟨rfl, _⟩ | ⟨hm2, h6⟩
      · rfl
      · exact absurd h5 ((hat b h2).2.2 t2 hm2 v2 e2 sz2 h6)
    · obtain ⟨h4, h5⟩ := h.tdis t' hm v' e' sz' b h3 h2
      refine ⟨h4, fun t2 ht2 v2 e2 sz2 h6 h7 => ?_⟩
      rcases get ht2 h6 with ⟨rfl, h8⟩ | ⟨hm2, h8⟩
      · simp only [Prod.mk.injEq] at h8
        obtain ⟨rfl, rfl, rfl⟩ := h8
        exact absurd h2 ((hat b h7).2.2 t' hm v' e' sz' h3)
      · exact h5 t2 hm2 v2 e2 sz2 h8 h7
end
end Go.Proofs.Ytaejmbmkkdkliaa
