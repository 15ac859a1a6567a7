/- Small things for contracts out of abstract code. Contracts of functions that share a few variables with their caller. The steps of abstract code, as one set. Loops that name only what turns. -/
import Derived.Test.YtlbolnlcncjijaaGreatGa13
import Derived.Attr
namespace Go.Proofs.YtlbolnlcncjijaaGreat
open Go.RowKit Go.Shelf
abbrev pi (n : Int) : PV := .val (.int .i64 n)
abbrev pb (b : Bool) : PV := .val (.bool b)
abbrev pis (l : List Int) : PV := .sl .sh 1 (l.map fun x => [pi x])
abbrev psp (a b : Int) : PV := .agg [pi a, pi b]

theorem semC_real {P : Program} {f : FuncId} {args : List PV} {R : PV → Prop} (hE : Enters P f) (h : (∃ g w vs, Agree g w ∧ ArgsP g args vs) → SemC P f args R) : SemC P f args R := ⟨hE, fun g w vs hA ha => (h ⟨g, w, vs, hA, ha⟩).2 g w vs hA ha⟩
theorem real_len {args : List PV} {i : Nat} {k : SK} {sz : Nat} {es : List (List PV)} (h : ∃ g w vs, Agree g w ∧ ArgsP g args vs) (hi : args[i]? = some (.sl k sz es)) : es.length ≤ 140737488355328 := by
  obtain ⟨g, w, vs, hA, ha⟩ := h
  have hlt : i < vs.length := by rw [← ha.len]; exact (List.getElem?_eq_some_iff.1 hi).1
  have := ha.at_ i _ _ hi (List.getElem?_eq_getElem hlt)
  generalize vs[i] = v at this
  cases this with
  | sl _ _ _ ad n c f hl hn hc hm hk hz hat hh => omega
theorem semC_of_exec' {P : Program} {f : FuncId} {fn : Func} {ac : AC} {mu : Nat → Bool} {args : List PV} {R : PV → Prop} (hm : P.follows .mixedOrders = true) (hf : P.funcs[f]? = some fn) (hn : (fn.name == "runtime.NumGoroutine") = false) (hb : fn.body = some (fn.body.getD .skip))
    (hc : cCode P mu fn.ntmps (fn.body.getD .skip) = some ac) (n : Nat) (hnl : args.length = n) (hnt : n ≤ fn.ntmps) (rs : List ResultVar) (hrs : fn.results.toList = rs) (h : (∃ g w vs, Agree g w ∧ ArgsP g args vs) → ∀ C : Con, (∀ f args rd K s, SemP P Fence.wide f args rd K s → C.call f args rd K s) → (∀ f args xs, IterC P Fence.wide f args xs → C.it f args xs) → exec C ac (retC P rs R) ⟨entryT (args.map .p) 0, [], [], some [], 0⟩) : SemC P f args R :=
  semC_real (enters_of hf hn hb) fun hr => semC_of_exec hm hf hn hb hc (by rw [hnl]; exact hnt) (by rw [hrs]; exact h hr _ (fun _ _ _ _ _ h => h) (fun _ _ _ h => h))
theorem retC_ret {P : Program} {rs : List ResultVar} {R : PV → Prop} {s : AS} : retC P rs R .ret s = retQ P rs R s := rfl
theorem retC_normal {P : Program} {rs : List ResultVar} {R : PV → Prop} {s : AS} : retC P rs R .normal s = retQ P rs R s := rfl
theorem PVle.refl' (x : PV) : PVle x x := fun _ _ h => h
theorem PVleL_refl : ∀ l : List PV, PVleL l l
  | [] => trivial
  | x :: l => ⟨PVle.refl' x, PVleL_refl l⟩
theorem retQ_one {P : Program} {t : Nat} {R : PV → Prop} {s : AS} {x : PV} (h : look s.t t = .p x) (hR : R x) : retQ P [.tmp t] R s :=
  ⟨[.p x], [x], s.loc, x, by simp [resA, h], rfl, PVle.refl' x, hR⟩
theorem retQ_le {P : Program} {t : Nat} {R : PV → Prop} {s : AS} {x y : PV} (h : look s.t t = .p x) (hle : PVle x y) (hR : R y) : retQ P [.tmp t] R s :=
  ⟨[.p x], [x], s.loc, y, by simp [resA, h], rfl, hle, hR⟩
theorem retQ_two {P : Program} {t u : Nat} {R : PV → Prop} {s : AS} {x y : PV} (h : look s.t t = .p x) (h2 : look s.t u = .p y) (hR : R (.tup [x, y])) : retQ P [.tmp t, .tmp u] R s :=
  ⟨[.p x, .p y], [x, y], s.loc, .tup [x, y], by simp [resA, h, h2], rfl, PVle.refl' _, hR⟩
theorem retQ_cell {P : Program} {t : Nat} {ty : TypeId} {n : Option Nat} {R : PV → Prop} {s : AS} {x : PV} (hs : shapeN P ty = some n) (h : stillV s (.ld n (.t t)) = some (.p x)) (hR : R x) : retQ P [.cell t ty] R s :=
  ⟨[.p x], [x], s.loc, x, by simp [resA, hs, h], rfl, PVle.refl' x, hR⟩
theorem real_int {args : List PV} {i : Nat} {k : IntKind} {n : Int} (h : ∃ g w vs, Agree g w ∧ ArgsP g args vs) (hi : args[i]? = some (.val (.int k n))) : k.min ≤ n ∧ n ≤ k.max := by
  obtain ⟨g, w, vs, hA, ha⟩ := h
  have hlt : i < vs.length := by rw [← ha.len]; exact (List.getElem?_eq_some_iff.1 hi).1
  have := ha.at_ i _ _ hi (List.getElem?_eq_getElem hlt)
  generalize vs[i] = v at this
  cases this with
  | val _ h => simpa [scalar] using h
theorem real_i64 {args : List PV} {i : Nat} {n : Int} (h : ∃ g w vs, Agree g w ∧ ArgsP g args vs) (hi : args[i]? = some (pi n)) : -9223372036854775808 ≤ n ∧ n ≤ 9223372036854775807 := real_int h hi
theorem call_pure {P : Program} {C : Con} (hC : ∀ f args rd K s, SemP P Fence.wide f args rd K s → C.call f args rd K s) {f : FuncId} {l l2 : List PV} {rd : List Nat} {Q : PV → Prop} {K : AV → AS → Prop} {s : AS} (h : SemC P f l2 Q) (hle : PVleL l l2) (hK : ∀ r, Q r → K (.p r) s) : C.call f (l.map .p) rd K s :=
  hC _ _ _ _ _ (sem_pure open_wide (L' := s.loc) h (purV_map l s.loc) hle (fun r hr => hK r hr))
 where purV_map : ∀ (l : List PV) (L : List ABlk), purArgs.purV (l.map .p) L = some (l, L)
  | [], L => rfl
  | x :: l, L => by simp only [List.map_cons, purArgs.purV, pur, purV_map l L]
theorem iadr_pis {l : List Int} {kd : SK} {k : Nat} (h : k < l.length) : iadrS' 1 (.p (.sl kd 1 (l.map fun x => [pi x]))) (.p (pi k)) = some (.p (.ptr [pi l[k]] 0)) := iadrS_sl (by omega) (by simp [h])
theorem wrap_succ {k : Nat} (h : k < 4611686018427387904) : IntKind.i64.wrap ((k : Int) + 1) = ((k + 1 : Nat) : Int) := by rw [wrap_id (by omega) (by omega)]; rfl
theorem elems_pi (l : List Int) (x : Int) : (l.map fun x => [pi x]) ++ [[pi x]] = (l ++ [x]).map fun x => [pi x] := by simp
def kindO (e : TypeId) (sz : Nat) : Option Nat → SK
  | none => .full
  | some t => .own t e sz
theorem can_kindO {e : TypeId} {sz : Nat} (o : Option Nat) : canApp o.toList e sz (kindO e sz o) := by cases o <;> simp [kindO, canApp]
theorem live_kindO {e : TypeId} {sz : Nat} (o : Option Nat) : liveApp o.toList (kindO e sz o) = [] := by cases o <;> simp [kindO, liveApp]
theorem iterC_of_exec' {P : Program} {f : FuncId} {fn : Func} {ac : AC} {mu : Nat → Bool} {args : List PV} {xs : List (List PV)} (hm : P.follows .mixedOrders = true) (hf : P.funcs[f]? = some fn) (hn : (fn.name == "runtime.NumGoroutine") = false) (hb : fn.body = some (fn.body.getD .skip))
    (hc : cCode P mu fn.ntmps (fn.body.getD .skip) = some ac) (n : Nat) (hnl : args.length = n) (hnt : n ≤ fn.ntmps) (hrs : fn.results.toList = []) (h : ∀ C : Con, (∀ f args rd K s, SemP P Fence.wide f args rd K s → C.call f args rd K s) → (∀ f args xs, IterC P Fence.wide f args xs → C.it f args xs) → exec C ac retI ⟨entryT (args.map .p) 0, [], [], some xs, 0⟩) : IterC P Fence.wide f args xs :=
  iterC_of_exec open_wide rfl hm hf hn hb hc (by rw [hnl]; exact hnt) hrs (h _ (fun _ _ _ _ _ h => h) (fun _ _ _ h => h))
theorem retI_normal {s : AS} : retI .normal s = (s.ys = some [] ∨ s.ys = none) := rfl
theorem retI_ret {s : AS} : retI .ret s = (s.ys = some [] ∨ s.ys = none) := rfl
theorem last_dead {k : Nat} {x : ABlk} : (List.replicate k ABlk.dead ++ [x])[k]? = some x := by simp
theorem len_dead {k : Nat} {x : ABlk} : (List.replicate k ABlk.dead ++ [x]).length = k + 1 := by simp
theorem last_dead2 {k : Nat} {x y : ABlk} : (List.replicate k ABlk.dead ++ [x] ++ [y])[k + 1]? = some y := by simp
theorem old_dead2 {k : Nat} {x y : ABlk} : (List.replicate k ABlk.dead ++ [x] ++ [y])[k]? = some x := by simp
theorem set_dead2 {k : Nat} {x y z : ABlk} : (List.replicate k ABlk.dead ++ [x] ++ [y]).set (k + 1) z = List.replicate k ABlk.dead ++ [x] ++ [z] := by simp
theorem wkL_dead {n k : Nat} {L : List ABlk} : ∀ {M : List ABlk}, M.length = k + 1 → (wkL n (M ++ L) (List.replicate (k + 1) ABlk.dead ++ L) ↔ wkL n L L)
  | [], h => by simp at h
  | [b], h => by
    have : k = 0 := by simp at h; omega
    subst this
    simp [wkL, List.replicate]
  | b :: c :: M, h => by
    obtain ⟨j, rfl⟩ : ∃ j, k = j + 1 := ⟨k - 1, by simp at h; omega⟩
    rw [List.replicate_succ, List.cons_append, List.cons_append]
    have := wkL_dead (n := n) (k := j) (L := L) (M := c :: M) (by simpa using h)
    exact ⟨fun h => this.1 h.2, fun h => ⟨.inl rfl, this.2 h⟩⟩
end Go.Proofs.YtlbolnlcncjijaaGreat
namespace Go.Proofs.YtlbolnlcncjijaaGreat
open Go.RowKit Go.Shelf

def AV.ren (m : Nat → Nat) : AV → AV
  | .p x => .p x
  | .loc id off => .loc (m id) off
  | .agg cs => .agg (renL m cs)
  | .clo f fi cap => .clo f (renL m fi) (renL m cap)
  | .sli id n sz => .sli (m id) n sz
  | .mpl id => .mpl (m id)
  | .tup vs => .tup (renL m vs)
 where renL (m : Nat → Nat) : List AV → List AV
  | [] => []
  | x :: l => x.ren m :: renL m l
theorem renL_map (m : Nat → Nat) : ∀ l : List AV, AV.ren.renL m l = l.map (AV.ren m)
  | [] => rfl
  | x :: l => by simp [AV.ren.renL, renL_map m l]
def ABlk.ren (m : Nat → Nat) : ABlk → ABlk
  | .cells cs => .cells (cs.map (AV.ren m))
  | .half cs => .half (cs.map (AV.ren m))
  | .prz n k cs => .prz n k (cs.map (AV.ren m))
  | .prt n cs => .prt n (cs.map (AV.ren m))
  | x => x

def mAt (I : List Nat) (n j : Nat) : Nat := if j < I.length then I.getD j 0 else n + (j - I.length)
def setAll : List ABlk → List Nat → List ABlk → List ABlk
  | loc, i :: I, k :: ks => setAll (loc.set i k) I ks
  | loc, _, _ => loc
def updL (loc : List ABlk) (I : List Nat) (L : List ABlk) : List ABlk :=
  setAll loc I (L.map (ABlk.ren (mAt I loc.length))) ++ (L.drop I.length).map (ABlk.ren (mAt I loc.length))

section
variable {g g' : GP} {rho rho' : List Nat} {m : Nat → Nat}
theorem Rel.ren {x : AV} {v : Value} (h : Rel g rho x v) (hm : ∀ i b : Nat, rho[i]? = some b → rho'[m i]? = some b) : Rel g rho' (x.ren m) v := by
  induction h with
  | p h => exact .p h
  | loc h => exact .loc (hm _ _ h)
  | agg cs vs hl h1 _ ih =>
    simp only [AV.ren, renL_map]
    refine .agg _ vs (by simpa using hl) h1 (fun i x v hx hv => ?_)
    rw [List.getElem?_map, Option.map_eq_some_iff] at hx
    obtain ⟨y, hy, rfl⟩ := hx
    exact ih i y v hy hv
  | tup cs vs hl _ ih =>
    simp only [AV.ren, renL_map]
    refine .tup _ vs (by simpa using hl) (fun i x v hx hv => ?_)
    rw [List.getElem?_map, Option.map_eq_some_iff] at hx
    obtain ⟨y, hy, rfl⟩ := hx
    exact ih i y v hy hv
  | clo f fi cap vf vs hl hl2 _ _ ih ih2 =>
    simp only [AV.ren, renL_map]
    refine .clo f _ _ vf vs (by simpa using hl) (by simpa using hl2) (fun i x v hx hv => ?_) (fun i x v hx hv => ?_)
    · rw [List.getElem?_map, Option.map_eq_some_iff] at hx
      obtain ⟨y, hy, rfl⟩ := hx
      exact ih i y v hy hv
    · rw [List.getElem?_map, Option.map_eq_some_iff] at hx
      obtain ⟨y, hy, rfl⟩ := hx
      exact ih2 i y v hy hv
  | sli h hn hc hm' => exact .sli (hm _ _ h) hn hc hm'
  | mpl h => exact .mpl (hm _ _ h)

theorem Rel.unren {n : Nat} (hm : ∀ i b : Nat, i < n → rho'[m i]? = some b → rho[i]? = some b) {y : AV} {v : Value} (h : Rel g rho' y v) : ∀ {x : AV}, y = x.ren m → x.lo n = true → Rel g rho x v := by
  induction h with
  | p h => intro x e hx; cases x <;> simp [AV.ren] at e; subst e; exact .p h
  | loc h =>
    intro x e hx
    cases x <;> simp [AV.ren] at e
    obtain ⟨rfl, rfl⟩ := e
    simp only [AV.lo, decide_eq_true_eq] at hx
    exact .loc (hm _ _ hx h)
  | agg cs vs hl h1 _ ih =>
    intro x e hx
    cases x <;> simp [AV.ren, renL_map] at e
    subst e
    simp only [AV.lo] at hx
    refine .agg _ vs (by simpa using hl) h1 (fun i x v hx' hv => ih i _ v (by rw [List.getElem?_map, hx']; rfl) hv rfl (loL_spec hx x (List.mem_of_getElem? hx')))
  | tup cs vs hl _ ih =>
    intro x e hx
    cases x <;> simp [AV.ren, renL_map] at e
    subst e
    simp only [AV.lo] at hx
    refine .tup _ vs (by simpa using hl) (fun i x v hx' hv => ih i _ v (by rw [List.getElem?_map, hx']; rfl) hv rfl (loL_spec hx x (List.mem_of_getElem? hx')))
  | clo f fi cap vf vs hl hl2 _ _ ih ih2 =>
    intro x e hx
    cases x <;> simp [AV.ren, renL_map] at e
    obtain ⟨rfl, rfl, rfl⟩ := e
    simp only [AV.lo, Bool.and_eq_true] at hx
    exact .clo _ _ _ vf vs (by simpa using hl) (by simpa using hl2) (fun i x v hx' hv => ih i _ v (by rw [List.getElem?_map, hx']; rfl) hv rfl (loL_spec hx.1 x (List.mem_of_getElem? hx')))
      (fun i x v hx' hv => ih2 i _ v (by rw [List.getElem?_map, hx']; rfl) hv rfl (loL_spec hx.2 x (List.mem_of_getElem? hx')))
  | sli h hn hc hm' =>
    intro x e hx
    cases x <;> simp [AV.ren] at e
    obtain ⟨rfl, rfl, rfl⟩ := e
    simp only [AV.lo, decide_eq_true_eq] at hx
    exact .sli (hm _ _ hx h) hn hc hm'
  | mpl h =>
    intro x e hx
    cases x <;> simp [AV.ren] at e
    subst e
    simp only [AV.lo, decide_eq_true_eq] at hx
    exact .mpl (hm _ _ hx h)
theorem RelL.ren {cs : List AV} {vs : List Value} (h : RelL g rho cs vs) (hm : ∀ i b : Nat, rho[i]? = some b → rho'[m i]? = some b) : RelL g rho' (cs.map (AV.ren m)) vs :=
  ⟨by simpa using h.len, h.one, fun i x v hx hv => by
    rw [List.getElem?_map, Option.map_eq_some_iff] at hx
    obtain ⟨y, hy, rfl⟩ := hx
    exact (h.at_ i y v hy hv).ren hm⟩
theorem RelL.unren {n : Nat} (hm : ∀ i b : Nat, i < n → rho'[m i]? = some b → rho[i]? = some b) {cs : List AV} {vs : List Value} (h : RelL g rho' (cs.map (AV.ren m)) vs) (hl : AV.lo.loL n cs = true) : RelL g rho cs vs :=
  ⟨by simpa using h.len, h.one, fun i x v hx hv => Rel.unren hm (h.at_ i (x.ren m) v (by rw [List.getElem?_map, hx]; rfl) hv) rfl (loL_spec hl x (List.mem_of_getElem? hx))⟩
def ABlk.lo (n : Nat) : ABlk → Bool
  | .cells cs => AV.lo.loL n cs
  | .half cs => AV.lo.loL n cs
  | .prz _ _ cs => AV.lo.loL n cs
  | .prt _ cs => AV.lo.loL n cs
  | _ => true
variable {w w' : World}
theorem BlkAt.ren {b : Nat} {k : ABlk} (h : BlkAt g rho w b k) (hm : ∀ i b : Nat, rho[i]? = some b → rho'[m i]? = some b) : BlkAt g rho' w b (k.ren m) := by
  cases k with
  | cells cs => obtain ⟨vs, us, t, h1, h2⟩ := h; exact ⟨vs, us, t, h1, h2.ren hm⟩
  | half cs => obtain ⟨vs, us, t, h1, h2, h3⟩ := h; exact ⟨vs, us, t, h1, h2.ren hm, h3⟩
  | prz n k cs => obtain ⟨vs, us, t, h1, h2, h3⟩ := h; exact ⟨vs, us, t, h1, h2.ren hm, h3⟩
  | prt n cs => obtain ⟨vs, us, t, h1, h2, h3⟩ := h; exact ⟨vs, us, t, h1, h2.ren hm, h3⟩
  | frz cs => exact h
  | mp es => exact h
  | mpz es => exact h
  | mfz es => exact h
  | dead => trivial
theorem ABlk.mine_ren {m : Nat → Nat} (k : ABlk) : (k.ren m).mine = k.mine := by cases k <;> rfl
theorem ABlk.lowN_ren {m : Nat → Nat} (k : ABlk) : (k.ren m).lowN = k.lowN := by cases k <;> rfl
theorem BlkAt.unren {n : Nat} (hm : ∀ i b : Nat, i < n → rho'[m i]? = some b → rho[i]? = some b) {b : Nat} {k : ABlk} (h : BlkAt g rho' w b (k.ren m)) (hl : k.lo n = true) : BlkAt g rho w b k := by
  cases k with
  | cells cs => obtain ⟨vs, us, t, h1, h2⟩ := h; exact ⟨vs, us, t, h1, h2.unren hm hl⟩
  | half cs => obtain ⟨vs, us, t, h1, h2, h3⟩ := h; exact ⟨vs, us, t, h1, h2.unren hm hl, h3⟩
  | prz n k cs => obtain ⟨vs, us, t, h1, h2, h3⟩ := h; exact ⟨vs, us, t, h1, h2.unren hm hl, h3⟩
  | prt n cs => obtain ⟨vs, us, t, h1, h2, h3⟩ := h; exact ⟨vs, us, t, h1, h2.unren hm hl, h3⟩
  | frz cs => exact h
  | mp es => exact h
  | mpz es => exact h
  | mfz es => exact h
  | dead => trivial
theorem ArgsRel.unren {n : Nat} (hm : ∀ i b : Nat, i < n → rho'[m i]? = some b → rho[i]? = some b) {args : List AV} {vs : List Value} (h : ArgsRel g rho' (args.map (AV.ren m)) vs) (hl : AV.lo.loL n args = true) : ArgsRel g rho args vs :=
  ⟨by simpa using h.len, fun i x v hx hv => Rel.unren hm (h.at_ i (x.ren m) v (by rw [List.getElem?_map, hx]; rfl) hv) rfl (loL_spec hl x (List.mem_of_getElem? hx))⟩
end

theorem setAll_length : ∀ (I : List Nat) (ks loc : List ABlk), (setAll loc I ks).length = loc.length
  | [], _, _ => by simp [setAll]
  | _ :: _, [], _ => by simp [setAll]
  | i :: I, k :: ks, loc => by simp [setAll, setAll_length I ks]
theorem setAll_other : ∀ (I : List Nat) (ks loc : List ABlk) (j : Nat), j ∉ I → (setAll loc I ks)[j]? = loc[j]?
  | [], _, _, _, _ => by simp [setAll]
  | _ :: _, [], _, _, _ => by simp [setAll]
  | i :: I, k :: ks, loc, j, h => by
    simp only [List.mem_cons, not_or] at h
    simp only [setAll]
    rw [setAll_other I ks _ j h.2, List.getElem?_set_ne (fun e => h.1 e.symm)]
theorem setAll_at : ∀ (I : List Nat) (ks loc : List ABlk) (q j : Nat) (k : ABlk), I.Nodup → I[q]? = some j → ks[q]? = some k → j < loc.length → (setAll loc I ks)[j]? = some k
  | [], _, _, q, _, _, _, h, _, _ => by simp at h
  | _ :: _, [], _, q, _, _, _, _, h, _ => by simp at h
  | i :: I, k' :: ks, loc, q, j, k, hn, h1, h2, hj => by
    rw [List.nodup_cons] at hn
    simp only [setAll]
    cases q with
    | zero =>
      simp only [List.getElem?_cons_zero, Option.some.injEq] at h1 h2
      subst h1; subst h2
      rw [setAll_other I ks _ i hn.1, List.getElem?_set_self hj]
    | succ q =>
      exact setAll_at I ks _ q j k hn.2 (by simpa using h1) (by simpa using h2) (by simpa using hj)

def SemM (P : Program) (F : Fence) (f : FuncId) (args : List AV) (L : List ABlk) (ys : Option (List (List PV))) (Q : AV → List ABlk → Option (List (List PV)) → Prop) : Prop :=
  SemP P F f args [] (fun r s => Q r s.loc s.ys) ⟨[], L, [], ys, 0⟩

section
variable {P : Program} {F : Fence}
theorem SemM.mono {f : FuncId} {args : List AV} {L : List ABlk} {ys : Option (List (List PV))} {Q Q' : AV → List ABlk → Option (List (List PV)) → Prop} (h : SemM P F f args L ys Q) (hq : ∀ r L' ys', Q r L' ys' → Q' r L' ys') : SemM P F f args L ys Q' :=
  ⟨h.1, fun E g rho R ks w vs hI ha => (h.2 E g rho R ks w vs hI ha).mono fun _ _ ⟨v, av, g', rho', R', loc', live', ys', h1, h2, h3, h4, h5, h6, h7⟩ => ⟨v, av, g', rho', R', loc', live', ys', h1, h2, h3, h4, h5, h6, hq _ _ _ h7⟩⟩

theorem mAt_lt {I : List Nat} {n j : Nat} {i : Nat} (h : I[j]? = some i) : mAt I n j = i := by
  have hlt := (List.getElem?_eq_some_iff.1 h).1
  rw [List.getElem?_eq_getElem hlt] at h
  simp only [Option.some.injEq] at h
  simp [mAt, hlt, List.getD_eq_getElem?_getD, h]

theorem call_mem {f : FuncId} {args : List AV} {L : List ABlk} {Q : AV → List ABlk → Option (List (List PV)) → Prop} {K : AV → AS → Prop} {s : AS} {rd I : List Nat} (hC : SemM P F f args L s.ys Q) (hn : I.Nodup) (hIL : I.length = L.length)
    (hat : ∀ (j : Nat) (k : ABlk), L[j]? = some k → ∃ i, I[j]? = some i ∧ s.loc[i]? = some (k.ren (mAt I s.loc.length)))
    (hturn : (L.all ABlk.turns) = true) (hlo : (L.all (ABlk.lo L.length)) = true) (hal : AV.lo.loL L.length args = true) (hrd : ∀ id ∈ rd, id ∉ I)
    (hK : ∀ (r : AV) (L' : List ABlk) (ys' : Option (List (List PV))), Q r L' ys' → L.length ≤ L'.length → K (r.ren (mAt I s.loc.length)) { s with loc := updL s.loc I L', ys := ys' }) : SemP P F f (args.map (AV.ren (mAt I s.loc.length))) rd K s := by
  refine ⟨hC.1, fun E g rho R ks w vs hI ha => ?_⟩
  obtain ⟨m, hm⟩ : ∃ m, mAt I s.loc.length = m := ⟨_, rfl⟩
  rw [hm] at hat ha hK
  -- the part's blocks
  have hIlt : ∀ {j i : Nat}, I[j]? = some i → i < rho.length := fun {j i} h => by
    have hj : j < L.length := by rw [← hIL]; exact (List.getElem?_eq_some_iff.1 h).1
    obtain ⟨i', h1, h2⟩ := hat j _ (List.getElem?_eq_getElem hj)
    rw [h] at h1
    simp only [Option.some.injEq] at h1
    subst h1
    rw [hI.len]
    exact (List.getElem?_eq_some_iff.1 h2).1
  obtain ⟨rI, hrI⟩ : ∃ rI, I.map (fun i => rho.getD i 0) = rI := ⟨_, rfl⟩
  have hrIl : rI.length = I.length := by rw [← hrI]; simp
  have rget : ∀ {j b : Nat}, rI[j]? = some b → ∃ i, I[j]? = some i ∧ rho[i]? = some b := fun {j b} h => by
    rw [← hrI, List.getElem?_map, Option.map_eq_some_iff] at h
    obtain ⟨i, h1, h2⟩ := h
    refine ⟨i, h1, ?_⟩
    have hlt := hIlt h1
    rw [List.getD_eq_getElem?_getD, List.getElem?_eq_getElem hlt] at h2
    rw [List.getElem?_eq_getElem hlt, ← h2]
    rfl
  have rput : ∀ {j i b : Nat}, I[j]? = some i → rho[i]? = some b → rI[j]? = some b := fun {j i b} h1 h2 => by
    rw [← hrI, List.getElem?_map, h1]
    simp [List.getD_eq_getElem?_getD, h2]
  have mlt : ∀ {j i : Nat}, I[j]? = some i → m j = i := fun h => by rw [← hm]; exact mAt_lt h
  have hun : ∀ i b : Nat, i < L.length → rho[m i]? = some b → rI[i]? = some b := fun i b hi hb => by
    have h1 : I[i]? = some I[i] := List.getElem?_eq_getElem (by omega)
    rw [mlt h1] at hb
    exact rput h1 hb
  have blkObj : ∀ {j b : Nat}, rI[j]? = some b → ∀ ds, w.heap[b]? ≠ some (.deferred ds) := fun {j b} h ds e => by
    obtain ⟨i, h1, h2⟩ := rget h
    have hj : j < L.length := by rw [← hIL]; exact (List.getElem?_eq_some_iff.1 h1).1
    obtain ⟨i', h3, h4⟩ := hat j _ (List.getElem?_eq_getElem hj)
    rw [h1] at h3
    simp only [Option.some.injEq] at h3
    subst h3
    have ht := List.all_eq_true.1 hturn _ (List.getElem_mem hj)
    have hb := hI.locs i _ b h4 h2
    generalize L[j] = k at ht hb
    cases k with
    | cells cs => obtain ⟨_, _, _, h5, _⟩ := hb; rw [e] at h5; cases h5
    | half cs => obtain ⟨_, _, _, h5, _⟩ := hb; rw [e] at h5; cases h5
    | prz n k cs => obtain ⟨_, _, _, h5, _⟩ := hb; rw [e] at h5; cases h5
    | prt n cs => obtain ⟨_, _, _, h5, _⟩ := hb; rw [e] at h5; cases h5
    | mp es => obtain ⟨_, _, h5, _⟩ := hb; rw [e] at h5; cases h5
    | mpz es => obtain ⟨_, _, h5, _⟩ := hb; rw [e] at h5; cases h5
    | mfz es => cases ht
    | frz cs => cases ht
    | dead => cases ht
  -- what is beside it
  obtain ⟨Rs, hRs⟩ : ∃ Rs : Nat → Prop, Rs = fun k => Bc g rho s.live ks k ∧ ∀ j : Nat, rI[j]? ≠ some k := ⟨_, rfl⟩
  have hRsb : ∀ k, Rs k → Bc g rho s.live ks k := fun k h => by rw [hRs] at h; exact h.1
  have rsId : ∀ {id b : Nat}, rho[id]? = some b → id ∉ I → Rs b := fun {id b} h1 h2 => by
    rw [hRs]
    refine ⟨.inl ⟨id, h1⟩, fun j hj => ?_⟩
    obtain ⟨i, h3, h4⟩ := rget hj
    have := hI.dis id i b h1 h4
    subst this
    exact h2 (List.mem_of_getElem? h3)
  have rsMk : ∀ {k : Nat}, k ∈ ks → Rs k := fun {k} hk => by
    rw [hRs]
    exact ⟨.inr (.inr hk), fun j hj => blkObj hj _ (hI.marks k hk).2.2⟩
  have rsTk : ∀ {t b : Nat} {v : Value} {e : TypeId} {sz : Nat}, t ∈ s.live → g.tok t = some (v, e, sz) → rowB v = some b → Rs b := fun {t b v e sz} h1 h2 h3 => by
    rw [hRs]
    refine ⟨.inr (.inl ⟨t, h1, v, e, sz, h2, h3⟩), fun j hj => ?_⟩
    obtain ⟨i, _, h4⟩ := rget hj
    exact (hI.tdis t h1 v e sz b h2 h3).1.1 i h4
  obtain ⟨R1, hR1⟩ : ∃ R1 : Nat → Prop, R1 = fun k => R k ∨ Rs k := ⟨_, rfl⟩
  have hRsR : ∀ k, Rs k → ¬ R k := fun k h => (hI.bc (hRsb k h)).2.2
  obtain ⟨E1, e1, e2, e3⟩ : ∃ E1 : Env P F, E1.n0 = E.n0 ∧ E1.rho0 = rI ∧ E1.Φ = fun R1' ys' g' w' => ∃ R' : Nat → Prop, (∀ k, R1' k ↔ R' k ∨ Rs k) ∧ w.heap.size ≤ w'.heap.size ∧ E.Φ R' ys' g' w' ∧ (∀ k, Rs k → w'.heap[k]? = w.heap[k]? ∧ ∀ o, g'.frz k o = g.frz k o) ∧ ∀ k, Rs k → ¬ R' k := by
    refine ⟨{ n0 := E.n0, g0 := g, rho0 := rI, Φ := fun R1' ys' g' w' => ∃ R' : Nat → Prop, (∀ k, R1' k ↔ R' k ∨ Rs k) ∧ w.heap.size ≤ w'.heap.size ∧ E.Φ R' ys' g' w' ∧ (∀ k, Rs k → w'.heap[k]? = w.heap[k]? ∧ ∀ o, g'.frz k o = g.frz k o) ∧ ∀ k, Rs k → ¬ R' k, stab := ?_, yld := ?_ }, rfl, rfl, rfl⟩
    · rintro R1' O ys' g1 g2 w1 w2 ⟨R', h2, h3, h4, h5, h6⟩ hs
      have hno : ∀ k, O k → ¬ R1' k := fun k hk hr => (hs.own k hk).2 hr
      refine ⟨R', h2, Nat.le_trans h3 hs.size, E.stab R' O ys' g1 g2 w1 w2 h4 ⟨hs.gle, hs.agree, hs.os, hs.tape, hs.output, hs.size, fun k hk => ⟨(hs.own k hk).1, fun hr => hno k hk ((h2 k).2 (.inl hr))⟩, hs.block, hs.frz⟩, fun k hk => ?_, h6⟩
      have hlt : k < w1.heap.size := Nat.lt_of_lt_of_le (hI.bc (hRsb k hk)).2.1 h3
      have hko : ¬ O k := fun ho => hno k ho ((h2 k).2 (.inr hk))
      exact ⟨(hs.block k hlt hko).trans (h5 k hk).1, fun o => (hs.frz k o hlt hko).trans ((h5 k hk).2 o)⟩
    · rintro R1' y l g1 w1 us ⟨R', h2, h3, h4, h5, h6⟩ hA hP hsz
      obtain ⟨fn, tmps, assign, body, hy, hR⟩ := E.yld R' y l g1 w1 us h4 hA hP (fun k hk => hsz k ((h2 k).2 (.inl hk)))
      refine ⟨fn, tmps, assign, body, hy, hR.mono ?_⟩
      rintro e w2 ⟨R2, g2, m1, m2, m3, m4, m5, m6, m7⟩
      have hlt : ∀ k, Rs k → k < w1.heap.size := fun k hk => Nat.lt_of_lt_of_le (hI.bc (hRsb k hk)).2.1 h3
      have fin : ∀ ys', E.Φ R2 ys' g2 w2 → ∃ R' : Nat → Prop, (∀ k, (R2 k ∨ Rs k) ↔ R' k ∨ Rs k) ∧ w.heap.size ≤ w2.heap.size ∧ E.Φ R' ys' g2 w2 ∧ (∀ k, Rs k → w2.heap[k]? = w.heap[k]? ∧ ∀ o, g2.frz k o = g.frz k o) ∧ ∀ k, Rs k → ¬ R' k := fun ys' hΦ => by
        refine ⟨R2, fun k => Iff.rfl, Nat.le_trans h3 m5, hΦ, fun k hk => ?_, fun k hk hr => ?_⟩
        · obtain ⟨q1, q2⟩ := m6 k (hlt k hk) (hI.bc (hRsb k hk)).1 (h6 k hk)
          exact ⟨q1.trans (h5 k hk).1, fun o => (q2 o).trans ((h5 k hk).2 o)⟩
        · rcases m3 k hr with h | h
          · exact h6 k hk h
          · have := hlt k hk; omega
      refine ⟨fun k => R2 k ∨ Rs k, g2, m1, m2, fun k hk => ?_, fun k hk => ?_, m5, fun k k1 k2 k3 => m6 k k1 k2 (fun hr => k3 ((h2 k).2 (.inl hr))), ?_⟩
      · rcases hk with hk | hk
        · exact (m3 k hk).imp (fun h => (h2 k).2 (.inl h)) id
        · exact .inl ((h2 k).2 (.inr hk))
      · rcases hk with hk | hk
        · exact m4 k hk
        · exact Nat.lt_of_lt_of_le (hlt k hk) m5
      · rcases m7 with ⟨rfl, h⟩ | ⟨rfl, h⟩
        · exact .inl ⟨rfl, fin _ h⟩
        · exact .inr ⟨rfl, fin _ h⟩
  have hI1 : Inv E1 g rI R1 [] L [] s.ys w := by
    refine ⟨hI.agree, by rw [e3]; exact ⟨R, fun k => by rw [hR1], Nat.le_refl _, hI.fr, fun k _ => ⟨rfl, fun _ => rfl⟩, hRsR⟩, by rw [e1]; exact hI.low, by rw [hrIl, hIL], fun j k b h1 h2 => ?_, fun j b h1 => ?_, fun j cs b h1 hmn h2 o ho => ?_, fun j j' b h1 h2 => ?_, fun t h => (by cases h), fun t h => (by cases h), List.nodup_nil, fun k hk => ?_, List.nodup_nil, fun k hk => by cases hk⟩
    · obtain ⟨i, h3, h4⟩ := hat j k h1
      obtain ⟨i', h5, h6⟩ := rget h2
      rw [h3] at h5
      simp only [Option.some.injEq] at h5
      subst h5
      exact (hI.locs i _ b h4 h6).unren hun (List.all_eq_true.1 hlo k (List.mem_of_getElem? h1))
    · obtain ⟨i, h3, h4⟩ := rget h1
      obtain ⟨h5, h6, h7⟩ := hI.rlt i b h4
      refine ⟨by rw [e1]; exact h5, h6, fun hr => ?_⟩
      rw [hR1] at hr
      rcases hr with hr | hr
      · exact h7 hr
      · rw [hRs] at hr; exact hr.2 j h1
    · obtain ⟨i, h3, h4⟩ := hat j _ h1
      obtain ⟨i', h5, h6⟩ := rget h2
      rw [h3] at h5
      simp only [Option.some.injEq] at h5
      subst h5
      exact hI.own i _ b h4 (by rw [ABlk.mine_ren]; exact hmn) h6 o (by rw [ABlk.lowN_ren]; exact ho)
    · obtain ⟨i, h3, h4⟩ := rget h1
      obtain ⟨i', h5, h6⟩ := rget h2
      have := hI.dis i i' b h4 h6
      subst this
      exact (List.getElem?_inj (List.getElem?_eq_some_iff.1 h3).1 hn).1 (h3.trans h5.symm)
    · rw [hR1] at hk
      rcases hk with hk | hk
      · exact hI.rsz k hk
      · exact (hI.bc (hRsb k hk)).2.1
  have ha1 : ArgsRel g rI args vs := ha.unren hun hal
  refine CallsIn.mono (F := F) (hC.2 E1 g rI R1 [] w vs hI1 ha1) ?_
  rintro e w' ⟨v, av, g', rho', R', loc', live', ys', rfl, hI2, hle, hpre, hrel, _, hQ⟩
  have hfr := hI2.fr
  rw [e3] at hfr
  obtain ⟨Rf, f1, f2, f3, f4, f5⟩ := hfr
  have hlen2 : rho'.length = loc'.length := hI2.len
  have hLl : L.length ≤ loc'.length := by
    rw [← hlen2]
    rcases Nat.lt_or_ge rho'.length L.length with hh | hh
    · have h1 : rI[rho'.length]? = some (rI[rho'.length]'(by omega)) := List.getElem?_eq_getElem (by omega)
      have := hpre _ _ h1
      rw [List.getElem?_eq_none (Nat.le_refl _)] at this
      cases this
    · exact hh
  have pre' : ∀ {j b : Nat}, j < L.length → rho'[j]? = some b → rI[j]? = some b := fun {j b} hj hb => by
    have h1 : rI[j]? = some (rI[j]'(by omega)) := List.getElem?_eq_getElem (by omega)
    have := hpre _ _ h1
    rw [hb] at this
    rw [h1, this]
  have nR : ∀ {j b : Nat}, rho'[j]? = some b → ¬ Rf b ∧ ¬ Rs b := fun {j b} h => by
    have := (hI2.rlt j b h).2.2
    exact ⟨fun hr => this ((f1 b).2 (.inl hr)), fun hr => this ((f1 b).2 (.inr hr))⟩
  obtain ⟨rN, hrN⟩ : ∃ rN, rho ++ rho'.drop L.length = rN := ⟨_, rfl⟩
  have hrNl : rN.length = rho.length + (rho'.length - L.length) := by rw [← hrN]; simp
  -- the whole's names
  have old : ∀ {id b : Nat}, id < rho.length → (rN[id]? = some b ↔ rho[id]? = some b) := fun {id b} h => by rw [← hrN, List.getElem?_append_left h]
  have new : ∀ {id b : Nat}, rho.length ≤ id → rN[id]? = some b → ∃ j, L.length ≤ j ∧ id = rho.length + (j - L.length) ∧ rho'[j]? = some b := fun {id b} h h1 => by
    rw [← hrN, List.getElem?_append_right h, List.getElem?_drop] at h1
    exact ⟨L.length + (id - rho.length), by omega, by omega, h1⟩
  have hren : ∀ i b : Nat, rho'[i]? = some b → rN[m i]? = some b := fun i b h => by
    rcases Nat.lt_or_ge i L.length with hi | hi
    · have h1 := pre' hi h
      obtain ⟨q, h2, h3⟩ := rget h1
      rw [mlt h2]
      exact (old (hIlt h2)).2 h3
    · have hmi : m i = rho.length + (i - L.length) := by rw [← hm, mAt, if_neg (by omega), hIL, hI.len]
      rw [hmi, ← hrN, List.getElem?_append_right (by omega), List.getElem?_drop]
      rw [← h]; congr 1; omega
  obtain ⟨LN, hLN⟩ : ∃ LN, updL s.loc I loc' = LN := ⟨_, rfl⟩
  have hLNl : LN.length = rN.length := by
    rw [← hLN, hrNl]
    simp only [updL, List.length_append, setAll_length, List.length_map, List.length_drop]
    rw [hI.len, hlen2, hIL]
  have lOld : ∀ {id : Nat}, id < rho.length → LN[id]? = (setAll s.loc I (loc'.map (ABlk.ren m)))[id]? := fun {id} h => by
    rw [← hLN]
    simp only [updL]
    rw [List.getElem?_append_left (by rw [setAll_length, ← hI.len]; exact h), hm]
  have lAt : ∀ {j i : Nat}, I[j]? = some i → LN[i]? = (loc'[j]?).map (ABlk.ren m) := fun {j i} h => by
    have hj : j < loc'.length := by have := (List.getElem?_eq_some_iff.1 h).1; omega
    rw [lOld (hIlt h), setAll_at I _ _ j i (loc'[j].ren m) hn h (by rw [List.getElem?_map, List.getElem?_eq_getElem hj]; rfl) (by rw [← hI.len]; exact hIlt h), List.getElem?_eq_getElem hj]
    rfl
  have lOther : ∀ {id : Nat}, id < rho.length → id ∉ I → LN[id]? = s.loc[id]? := fun {id} h1 h2 => by rw [lOld h1, setAll_other I _ _ id h2]
  have lNew : ∀ {j : Nat}, L.length ≤ j → LN[rho.length + (j - L.length)]? = (loc'[j]?).map (ABlk.ren m) := fun {j} h => by
    rw [← hLN]
    simp only [updL]
    rw [List.getElem?_append_right (by rw [setAll_length, ← hI.len]; omega), setAll_length, List.getElem?_map, List.getElem?_drop, hm]
    rw [← hI.len]
    congr 2
    omega
  -- each name of the whole: one of the part's, or beside it
  have cs : ∀ {id b : Nat}, rN[id]? = some b → (∃ j, rho'[j]? = some b ∧ LN[id]? = (loc'[j]?).map (ABlk.ren m) ∧ m j = id) ∨ (id < rho.length ∧ rho[id]? = some b ∧ id ∉ I ∧ LN[id]? = s.loc[id]? ∧ Rs b) := fun {id b} h => by
    rcases Nat.lt_or_ge id rho.length with hid | hid
    · have h1 := (old hid).1 h
      by_cases hm' : id ∈ I
      · obtain ⟨j, hj⟩ := List.mem_iff_getElem?.1 hm'
        exact .inl ⟨j, hpre _ _ (rput hj h1), lAt hj, mlt hj⟩
      · exact .inr ⟨hid, h1, hm', lOther hid hm', rsId h1 hm'⟩
    · obtain ⟨j, h1, rfl, h2⟩ := new hid h
      refine .inl ⟨j, h2, lNew h1, ?_⟩
      rw [← hm, mAt, if_neg (by omega), hIL, hI.len]
  have tok : ∀ t ∈ s.live, g'.tok t = g.tok t := fun t ht => by
    obtain ⟨v, e, sz, h1, _⟩ := hI.toks t ht
    rw [h1]; exact hle.tok _ _ h1
  have hI3 : Inv E g' rN Rf ks LN s.live ys' w' := by
    refine ⟨hI2.agree, f3, Nat.le_trans hI.low f2, hLNl.symm, fun id k b h1 h2 => ?_, fun id b h1 => ?_, fun id c b h1 hmn h2 o ho => ?_, fun id id' b h1 h2 => ?_, fun t ht => ?_, fun t ht v e sz b h1 h2 => ?_, hI.nodup, fun k hk => hI2.rsz k ((f1 k).2 (.inl hk)), hI.ksnd, fun k hk => ?_⟩
    · rcases cs h2 with ⟨j, h3, h4, _⟩ | ⟨h3, h4, h5, h6, h7⟩
      · rw [h4, Option.map_eq_some_iff] at h1
        obtain ⟨k', h5, rfl⟩ := h1
        exact (hI2.locs j k' b h5 h3).ren hren
      · rw [h6] at h1
        exact (hI.locs id k b h1 h4).keep hle (fun i b hi => by rw [← hrN, List.getElem?_append_left (List.getElem?_eq_some_iff.1 hi).1]; exact hi) (fun _ => (f4 b h7).1)
    · rcases cs h1 with ⟨j, h3, _, _⟩ | ⟨_, h4, _, _, h8⟩
      · obtain ⟨h5, h6, _⟩ := hI2.rlt j b h3
        exact ⟨by rw [← e1]; exact h5, h6, (nR h3).1⟩
      · obtain ⟨h5, h6, h7⟩ := hI.rlt id b h4
        exact ⟨h5, Nat.lt_of_lt_of_le h6 f2, f5 b h8⟩
    · rcases cs h2 with ⟨j, h3, h4, _⟩ | ⟨h3, h4, h5, h6, h7⟩
      · rw [h4, Option.map_eq_some_iff] at h1
        obtain ⟨k', h5, h6⟩ := h1
        subst h6
        rw [ABlk.mine_ren] at hmn
        rw [ABlk.lowN_ren] at ho
        exact hI2.own j k' b h5 hmn h3 o ho
      · rw [h6] at h1
        exact ((f4 b h7).2 o).trans (hI.own id c b h1 hmn h4 o ho)
    · rcases cs h1 with ⟨j, h3, _, h8⟩ | ⟨_, h4, _, _, h7⟩
      · rcases cs h2 with ⟨j', h3', _, h8'⟩ | ⟨_, _, _, _, h7'⟩
        · have := hI2.dis j j' b h3 h3'
          subst this
          exact h8.symm.trans h8'
        · exact absurd h7' (nR h3).2
      · rcases cs h2 with ⟨j', h3', _, _⟩ | ⟨_, h4', _, _, _⟩
        · exact absurd h7 (nR h3').2
        · exact hI.dis id id' b h4 h4'
    · obtain ⟨v, e, sz, h1, h2⟩ := hI.toks t ht
      refine ⟨v, e, sz, hle.tok _ _ h1, fun b hb => ?_⟩
      obtain ⟨n, xs, h3, h4⟩ := h2 b hb
      have hr := rsTk ht h1 hb
      exact ⟨n, xs, ownsRow_keep h3 (fun b' hb' => by rw [rowB_own hb h3] at hb'; simp only [Option.some.injEq] at hb'; subst hb'; exact (f4 b hr).1), fun o ho => ((f4 b hr).2 o).trans (h4 o ho)⟩
    · rw [tok t ht] at h1
      obtain ⟨⟨h3, h4⟩, h5⟩ := hI.tdis t ht v e sz b h1 h2
      have hr := rsTk ht h1 h2
      refine ⟨⟨fun id hid => ?_, f5 b hr⟩, fun t' ht' v' e' sz' h11 h12 => by rw [tok t' ht'] at h11; exact h5 t' ht' v' e' sz' h11 h12⟩
      rcases cs hid with ⟨j, h6, _, _⟩ | ⟨_, h6, _, _, _⟩
      · exact (nR h6).2 hr
      · exact h3 id h6
    · obtain ⟨h1, h2, h3⟩ := hI.marks k hk
      exact ⟨h1, f5 k (rsMk hk), ((f4 k (rsMk hk)).1).trans h3⟩
  refine ⟨v, av.ren m, g', rN, Rf, LN, s.live, ys', rfl, hI3, hle, fun i b hi => by rw [← hrN, List.getElem?_append_left (List.getElem?_eq_some_iff.1 hi).1]; exact hi, hrel.ren hren, fun id hid b hb => (f4 b (rsId hb (hrd id hid))).1, ?_⟩
  have := hK av loc' ys' hQ hLl
  rw [hLN] at this
  exact this
end
theorem call_pure2 {P : Program} {C : Con} (hC : ∀ f args rd K s, SemP P Fence.wide f args rd K s → C.call f args rd K s) {f : FuncId} {args : List AV} {l l2 : List PV} {rd : List Nat} {Q : PV → Prop} {K : AV → AS → Prop} {s : AS} (h : SemC P f l2 Q) (hp : pures args = some l) (hle : PVleL l l2) (hK : ∀ r, Q r → K (.p r) s) : C.call f args rd K s := by
  rw [pures_map hp]
  exact call_pure hC h hle hK
theorem iadr_map {α : Type} {f : α → List PV} {l : List α} {kd : SK} {sz k : Nat} (h : k < l.length) : iadrS' sz (.p (.sl kd sz (l.map f))) (.p (pi k)) = some (.p (.ptr (f l[k]) 0)) := iadrS_sl (by omega) (by simp [h])
theorem loop_nat {C : Con} {ac : AC} {Q : AEx → AS → Prop} {s : AS} (n : Nat) (I : Nat → Prop) (st : Nat → AS) (h0 : I 0) (hw : Wk s (st 0))
    (hr : ∀ (k : Nat) (h : k ≤ n ∧ I k), exec C ac (roundQ (ι := {k : Nat // k ≤ n ∧ I k}) (fun k => st k.1) (fun k => n - k.1) ⟨k, h⟩ Q) (st k)) : exec C (.loop ac) Q s :=
  ⟨{k : Nat // k ≤ n ∧ I k}, fun k => st k.1, fun k => n - k.1, ⟨0, Nat.zero_le _, h0⟩, hw, fun ⟨k, h⟩ => hr k h⟩
theorem round_next {n : Nat} {I : Nat → Prop} {st : Nat → AS} {k : Nat} {h : k ≤ n ∧ I k} {s : AS} (h1 : k < n) (h2 : I (k + 1)) (h3 : Wk s (st (k + 1))) :
    ∃ j : {k : Nat // k ≤ n ∧ I k}, n - j.1 < n - (⟨k, h⟩ : {k : Nat // k ≤ n ∧ I k}).1 ∧ Wk s (st j.1) := ⟨⟨k + 1, h1, h2⟩, by simp only; omega, h3⟩
theorem PVle.ptr {l r : List PV} (h : PVleL l r) (o : Nat) : PVle (.ptr l o) (.ptr r o) := fun g v hv => by
  obtain ⟨h1, h2⟩ := h.spec
  cases hv with
  | ptr _ _ b q f hat hh =>
    exact .ptr _ _ b q f (fun j hj => hat j (by omega)) (fun j x hx => by
      have hj : j < l.length := by rw [h1]; exact (List.getElem?_eq_some_iff.1 hx).1
      exact h2 j _ x (List.getElem?_eq_getElem hj) hx g _ (hh j _ (List.getElem?_eq_getElem hj)))
theorem retQ_pur {P : Program} {t : Nat} {R : PV → Prop} {s : AS} {v : AV} {x y : PV} {L' : List ABlk} (h : look s.t t = v) (hp : pur 100 s.loc v = some (x, L')) (hle : PVle x y) (hR : R y) : retQ P [.tmp t] R s :=
  ⟨[v], [x], L', y, by simp [resA, h], by simp [purArgs, purArgs.purV, hp], hle, hR⟩
def retMQ (P : Program) (rs : List ResultVar) (Q : AV → List ABlk → Option (List (List PV)) → Prop) (s : AS) : Prop := ∃ avs v, resA P s rs = some avs ∧ tupA avs = some v ∧ Q v s.loc s.ys
def retM (P : Program) (rs : List ResultVar) (Q : AV → List ABlk → Option (List (List PV)) → Prop) : AEx → AS → Prop
  | .normal, s => retMQ P rs Q s
  | .ret, s => retMQ P rs Q s
  | .exit _, _ => False
theorem retM_normal {P : Program} {rs : List ResultVar} {Q : AV → List ABlk → Option (List (List PV)) → Prop} {s : AS} : retM P rs Q .normal s = retMQ P rs Q s := rfl
theorem retM_ret {P : Program} {rs : List ResultVar} {Q : AV → List ABlk → Option (List (List PV)) → Prop} {s : AS} : retM P rs Q .ret s = retMQ P rs Q s := rfl
theorem retMQ_one {P : Program} {t : Nat} {Q : AV → List ABlk → Option (List (List PV)) → Prop} {s : AS} {v : AV} (h : look s.t t = v) (hQ : Q v s.loc s.ys) : retMQ P [.tmp t] Q s := ⟨[v], v, by simp [resA, h], rfl, hQ⟩
theorem semM_of_exec' {P : Program} {f : FuncId} {fn : Func} {ac : AC} {mu : Nat → Bool} {args : List AV} {L : List ABlk} {ys : Option (List (List PV))} {Q : AV → List ABlk → Option (List (List PV)) → Prop} (hm : P.follows .mixedOrders = true) (hf : P.funcs[f]? = some fn) (hn : (fn.name == "runtime.NumGoroutine") = false) (hb : fn.body = some (fn.body.getD .skip))
    (hc : cCode P mu fn.ntmps (fn.body.getD .skip) = some ac) (n : Nat) (hnl : args.length = n) (hnt : n ≤ fn.ntmps) (rs : List ResultVar) (hrs : fn.results.toList = rs)
    (h : ∀ C : Con, (∀ f args rd K s, SemP P Fence.wide f args rd K s → C.call f args rd K s) → (∀ f args xs, IterC P Fence.wide f args xs → C.it f args xs) → exec C ac (retM P rs Q) ⟨entryT args 0, L, [], ys, L.length⟩) : SemM P Fence.wide f args L ys Q := by
  refine semP_of_exec open_wide rfl hm hf hn hb hc (by rw [hnl]; exact hnt) ?_
  rw [hrs]
  have := h (SemK P Fence.wide) (fun _ _ _ _ _ h => h) (fun _ _ _ h => h)
  have e : (retM P rs Q) = retG P rs (fun v s' => Q v s'.loc s'.ys) := by
    funext x s; cases x <;> rfl
  rw [e] at this
  exact this
theorem call_mem2 {P : Program} {C : Con} (hC : ∀ f args rd K s, SemP P Fence.wide f args rd K s → C.call f args rd K s) {f : FuncId} {args args' : List AV} {L : List ABlk} {Q : AV → List ABlk → Option (List (List PV)) → Prop} {K : AV → AS → Prop} {s : AS} {rd : List Nat} (I : List Nat)
    (h : SemM P Fence.wide f args L s.ys Q) (ha : args.map (AV.ren (mAt I s.loc.length)) = args') (hn : I.Nodup) (hL : L.map (fun k => some (k.ren (mAt I s.loc.length))) = I.map (fun i => s.loc[i]?))
    (hturn : (L.all ABlk.turns) = true) (hlo : (L.all (ABlk.lo L.length)) = true) (hal : AV.lo.loL L.length args = true) (hrd : ∀ id ∈ rd, id ∉ I)
    (hK : ∀ (r : AV) (L' : List ABlk) (ys' : Option (List (List PV))), Q r L' ys' → L.length ≤ L'.length → K (r.ren (mAt I s.loc.length)) { s with loc := updL s.loc I L', ys := ys' }) : C.call f args' rd K s := by
  subst ha
  have hl : I.length = L.length := by have := congrArg List.length hL; simpa using this.symm
  refine hC _ _ _ _ _ (call_mem h hn hl (fun j k hj => ?_) hturn hlo hal hrd hK)
  have hj2 : j < I.length := by rw [hl]; exact (List.getElem?_eq_some_iff.1 hj).1
  refine ⟨I[j], List.getElem?_eq_getElem hj2, ?_⟩
  have := congrArg (fun l => l[j]?) hL
  simp only [List.getElem?_map, hj, List.getElem?_eq_getElem hj2, Option.map_some, Option.some.injEq] at this
  exact this.symm
theorem mAt_zero {i n : Nat} {I : List Nat} : mAt (i :: I) n 0 = i := rfl
theorem mAt_succ {i n j : Nat} {I : List Nat} : mAt (i :: I) n (j + 1) = mAt I n j := by
  unfold mAt
  simp only [List.length_cons, Nat.add_lt_add_iff_right, List.getD_cons_succ, Nat.add_sub_add_right]
theorem setAll_nil {loc ks : List ABlk} : setAll loc [] ks = loc := by cases ks <;> simp [setAll]
theorem upd1 {x0 a : ABlk} {M X : List ABlk} : updL (x0 :: M) [0] (a :: X) = a.ren (mAt [0] (M.length + 1)) :: (M ++ X.map (ABlk.ren (mAt [0] (M.length + 1)))) := by simp [updL, setAll, setAll_nil]
theorem upd2 {x0 x1 a b : ABlk} {M X : List ABlk} : updL (x0 :: x1 :: M) [0, 1] (a :: b :: X) = a.ren (mAt [0, 1] (M.length + 1 + 1)) :: b.ren (mAt [0, 1] (M.length + 1 + 1)) :: (M ++ X.map (ABlk.ren (mAt [0, 1] (M.length + 1 + 1)))) := by simp [updL, setAll, setAll_nil]
theorem upd3 {x0 x1 x2 a b c : ABlk} {M X : List ABlk} : updL (x0 :: x1 :: x2 :: M) [0, 1, 2] (a :: b :: c :: X) = a.ren (mAt [0, 1, 2] (M.length + 1 + 1 + 1)) :: b.ren (mAt [0, 1, 2] (M.length + 1 + 1 + 1)) :: c.ren (mAt [0, 1, 2] (M.length + 1 + 1 + 1)) :: (M ++ X.map (ABlk.ren (mAt [0, 1, 2] (M.length + 1 + 1 + 1)))) := by simp [updL, setAll, setAll_nil]
theorem renB_cells {m : Nat → Nat} {cs : List AV} : ABlk.ren m (.cells cs) = .cells (cs.map (AV.ren m)) := rfl
theorem renB_prt {m : Nat → Nat} {n : Nat} {cs : List AV} : ABlk.ren m (.prt n cs) = .prt n (cs.map (AV.ren m)) := rfl
theorem renB_half {m : Nat → Nat} {cs : List AV} : ABlk.ren m (.half cs) = .half (cs.map (AV.ren m)) := rfl
theorem renB_mp {m : Nat → Nat} {es : List (PV × PV)} : ABlk.ren m (.mp es) = .mp es := rfl
theorem renB_frz {m : Nat → Nat} {es : List PV} : ABlk.ren m (.frz es) = .frz es := rfl
theorem ren_p {m : Nat → Nat} {x : PV} : AV.ren m (.p x) = .p x := rfl
theorem ren_loc {m : Nat → Nat} {id o : Nat} : AV.ren m (.loc id o) = .loc (m id) o := rfl
theorem ren_mpl {m : Nat → Nat} {id : Nat} : AV.ren m (.mpl id) = .mpl (m id) := rfl
theorem ren_clo {m : Nat → Nat} {f : FuncId} {fi cap : List AV} : AV.ren m (.clo f fi cap) = .clo f (fi.map (AV.ren m)) (cap.map (AV.ren m)) := by simp [AV.ren, renL_map]
theorem ren_agg {m : Nat → Nat} {cs : List AV} : AV.ren m (.agg cs) = .agg (cs.map (AV.ren m)) := by simp [AV.ren, renL_map]
theorem ren_tup {m : Nat → Nat} {cs : List AV} : AV.ren m (.tup cs) = .tup (cs.map (AV.ren m)) := by simp [AV.ren, renL_map]
theorem putK_eq {C : Con} {l : List AOp} {Q : AEx → AS → Prop} {rd : List Nat} {d : Option Nat} {v : AV} {s : AS} : putK C l Q rd d v s = contOps C l Q rd (s.put d v) := rfl
theorem cells_yld : cellsA 1 (.p .yld) = some [.p .yld] := rfl
theorem cells_nilp : cellsA 1 (.p .nilp) = some [.p .nilp] := rfl
theorem newK_nilp {C : Con} {rd : List Nat} {d : Option Nat} {l : List AOp} {Q : AEx → AS → Prop} {s : AS} : newK .nilp C rd d l Q s = contOps C l Q rd ((mkOwn s [.p .nilp]).put d (.loc s.loc.length 0)) := rfl
theorem noYR_map {α : Type} {f : α → List PV} (h : ∀ x, noY.noYL (f x) = true) : ∀ l : List α, noY.noYR (l.map f) = true
  | [] => rfl
  | x :: l => by simp [noY.noYR, h x, noYR_map h l]
theorem noYL_map {α : Type} {f : α → PV} (h : ∀ x, noY (f x) = true) : ∀ l : List α, noY.noYL (l.map f) = true
  | [] => rfl
  | x :: l => by simp [noY.noYL, h x, noYL_map h l]
theorem mAt_nil {n j : Nat} : mAt [] n j = n + j := by simp [mAt]
end Go.Proofs.YtlbolnlcncjijaaGreat
namespace Go.Proofs.YtlbolnlcncjijaaGreat
open Go.RowKit Go.Shelf
attribute [go_sem] exec_skip exec_ops exec_seq exec_cond exec_block exec_exit exec_ret thenQ_normal thenQ_ret thenQ_exit blockQ_normal blockQ_ret blockQ_exit roundQ_ret roundQ_exit roundQ_normal guardK_tt guardK_ff
attribute [go_sem] guardK_tf guardK_ft guardK_und guardK_dec guardK_decf condK_true condK_false condK_dec contOps_nil contOps_guard co_mv co_pick co_build co_fld co_fadr co_iadrS co_iadrA co_idx co_bin co_eqs co_un
attribute [go_sem] co_conv co_ext co_len co_mx co_slc co_mkf co_nilc co_box co_new co_bslice co_st co_app co_mks co_call co_callv co_ld rdL_p rdL_loc rdB_cells rdB_frz effK_box boxK_some cells_val cells_sl cells_ptr
attribute [go_sem] cells_loc cells_sli cells_clo effK_new newK_agg newK_map newK_val newK_sl effK_call putK_ap evs_nil evs_cons effK_st stK_loc stB_cells elimK_some put_mk put_none know_t know_c ev_t ev_c look_cons mkOwn_mk loc_mk
attribute [go_sem] live_mk t_mk still_mv' still_bin' still_pick' pickS_true pickS_false still_len' lenS_sl lenS_sli still_iadrS' still_ld' ldS_ptr ldS_loc ldB_cells ldB_frz partP_none partA_none still_fld' fldS_agg
attribute [go_sem] fldS_aggA still_fadr' fadrS_ptr fadrS_loc still_ext' extS_tup extS_tupA still_un' unS_neg unS_nott unS_notf unS_notd still_conv' convS_int bin_add bin_sub bin_mul bin_eql bin_neq bin_lss bin_leq bin_gtr
attribute [go_sem] bin_geq binb_eql binb_neq entryT still_build' fillA_nil fillA_cons fillK_some putCells_eq mkAgg_eq mkAggK_some mkAggK_none pures_nil pures_p pures_loc pures_agg pures_sli pures_mapP cells_agg'
attribute [go_sem] cells_aggA' partP_some' partA_some' effK_bslice bslK_own bslK_pure bslP_some repl_zero repl_succ rows_zero rows_succ effK_app appK_sl appK_own canApp_full canApp_own liveApp_full liveApp_own effK_mks
attribute [go_sem] mksK_pure mksK_own int_val still_mx' mxS_int mxV_nil mxV_cons mxK_int ys_mk base_mk cells_cloP effK_callv' cvK_fn cvK_clo cvK_cloP cvK_yld ydK_some purA_eq purV_nil purV_p purVK_some asQ_normal
attribute [go_sem] rndO_normal rndO_ret rndO_exit rndX_normal rndX_ret rndX_exit setPs_cons setPs_nil mkClo_eq mkCloK_some mkCloK_none1 mkCloK_none2 still_mkf' co_nilS nsK_sl elimG_some exec_tree exec_stop execT_fin execT_op
attribute [go_sem] execT_fk execT_alt gs_ld gs_guard gsG_tt gsG_ff gsG_tf gsG_ft gsG_und gsG_dec gsG_decf gs_call gs_box boxG_some gs_mv gs_pick gs_build gs_fld gs_fadr gs_iadrS gs_iadrA gs_idx gs_bin gs_eqs gs_un gs_conv gs_ext
attribute [go_sem] gs_len gs_mx gs_slc gs_mkf gs_nilc still_eqs' eqS_eq eqS_ne eqCs_nil eqCs_i eqCs_b dec_and dec_tt dec_not ldB_half rdB_half ldB_prt rdB_prt stB_prt cells_mpl pures_mpl lkL_mpl still_lkp' lkS_mpl lkB_mp lkS_mpf lkB_mfz lkL_p cells_mpf co_slcA slaK_some
attribute [go_sem] optI_none optI_some pur_p cloOf_clo co_lkp co_mkm co_mup mupK_mpl mupB_mp gs_lkp gs_mkm retC_ret retC_normal still_nilc' nilcS_ptr nilcS_loc nilcS_fn still_iadrA' still_idx' retM_normal retM_ret
attribute [go_sem] mAt_zero mAt_succ upd1 upd2 upd3 renB_cells renB_half renB_prt renB_mp renB_frz ren_p ren_loc ren_mpl ren_clo ren_agg ren_tup putK_eq cells_yld cells_nilp newK_nilp still_slc' optJ_none optJ_some Option.map_none
attribute [go_sem] Classical.not_not List.nil_append cond_true cond_false Bool.not_true Bool.not_false Option.map_some List.getElem?_cons_zero List.getElem?_cons_succ List.map_cons List.map_nil Nat.zero_add
attribute [go_sem] List.length_cons List.length_nil List.cons_append List.append_nil List.take_succ_cons List.take_zero List.take_nil List.drop_succ_cons List.drop_zero List.drop_nil List.set_cons_zero List.set_cons_succ
attribute [go_sem] true_or or_true true_and and_true List.mem_cons List.not_mem_nil or_false false_or not_false_eq_true or_self ite_true ite_false Nat.le_refl ne_eq not_true_eq_false Int.toNat_zero List.replicate_zero
attribute [go_sem] List.erase_cons_head List.mem_singleton
end Go.Proofs.YtlbolnlcncjijaaGreat
namespace Go.Proofs.YtlbolnlcncjijaaGreat
open Go.RowKit Go.Shelf
def keepS (t : List (Nat × AV)) : List Nat → List (Nat × AV)
  | [] => []
  | i :: l => (i, look t i) :: keepS t l
theorem keepS_nil {t : List (Nat × AV)} : keepS t [] = [] := rfl
theorem keepS_cons {t : List (Nat × AV)} {i : Nat} {l : List Nat} : keepS t (i :: l) = (i, look t i) :: keepS t l := rfl
def upS (s : AS) (ks : List Nat) (f : List (Nat × AV)) (L : List ABlk) (lv : List Nat) : AS := ⟨f ++ keepS s.t ks, L, lv, s.ys, s.base⟩
theorem upS_eq {t f : List (Nat × AV)} {loc L : List ABlk} {live lv : List Nat} {ys : Option (List (List PV))} {base : Nat} {ks : List Nat} : upS ⟨t, loc, live, ys, base⟩ ks f L lv = ⟨f ++ keepS t ks, L, lv, ys, base⟩ := rfl
theorem wkT_app {t : List (Nat × AV)} {n : Nat} : ∀ {a b : List (Nat × AV)}, wkT t n a → wkT t n b → wkT t n (a ++ b)
  | [], _, _, h => h
  | (_, _) :: _, _, h, k => ⟨h.1, wkT_app h.2 k⟩
def loAll (t : List (Nat × AV)) (n : Nat) : List Nat → Bool
  | [] => true
  | i :: l => (look t i).lo n && loAll t n l
theorem wkT_keep {t : List (Nat × AV)} {n : Nat} : ∀ {ks : List Nat}, loAll t n ks = true → wkT t n (keepS t ks)
  | [], _ => trivial
  | i :: l, h => by
    simp only [loAll, Bool.and_eq_true] at h
    exact ⟨⟨rfl, h.1⟩, wkT_keep h.2⟩
def loBlk (n : Nat) : List ABlk → Bool
  | [] => true
  | .cells cs :: l => AV.lo.loL n cs && loBlk n l
  | .half cs :: l => AV.lo.loL n cs && loBlk n l
  | .prz _ _ cs :: l => AV.lo.loL n cs && loBlk n l
  | .prt _ cs :: l => AV.lo.loL n cs && loBlk n l
  | _ :: l => loBlk n l
theorem wkL_same {n : Nat} : ∀ {L : List ABlk}, loBlk n L = true → wkL n L L
  | [], _ => trivial
  | b :: L, h => by
    cases b <;> simp only [loBlk, Bool.and_eq_true] at h
    case cells => exact ⟨.inr (.inr ⟨rfl, h.1⟩), wkL_same h.2⟩
    case half => exact ⟨.inr (.inr ⟨rfl, h.1⟩), wkL_same h.2⟩
    case prz => exact ⟨.inr (.inr ⟨rfl, h.1⟩), wkL_same h.2⟩
    case prt => exact ⟨.inr (.inr ⟨rfl, h.1⟩), wkL_same h.2⟩
    all_goals exact ⟨.inr (.inr ⟨rfl, trivial⟩), wkL_same h⟩
theorem wk_up {s : AS} {ks : List Nat} {f : List (Nat × AV)} {L : List ABlk} {lv : List Nat} (hk : loAll s.t L.length ks = true) (hf : wkT s.t L.length f) (hL : wkL L.length s.loc L) (hlv : (∀ t, t ∈ lv → t ∈ s.live) ∧ lv.Nodup) (hb : s.base ≤ L.length) : Wk s (upS s ks f L lv) :=
  ⟨wkT_app hf (wkT_keep hk), hL, hlv.1, hlv.2, rfl, rfl, hb⟩
theorem loop_g {α : Type} {C : Con} {ac : AC} {Q : AEx → AS → Prop} {s : AS} (P : α → Prop) (μ : α → Nat) (ks : List Nat) (f : α → List (Nat × AV)) (L : α → List ABlk) (lv : α → List Nat) (a0 : α) (h0 : P a0) (hw : Wk s (upS s ks (f a0) (L a0) (lv a0)))
    (hr : ∀ (a : α) (h : P a), exec C ac (roundQ (ι := {a : α // P a}) (fun a => upS s ks (f a.1) (L a.1) (lv a.1)) (fun a => μ a.1) ⟨a, h⟩ Q) (upS s ks (f a) (L a) (lv a))) : exec C (.loop ac) Q s :=
  ⟨{a : α // P a}, fun a => upS s ks (f a.1) (L a.1) (lv a.1), fun a => μ a.1, ⟨a0, h0⟩, hw, fun ⟨a, h⟩ => hr a h⟩
theorem loop_k {C : Con} {ac : AC} {Q : AEx → AS → Prop} {s : AS} (n : Nat) (I : Nat → Prop) (ks : List Nat) (f : Nat → List (Nat × AV)) (h0 : I 0) (hk : loAll s.t s.loc.length ks = true) (hb : loBlk s.loc.length s.loc = true ∧ s.live.Nodup ∧ s.base ≤ s.loc.length) (hf : wkT s.t s.loc.length (f 0))
    (hr : ∀ (k : Nat) (h : k ≤ n ∧ I k), exec C ac (roundQ (ι := {k : Nat // k ≤ n ∧ I k}) (fun k => upS s ks (f k.1) s.loc s.live) (fun k => n - k.1) ⟨k, h⟩ Q) (upS s ks (f k) s.loc s.live)) : exec C (.loop ac) Q s :=
  loop_nat n I (fun k => upS s ks (f k) s.loc s.live) h0 (wk_up hk hf (wkL_same hb.1) ⟨fun _ h => h, hb.2.1⟩ hb.2.2) hr
theorem loop_kl {C : Con} {ac : AC} {Q : AEx → AS → Prop} {s : AS} (n : Nat) (I : Nat → Prop) (ks : List Nat) (f : Nat → List (Nat × AV)) (L : Nat → List ABlk) (h0 : I 0) (hw : Wk s (upS s ks (f 0) (L 0) s.live))
    (hr : ∀ (k : Nat) (h : k ≤ n ∧ I k), exec C ac (roundQ (ι := {k : Nat // k ≤ n ∧ I k}) (fun k => upS s ks (f k.1) (L k.1) s.live) (fun k => n - k.1) ⟨k, h⟩ Q) (upS s ks (f k) (L k) s.live)) : exec C (.loop ac) Q s :=
  loop_nat n I (fun k => upS s ks (f k) (L k) s.live) h0 hw hr
theorem round_k {n : Nat} {I : Nat → Prop} {st : Nat → AS} {k : Nat} {h : k ≤ n ∧ I k} {s : AS} (h1 : k < n) (h2 : I (k + 1)) (h3 : Wk s (st (k + 1))) :
    ∃ j : {k : Nat // k ≤ n ∧ I k}, n - j.1 < n - (⟨k, h⟩ : {k : Nat // k ≤ n ∧ I k}).1 ∧ Wk s (st j.1) := ⟨⟨k + 1, h1, h2⟩, by simp only; omega, h3⟩
theorem iadr2_0 {id : Nat} : iadrAS 1 2 (.loc id 0) (.p (.val (.int .i64 0))) = some (.loc id 0) := rfl
theorem iadr2_1 {id : Nat} : iadrAS 1 2 (.loc id 0) (.p (.val (.int .i64 1))) = some (.loc id 1) := rfl
theorem iadr3_0 {id : Nat} : iadrAS 1 3 (.loc id 0) (.p (.val (.int .i64 0))) = some (.loc id 0) := rfl
theorem iadr3_1 {id : Nat} : iadrAS 1 3 (.loc id 0) (.p (.val (.int .i64 1))) = some (.loc id 1) := rfl
theorem iadr3_2 {id : Nat} : iadrAS 1 3 (.loc id 0) (.p (.val (.int .i64 2))) = some (.loc id 2) := rfl
theorem iadr4_0 {id : Nat} : iadrAS 1 4 (.loc id 0) (.p (.val (.int .i64 0))) = some (.loc id 0) := rfl
theorem iadr4_1 {id : Nat} : iadrAS 1 4 (.loc id 0) (.p (.val (.int .i64 1))) = some (.loc id 1) := rfl
theorem iadr4_2 {id : Nat} : iadrAS 1 4 (.loc id 0) (.p (.val (.int .i64 2))) = some (.loc id 2) := rfl
theorem iadr4_3 {id : Nat} : iadrAS 1 4 (.loc id 0) (.p (.val (.int .i64 3))) = some (.loc id 3) := rfl
theorem loop_y {α : Type} {C : Con} {ac : AC} {Q : AEx → AS → Prop} {s : AS} (P : α → Prop) (μ : α → Nat) (ks : List Nat) (f : α → List (Nat × AV)) (L : α → List ABlk) (lv : α → List Nat) (Y : α → Option (List (List PV))) (a0 : α) (h0 : P a0) (hw : Wk s ⟨f a0 ++ keepS s.t ks, L a0, lv a0, Y a0, s.base⟩)
    (hr : ∀ (a : α) (h : P a), exec C ac (roundQ (ι := {a : α // P a}) (fun a => ⟨f a.1 ++ keepS s.t ks, L a.1, lv a.1, Y a.1, s.base⟩) (fun a => μ a.1) ⟨a, h⟩ Q) ⟨f a ++ keepS s.t ks, L a, lv a, Y a, s.base⟩) : exec C (.loop ac) Q s :=
  ⟨{a : α // P a}, fun a => ⟨f a.1 ++ keepS s.t ks, L a.1, lv a.1, Y a.1, s.base⟩, fun a => μ a.1, ⟨a0, h0⟩, hw, fun ⟨a, h⟩ => hr a h⟩
theorem loop_ky {C : Con} {ac : AC} {Q : AEx → AS → Prop} {s : AS} (n : Nat) (I : Nat → Prop) (ks : List Nat) (f : Nat → List (Nat × AV)) (L : Nat → List ABlk) (Y : Nat → Option (List (List PV))) (h0 : I 0) (hw : Wk s ⟨f 0 ++ keepS s.t ks, L 0, s.live, Y 0, s.base⟩)
    (hr : ∀ (k : Nat) (h : k ≤ n ∧ I k), exec C ac (roundQ (ι := {k : Nat // k ≤ n ∧ I k}) (fun k => ⟨f k.1 ++ keepS s.t ks, L k.1, s.live, Y k.1, s.base⟩) (fun k => n - k.1) ⟨k, h⟩ Q) ⟨f k ++ keepS s.t ks, L k, s.live, Y k, s.base⟩) : exec C (.loop ac) Q s :=
  loop_nat n I (fun k => ⟨f k ++ keepS s.t ks, L k, s.live, Y k, s.base⟩) h0 hw hr
theorem call_purA {P : Program} {C : Con} (hC : ∀ f args rd K s, SemP P Fence.wide f args rd K s → C.call f args rd K s) {f : FuncId} {args : List AV} {l l2 : List PV} {L' : List ABlk} {rd : List Nat} {Q : PV → Prop} {K : AV → AS → Prop} {s : AS} (h : SemC P f l2 Q) (hp : purArgs s args = some (l, L')) (hle : PVleL l l2) (hK : ∀ r, Q r → K (.p r) { s with loc := L' }) : C.call f args rd K s :=
  hC _ _ _ _ _ (sem_pure open_wide h hp hle hK)
theorem loL_pc {α : Type} {n : Nat} {f : α → PV} : ∀ (l : List α), AV.lo.loL n (l.map (AV.p ∘ f)) = true
  | [] => rfl
  | x :: l => by simp only [List.map_cons, AV.lo.loL, Function.comp, AV.lo, Bool.true_and]; exact loL_pc l
theorem mseek_map {α : Type} {key val : α → PV} {ks : List CK} {ag : Bool} {k : PV} {p : α → Bool} : ∀ (L : List α) (i : Nat), (∀ a ∈ L, keyEq ks ag k (key a) = some (p a)) → ∃ r, mseek ks ag k (L.map fun a => (key a, val a)) i = some r ∧ r.map (·.2) = (L.find? p).map val
  | [], i, _ => ⟨none, rfl, rfl⟩
  | a :: L, i, h => by
    have h1 := h a (List.mem_cons_self ..)
    simp only [List.map_cons, mseek, h1, List.find?_cons]
    cases hp : p a
    · exact mseek_map L (i + 1) fun x hx => h x (List.mem_cons_of_mem _ hx)
    · exact ⟨_, rfl, rfl⟩
theorem lkpV_map {α : Type} {key val : α → PV} {ks : List CK} {ag ok : Bool} {z k : PV} {p : α → Bool} {L : List α} (hk : (keyEq ks ag k k).isSome = true) (h : ∀ a ∈ L, keyEq ks ag k (key a) = some (p a)) :
    lkpV ks ag z ok (L.map fun a => (key a, val a)) k = some (if ok then .tup [((L.find? p).map val).getD z, .val (.bool (L.find? p).isSome)] else ((L.find? p).map val).getD z) := by
  obtain ⟨r, h1, h2⟩ := mseek_map L 0 (val := val) h
  have h3 : r.isSome = (L.find? p).isSome := by
    have := congrArg Option.isSome h2
    simpa using this
  unfold lkpV
  rw [if_pos hk, h1]
  simp only [h2, h3]
theorem mput_new {α : Type} {key val : α → PV} {ks : List CK} {ag : Bool} {k v : PV} {p : α → Bool} {L : List α} (hk : (keyEq ks ag k k).isSome = true) (h : ∀ a ∈ L, keyEq ks ag k (key a) = some (p a)) (hn : ∀ a ∈ L, p a = false) :
    mput ks ag k v (L.map fun a => (key a, val a)) = some ((L.map fun a => (key a, val a)) ++ [(k, v)]) := by
  obtain ⟨r, h1, h2⟩ := mseek_map L 0 (val := val) h
  have hf : L.find? p = none := List.find?_eq_none.2 fun a ha => by rw [hn a ha]; simp
  rw [hf] at h2
  have : r = none := by simpa using h2
  subst this
  unfold mput
  rw [if_pos hk, h1]
theorem rng_m {α ι : Type} {C : Con} {Q : AEx → AS → Prop} {s : AS} {f : AX} {ps : List Nat} {a b : AC} (zs : List α) (enc : α → List PV) (ks : List Nat) (L : Nat → ι → List ABlk) (lv : Nat → ι → List Nat) (Y : Nat → Option (List (List PV))) (ok : Nat → ι → Prop) (a0 : ι)
    {x : PV} {L' : List ABlk} {g : FuncId} {fi cap : List PV} (h1 : pur 100 s.loc (f.ev s) = some (x, L')) (h2 : cloOf x = some (g, fi, cap)) (h3 : C.it g (fi ++ .yld :: cap) (zs.map enc)) (h4 : (noY.noYL fi && noY.noYL cap && noY.noYR (zs.map enc)) = true) (h5 : ∀ z, (enc z).length = ps.length)
    (h6 : Wk { s with loc := L' } ⟨keepS s.t ks, L 0 a0, lv 0 a0, Y 0, s.base⟩) (h7 : ok 0 a0)
    (h9 : ∀ (i : Nat) (c : ι) (h : i < zs.length), ok i c → exec C a (asQ (exec C b (rndX (keepS s.t ks) s.base (ok (i + 1)) (fun c => ⟨keepS s.t ks, L (i + 1) c, lv (i + 1) c, Y (i + 1), s.base⟩) Q))) ⟨setPs ps (enc zs[i]) (keepS s.t ks), L i c, lv i c, Y i, (L i c).length⟩)
    (h10 : ∀ c, ok zs.length c → Q .normal ⟨keepS s.t ks, L zs.length c, lv zs.length c, Y zs.length, s.base⟩) : exec C (.rng f ps a b) Q s := by
  refine rng_ix (ι := ι) x L' g fi cap (zs.map enc) (keepS s.t ks) (fun i c => ⟨keepS s.t ks, L i c, lv i c, Y i, s.base⟩) ok a0 h1 h2 h3 h4 (fun y hy => ?_) h6 h7 (fun _ _ => ⟨rfl, rfl⟩) (fun i y c hy ho => ?_) (fun c ho => ?_)
  · obtain ⟨z, _, rfl⟩ := List.mem_map.1 hy
    exact h5 z
  · have hi : i < zs.length := by simpa using (List.getElem?_eq_some_iff.1 hy).1
    have : y = enc zs[i] := by
      rw [List.getElem?_map, List.getElem?_eq_getElem hi] at hy
      simpa using hy.symm
    subst this
    exact h9 i c hi ho
  · rw [List.length_map] at ho ⊢
    exact h10 c ho
attribute [go_sem] iadr2_0 iadr2_1 iadr3_0 iadr3_1 iadr3_2 iadr4_0 iadr4_1 iadr4_2 iadr4_3
attribute [go_sem] keepS_nil keepS_cons upS_eq
end Go.Proofs.YtlbolnlcncjijaaGreat
