/- A region that draws its order, within a fence that lets all in: what yields its value in every world that meets S may be taken first. Walks: the iterator over the places of a part with the inches of its joints. -/
import Derived.Test.YtbbolibkheelmaaGa03
import Derived.OrdersHeld
namespace Go.Proofs.Ytbbolibkheelmaa
section
variable {F : Fence} {n : Nat} {P : Program} {ops : Array Oper} {Q : Exit → Act → World → Prop} {md : Region.Mode} {S : World → Prop}

def noDefer (ops : Array Oper) : Bool := ops.all fun o => match o.op with | .defer _ => false | _ => true
theorem noDefer_spec (h : noDefer ops = true) {j : Nat} {o : Oper} (hj : ops[j]? = some o) : ∀ c, o.op ≠ .defer c := by
  intro c hc
  obtain ⟨hlt, he⟩ := Array.getElem?_eq_some_iff.1 hj
  have := Array.all_eq_true.1 h j hlt
  rw [he, hc] at this
  cases this

/-- An operation that comes behind all others. -/
def lastOp (md : Region.Mode) (ops : Array Oper) (i : Nat) : Bool :=
  match ops[i]? with
  | none => false
  | some o => (List.range ops.size).all fun j => j == i || o.after.any fun e => Region.binds md e && e.on == j
theorem not_last {i j : Nat} {listed : Array Bool} (hi : i < ops.size) (hji : j ≠ i) (hj : j ∈ Region.ready md ops listed) (hun : listed.getD i true = false) : lastOp md ops j = false := by
  obtain ⟨_, oj, hoj, hall⟩ := mem_ready.1 hj
  cases hl : lastOp md ops j with
  | false => rfl
  | true =>
    unfold lastOp at hl
    simp only [hoj, List.all_eq_true, List.mem_range] at hl
    have h1 := hl i hi
    rw [Bool.or_eq_true, beq_iff_eq] at h1
    rcases h1 with h1 | h1
    · exact absurd h1.symm hji
    · rw [Array.any_eq_true'] at h1
      obtain ⟨e, he, hb⟩ := h1
      rw [Bool.and_eq_true, beq_iff_eq] at hb
      have h2 := hall e he hb.1
      rw [hb.2, getD_both hun] at h2
      cases h2

/-- Whatever order is picked from here on; S holds behind every operation, but for one that comes behind all others. -/
def anyHeld (F : Fence) (n : Nat) (P : Program) (md : Region.Mode) (ops : Array Oper) (Q : Exit → Act → World → Prop) (S : World → Prop) : Nat → Array Bool → Act → World → Prop
  | 0, listed, a, w => Region.ready md ops listed = [] ∧ Q .normal a w
  | fuel + 1, listed, a, w =>
    (Region.ready md ops listed = [] → Q .normal a w) ∧
    ∀ i ∈ Region.ready md ops listed, wpOpIn F n P ops Q i (fun a' w' => (S w' ∨ lastOp md ops i = true) ∧ anyHeld F n P md ops Q S fuel (listed.setIfInBounds i true) a' w') a w

theorem any_of_held : ∀ (fuel : Nat) (listed : Array Bool) (a : Act) (w : World), anyHeld F n P md ops Q S fuel listed a w → wpAnyIn F n P md ops Q fuel listed a w
  | 0, _, _, _, h => h
  | fuel + 1, _, _, _, h => ⟨h.1, fun i hi => wpOpIn_mono (fun a' w' h' => any_of_held fuel _ a' w' h'.2) (h.2 i hi)⟩

theorem yields_op (hO : Open F) {i : Nat} {o : Oper} {v : Value} {a : Act} (hi : ops[i]? = some o) (hd : ∀ c, o.op ≠ .defer c) (hy : YieldsIf P ops S o v a) {K : Act → World → Prop} {w : World} (hS : S w) (h : K (a.put o.dst v) w) :
    wpOpIn F n P ops Q i K a w := by
  unfold wpOpIn
  simp only [hi]
  rcases hy with ⟨hw, hv⟩ | ⟨hw, rfl⟩
  · rw [if_pos hw]
    refine ⟨fun f _ => hO.fn f, ?_⟩
    rw [semAt_of hd, hv w hS]; exact h
  · rw [if_neg (by rw [hw]; simp)]; exact ⟨fun f _ => hO.fn f, h⟩

theorem op_put (hO : Open F) {j : Nat} {oi oj : Oper} {v : Value} (hj : ops[j]? = some oj) (hap : oi.apart ops oj = true)
    (hsi : ∀ cs b, oi.op ≠ .select cs b) (hsj : ∀ cs b, oj.op ≠ .select cs b) (hd : ∀ c, oj.op ≠ .defer c)
    (hQ : ∀ c a w, Q (.panic c) (a.put oi.dst v) w → Q (.panic c) a w) {K : Act → World → Prop} {a : Act} {w : World}
    (hy : YieldsIf P ops S oi v a) (h : wpOpIn F n P ops Q j K (a.put oi.dst v) w) :
    wpOpIn F n P ops Q j (fun a' w' => YieldsIf P ops S oi v a' ∧ K (a'.put oi.dst v) w') a w := by
  obtain ⟨h1, h2, h3⟩ := Oper.apart_spec hap
  have keep : ∀ u, YieldsIf P ops S oi v (a.put oj.dst u) := fun u =>
    hy.of_same (execOp_put oi hsi a oj.dst u h3) (wanted_put oi a oj.dst u h3)
  have swap : ∀ u w', K ((a.put oi.dst v).put oj.dst u) w' → YieldsIf P ops S oi v (a.put oj.dst u) ∧ K ((a.put oj.dst u).put oi.dst v) w' := fun u w' hk =>
    ⟨keep u, by rw [← Act.put_comm a v u h2]; exact hk⟩
  unfold wpOpIn at *
  simp only [hj] at *
  rw [wanted_put oj a oi.dst v h1] at h
  by_cases hw : Region.wanted oj (yielded ops a.tmps) = true
  · rw [if_pos hw] at h ⊢
    refine ⟨fun f _ => hO.fn f, ?_⟩
    have h := h.2
    rw [semAt_of hd, execOp_put oj hsj a oi.dst v h1] at h
    rw [semAt_of hd]
    generalize (execOp a.eval oj).run P w = r at *
    cases r with
    | ok x w' =>
      cases x <;> simp only [Oper.uponIn] at h ⊢
      case value u => exact swap u _ h
      case skip => exact swap _ _ h
      case defer d => exact ⟨hy.of_same (execOp_put oi hsi _ oj.dst _ h3) (wanted_put oi _ oj.dst _ h3), by rw [← Act.put_comm _ v undef h2, ← Act.put_defers]; exact h⟩
      case enter f args =>
        refine ⟨h.1, h.2.mono fun e w'' he => ?_⟩
        cases e with
        | returned u => exact swap u _ he
        | panicked c => exact hQ _ _ _ he
        | outgrown => exact he
      case row row args => exact ⟨h.1, h.2.mono fun u w'' he => swap u _ he⟩
      case round l f tmps assign body =>
        refine ⟨h.1, h.2.mono fun e w'' he => ?_⟩
        cases e with
        | returned u => exact swap u _ he
        | panicked c => exact hQ _ _ _ he
        | outgrown => exact he
    | halt x w' =>
      cases x <;> simp only [Oper.uponIn] at h ⊢
      case panic u => exact hQ _ _ _ h
  · rw [if_neg hw] at h ⊢
    exact ⟨fun f _ => hO.fn f, swap _ _ h.2⟩

theorem held_first (hO : Open F) {i : Nat} {oi : Oper} {v : Value} (hi : ops[i]? = some oi) (hsel : ∀ (j : Nat) (o : Oper) cs b, ops[j]? = some o → o.op ≠ .select cs b) (hnd : noDefer ops = true)
    (hQ : ∀ c a w, Q (.panic c) (a.put oi.dst v) w → Q (.panic c) a w) :
    ∀ (fuel : Nat) (listed : Array Bool) (a : Act) (w : World),
      (∀ j oj, ops[j]? = some oj → j ≠ i → listed.getD j true = false → (∀ e ∈ oj.after, Region.binds md e = true → e.on ≠ i) → oi.apart ops oj = true) →
      i ∈ Region.ready md ops listed → YieldsIf P ops S oi v a → S w →
      anyHeld F n P md ops Q S fuel (listed.setIfInBounds i true) (a.put oi.dst v) w → anyHeld F n P md ops Q S (fuel + 1) listed a w
  | 0, listed, a, w, _, hr, hy, hS, H => by
    refine ⟨fun h => (by rw [h] at hr; cases hr), fun j hj => ?_⟩
    by_cases hji : j = i
    · subst hji; exact yields_op hO hi (noDefer_spec hnd hi) hy hS ⟨.inl hS, H⟩
    · have := ready_mono hj hji
      rw [H.1] at this
      cases this
  | fuel + 1, listed, a, w, hfree, hr, hy, hS, H => by
    refine ⟨fun h => (by rw [h] at hr; cases hr), fun j hj => ?_⟩
    by_cases hji : j = i
    · subst hji; exact yields_op hO hi (noDefer_spec hnd hi) hy hS ⟨.inl hS, H⟩
    · have h1 := H.2 j (ready_mono hj hji)
      obtain ⟨hjun, oj, hoj, hall⟩ := mem_ready.1 hj
      have hun := (mem_ready.1 hr).1
      have hnot : ∀ e ∈ oj.after, Region.binds md e = true → e.on ≠ i := fun e he hb heq => by
        have h1 := hall e he hb
        rw [heq, getD_both hun] at h1
        cases h1
      have h2 := op_put hO hoj (hfree j oj hoj hji hjun hnot) (fun cs b => hsel i oi cs b hi) (fun cs b => hsel j oj cs b hoj) (noDefer_spec hnd hoj) hQ hy h1
      have hnl : ¬ lastOp md ops j = true := by rw [not_last (Array.getElem?_eq_some_iff.1 hi).1 hji hj hun]; simp
      refine wpOpIn_mono (fun a' w' h3 => ⟨h3.2.1, held_first hO hi hsel hnd hQ fuel (listed.setIfInBounds j true) a' w' (fun k ok hk hki hku hno => hfree k ok hk hki ?_ hno) (ready_mono hr (Ne.symm hji)) h3.1 (h3.2.1.resolve_right hnl) ?_⟩) h2
      · by_cases hjk : j = k
        · subst hjk; exact hjun
        · rwa [getD_set_ne true hjk] at hku
      · rw [Array.setIfInBounds_comm _ _ hji]
        exact h3.2.2

/-- Take number i first. -/
theorem held_take (hO : Open F) (i : Nat) {oi : Oper} {v : Value} {fuel : Nat} {listed : Array Bool} {a : Act} {w : World} (hi : ops[i]? = some oi)
    (hs : Region.noSelect ops = true) (hnd : noDefer ops = true) (hf : Region.free md ops listed i = true) (hr : (Region.ready md ops listed).contains i = true)
    (hQ : ∀ c a w, Q (.panic c) (a.put oi.dst v) w → Q (.panic c) a w) (hS : S w) (hy : YieldsIf P ops S oi v a)
    (h : anyHeld F n P md ops Q S fuel (listed.setIfInBounds i true) (a.put oi.dst v) w) : anyHeld F n P md ops Q S (fuel + 1) listed a w :=
  held_first hO hi (Region.noSelect_spec hs) hnd hQ fuel listed a w (Region.free_spec hi hf) (by simpa using hr) hy hS h

/-- One alone may come up: it is carried out; S is shown anew behind it. -/
theorem held_one (i : Nat) {o : Oper} {fuel : Nat} {listed : Array Bool} {a : Act} {w : World} (hr : Region.ready md ops listed = [i]) (ho : ops[i]? = some o)
    (h : ∀ K : Act → World → Prop, (∀ a w, (S w ∨ lastOp md ops i = true) → anyHeld F n P md ops Q S fuel (listed.setIfInBounds i true) a w → K a w) →
      if Region.wanted o (yielded ops a.tmps) = true then Oper.wpIn F n P o a w K Q else (∀ f, o.about P w a.eval = some f → F.fn f) ∧ K (a.put o.dst undef) w) : anyHeld F n P md ops Q S (fuel + 1) listed a w := by
  refine ⟨fun h0 => (by rw [hr] at h0; cases h0), fun j hj => ?_⟩
  rw [hr] at hj
  obtain rfl : j = i := by simpa using hj
  exact wpOpIn_step ho (fun K' hK => h K' (fun a w hS hW => hK a w ⟨hS, hW⟩))

theorem held_done {listed : Array Bool} {a : Act} {w : World} (hr : Region.ready md ops listed = []) (h : Q .normal a w) : ∀ fuel, anyHeld F n P md ops Q S fuel listed a w
  | 0 => ⟨hr, h⟩
  | _ + 1 => ⟨fun _ => h, by rw [hr]; simp⟩

theorem region_held {id : Nat} {a : Act} {w : World} (S : World → Prop) (hm : P.follows .mixedOrders = true)
    (h : anyHeld F n P .any ops Q S ops.size (Array.replicate ops.size false) a w.drew) : (Code.region id ops true).wpIn F n P Q a w :=
  wpIn_region_any hm (any_of_held _ _ _ _ h)
/-- An element of a list, by its number. -/
def nth {α : Type} : List α → Nat → Option α
  | [], _ => none
  | a :: _, 0 => some a
  | _ :: l, n + 1 => nth l n
theorem nth_eq {α : Type} : ∀ (l : List α) (i : Nat), nth l i = l[i]?
  | [], _ => by simp [nth]
  | a :: l, 0 => by simp [nth]
  | a :: l, i + 1 => by simp [nth, nth_eq l i]
theorem nth_ops {l : List Oper} {i : Nat} {o : Oper} (h : nth l i = some o) : l.toArray[i]? = some o := by rw [nth_eq] at h; simpa using h

theorem held_takeL (hO : Open F) (i : Nat) {l : List Oper} {oi : Oper} {v : Value} {fuel : Nat} {listed : Array Bool} {a : Act} {w : World} (hi : nth l i = some oi)
    (hs : Region.noSelect l.toArray = true) (hnd : noDefer l.toArray = true) (hf : Region.free md l.toArray listed i = true) (hr : (Region.ready md l.toArray listed).contains i = true)
    (hQ : ∀ c a w, Q (.panic c) (a.put oi.dst v) w → Q (.panic c) a w) (hS : S w) (hy : YieldsIf P l.toArray S oi v a)
    (h : anyHeld F n P md l.toArray Q S fuel (listed.setIfInBounds i true) (a.put oi.dst v) w) : anyHeld F n P md l.toArray Q S (fuel + 1) listed a w :=
  held_take hO i (nth_ops hi) hs hnd hf hr hQ hS hy h
theorem held_oneL (i : Nat) {l : List Oper} {o : Oper} {fuel : Nat} {listed : Array Bool} {a : Act} {w : World} (hr : Region.ready md l.toArray listed = [i]) (ho : nth l i = some o)
    (h : ∀ K : Act → World → Prop, (∀ a w, S w → anyHeld F n P md l.toArray Q S fuel (listed.setIfInBounds i true) a w → K a w) →
      if Region.wanted o (yielded l.toArray a.tmps) = true then Oper.wpIn F n P o a w K Q else (∀ f, o.about P w a.eval = some f → F.fn f) ∧ K (a.put o.dst undef) w) : anyHeld F n P md l.toArray Q S (fuel + 1) listed a w :=
  held_one i hr (nth_ops ho) (fun K hK => h K (fun a w hS => hK a w (.inl hS)))
theorem held_anyL (i : Nat) {l : List Oper} {o : Oper} {fuel : Nat} {listed : Array Bool} {a : Act} {w : World} (hr : Region.ready md l.toArray listed = [i]) (ho : nth l i = some o)
    (h : ∀ K : Act → World → Prop, (∀ a w, (S w ∨ lastOp md l.toArray i = true) → anyHeld F n P md l.toArray Q S fuel (listed.setIfInBounds i true) a w → K a w) →
      if Region.wanted o (yielded l.toArray a.tmps) = true then Oper.wpIn F n P o a w K Q else (∀ f, o.about P w a.eval = some f → F.fn f) ∧ K (a.put o.dst undef) w) : anyHeld F n P md l.toArray Q S (fuel + 1) listed a w :=
  held_one i hr (nth_ops ho) h
end
end Go.Proofs.Ytbbolibkheelmaa
namespace Go.Proofs.Ytbbolibkheelmaa
open Go.RowKit Go.Shelf

attribute [local go_sem] Oper.semAt_some

set_option maxRecDepth 10000 in
set_option maxHeartbeats 400000 in
theorem lyings_any {long : Int} {kv av : Value} {sa : Option Addr} {sn sc : Nat} {p : Nat} {w : World} :
    Calls Try.prog 118 #[.agg #[.int .i64 long, kv, .slice sa sn sc, av], .int .i64 p] w
      fun e w' => e = .returned (.func (.func 129) #[] #[.pointer (some ⟨w.heap.size, 0, none⟩), .pointer (some ⟨w.heap.size + 1, 0, none⟩)]) ∧
        w' = (w.alloc (.cells #[.int .i64 long, kv, .slice sa sn sc, av] 86)).alloc (.cells #[.int .i64 p] 3) := by
  go_enter Try.func118, Try.ntmps118
  go_wp2
  go_ret
  exact ⟨rfl, rfl⟩

/-- All ways to lie: place by place, as it is, and turned if it turns. -/
def lyF (turns : Bool) (t : Nat) : List (Nat × Bool) := if turns then [(t, false), (t, true)] else [(t, false)]
def lyList (N : Nat) (turns : Bool) : List (Nat × Bool) := (List.range N).flatMap (lyF turns)
def lyJoints (x : Shape) (y : Nat × Bool) : Nat → Bool := if y.2 then turnedM x x.joints.length y.1 else jointsM x x.joints.length y.1
def lyEnc (p : Nat) (x : Shape) (y : Nat × Bool) : Array Value := #[placeV p y.1, .agg (encIn (lyJoints x y))]
theorem lyEnc_plain (p : Nat) (x : Shape) (t : Nat) : lyEnc p x (t, false) = #[.agg #[.int .i64 p, .int .i64 t], .agg (encIn (jointsM x x.joints.length t))] := rfl
theorem lyEnc_turned (p : Nat) (x : Shape) (t : Nat) : lyEnc p x (t, true) = #[.agg #[.int .i64 p, .int .i64 t], .agg (encIn (turnedM x x.joints.length t))] := rfl
theorem ly_pre1 {N t : Nat} {turns : Bool} {pre : List Nat} (h : pre ++ [t] <+: List.range N) : pre.flatMap (lyF turns) ++ [(t, false)] <+: lyList N turns := by
  obtain ⟨r, hr⟩ := h
  unfold lyList
  rw [← hr, List.flatMap_append, List.flatMap_append]
  refine ⟨(if turns then [(t, true)] else []) ++ r.flatMap (lyF turns), ?_⟩
  cases turns <;> simp [lyF]
theorem ly_pre2 {N t : Nat} {pre : List Nat} (h : pre ++ [t] <+: List.range N) : (pre.flatMap (lyF true) ++ [(t, false)]) ++ [(t, true)] <+: lyList N true := by
  obtain ⟨r, hr⟩ := h
  unfold lyList
  rw [← hr, List.flatMap_append, List.flatMap_append]
  refine ⟨r.flatMap (lyF true), ?_⟩
  simp [lyF]
theorem ly_snoc1 (pre : List Nat) (t : Nat) : (pre ++ [t]).flatMap (lyF false) = pre.flatMap (lyF false) ++ [(t, false)] := by simp [List.flatMap_append, lyF]
theorem ly_snoc2 (pre : List Nat) (t : Nat) : (pre ++ [t]).flatMap (lyF true) = (pre.flatMap (lyF true) ++ [(t, false)]) ++ [(t, true)] := by simp [List.flatMap_append, lyF]

/-- The blocks that the iterator reads. -/
def lyC (B1 B2 Bd : Nat) : Nat → Prop := fun k => k = B1 ∨ k = B2 ∨ k < Bd

set_option maxRecDepth 100000 in
set_option maxHeartbeats 2000000 in
theorem lyings_seq {F : Fence} (hO : Open F) (hro : F.round = none) {B1 B2 Bd p : Nat} {long : Int} {kv av : Value} {sa : Option Addr} {sn sc : Nat} {ps : List Shape} {w : World}
    (h1 : Blk w B1 #[.int .i64 long, kv, .slice sa sn sc, av]) (h2 : Blk w B2 #[.int .i64 p]) (hBd : Bd ≤ w.heap.size) (hs : ShapesAt Bd w sa sn ps) (hp : p < sn)
    (hl0 : 0 ≤ long) (hl1 : long ≤ 16) (hx0 : 1 ≤ (gs ps p).long) (hx1 : (gs ps p).long ≤ 12) (hJi : JointsIn (gs ps p)) :
    Seq F Try.prog 129 #[.pointer (some ⟨B1, 0, none⟩), .pointer (some ⟨B2, 0, none⟩)] (lyEnc p (gs ps p)) (lyList (many long (gs ps p).long) (gs ps p).turns) (lyC B1 B2 Bd) w := by
  intro l R J Jx W hW hR hCR hJ hJx hY h0
  have hF := hO.fn
  have hd := hO.depth
  have g1 := h1.same hW (fun e => e)
  have g2 := h2.same hW (fun e => e)
  have hm1 : ¬ R B1 := hCR _ (.inl rfl)
  have hm2 : ¬ R B2 := hCR _ (.inr (.inl rfl))
  have hmd : ∀ k, k < Bd → ¬ R k := fun k hk => hCR _ (.inr (.inr hk))
  have hWs := hW.size
  have hs1 : ShapesAt Bd W sa sn ps := hs.keep (Nat.le_refl _) (fun b o hb => hW.cell (by omega) (fun e => e))
  have hlt1 := g1.lt
  have hlt2 := g2.lt
  refine callsIn_of_wp_marks Try.func129 rfl (hF _) ?_ hro
  simp only [Try.ntmps129, List.size_toArray, List.length_cons, List.length_nil, Nat.reduceAdd, Nat.reduceSub, Array.replicate_succ, Array.replicate_zero, List.push_toArray, List.append_toArray, List.nil_append, List.cons_append]
  have c10 := g1.cell (i := 0)
  have c11 := g1.cell (i := 1)
  have c12 := g1.cell (i := 2)
  have c13 := g1.cell (i := 3)
  have c20 := g2.cell (i := 0)
  gi_wp2_with (gi_at_call 69; refine (hO.calls (places_any (B := Bd) (ps := ps) (by simp; omega) (hs1.keep (Nat.le_refl _) (fun b o hb => cell_alloc_lt _ (by omega))) hp hl0 hl1 (by omega) hx1)).mono ?_; rintro e w' ⟨rfl, rfl⟩)
  have hN : many long (gs ps p).long ≤ 16 := by unfold many; omega
  have hTN : ∀ t, t < many long (gs ps p).long → (t : Int) + (gs ps p).long ≤ 16 := by unfold many; omega
  have hsc : 0 ≤ sc := Nat.zero_le _
  clear hsc c10 c11 c12 c13 c20
  obtain ⟨W2, hW2⟩ : ∃ W2, W2 = ((((W.alloc (.cells #[.func (.yield l) #[] #[]] 169)).alloc (.cells #[.int .i64 long, kv, .slice sa sn sc, av] 86)).alloc (.cells #[.int .i64 p] 3)).alloc (.cells #[.int .i64 p, .int .i64 (many long (gs ps p).long)] 89)).drew := ⟨_, rfl⟩
  have hS2 : SameBut (fun _ => False) W W2 := by rw [hW2]; exact (((((SameBut.refl _ W).alloc _).alloc _).alloc _).alloc _).drew
  have hsz2 : W2.heap.size = W.heap.size + 4 := by rw [hW2]; simp
  have by2 : Blk W2 W.heap.size #[.func (.yield l) #[] #[]] := by rw [hW2]; exact (((Blk.new W _ _).alloc _).alloc _).alloc _
  have bp2 : Blk W2 (W.heap.size + 2) #[.int .i64 p] := by
    rw [hW2]
    have := (Blk.new ((W.alloc (.cells #[.func (.yield l) #[] #[]] 169)).alloc (.cells #[.int .i64 long, kv, .slice sa sn sc, av] 86)) #[.int .i64 p] 3).alloc (.cells #[.int .i64 p, .int .i64 (many long (gs ps p).long)] 89)
    simp only [World.size_alloc] at this
    exact this
  have bq2 : Blk W2 (W.heap.size + 3) #[.int .i64 p, .int .i64 (many long (gs ps p).long)] := by
    rw [hW2]
    have := Blk.new (((W.alloc (.cells #[.func (.yield l) #[] #[]] 169)).alloc (.cells #[.int .i64 long, kv, .slice sa sn sc, av] 86)).alloc (.cells #[.int .i64 p] 3)) #[.int .i64 p, .int .i64 (many long (gs ps p).long)] 89
    simp only [World.size_alloc] at this
    exact this
  rw [← hW2]
  clear hW2
  have hJ2 : J [] W2 := hJ _ _ _ h0 (hS2.calm _)
  have hs2 : ShapesAt Bd W2 sa sn ps := hs1.keep (Nat.le_refl _) (fun b o hb => hS2.cell (by omega) (fun e => e))
  have k1 := g1.same hS2 (fun e => e)
  have k2 := g2.same hS2 (fun e => e)
  refine wpIn_range hO hro (gf := 103) (lb := #[.pointer (some ⟨W.heap.size + 1 + 1, 0, none⟩), .pointer (some ⟨W.heap.size + 1 + 2, 0, none⟩)]) rfl (enters_of Try.func103 (by kernel_rfl) rfl)
    (places_seq hO hro bp2 bq2 (by omega)) (fun _ => rfl) R (fun k hk => by have := hR k hk; omega)
    (fun k hk => by
      have hk' : k = W.heap.size + 2 ∨ k = W.heap.size + 3 := hk
      exact ⟨by omega, fun e => by have := hR k e; omega⟩)
    (fun pre Wc => J (pre.flatMap (lyF (gs ps p).turns)) Wc ∧ SameBut R W2 Wc)
    (fun c _ Wc => c = .ret ∧ ∃ pre', pre' <+: lyList (many long (gs ps p).long) (gs ps p).turns ∧ Jx pre' Wc)
    ?hI ?hIx ⟨hJ2, SameBut.refl _ _⟩
    (fun t a' Wc => ∃ bx, (Blk Wc bx #[.int .i64 p, .int .i64 t] ∧ ¬ R bx) ∧ a' = { tmps := #[.func (.yield l) #[] #[], .pointer (some ⟨B1, 0, none⟩), .pointer (some ⟨B2, 0, none⟩), .pointer (some ⟨W.heap.size, 0, none⟩), .pointer (some ⟨bx, 0, none⟩), .agg #[.int .i64 long, kv, .slice sa sn sc, av], .int .i64 p,
      .func (.func 103) #[] #[.pointer (some ⟨W.heap.size + 1 + 1, 0, none⟩), .pointer (some ⟨W.heap.size + 1 + 2, 0, none⟩)], placeV p t, undef, undef, undef, undef, undef, undef, undef, undef, undef, undef, undef, undef, undef, undef, undef, undef, undef, undef, undef, undef, undef, undef], defers := [] })
    ?hAx ?assign ?body ?done ?stop
  case hI => exact Stable.and (fun s X Y h hc => hJ _ _ _ h (hc.mono (by omega))) (stable_same (Nat.le_refl _))
  case hIx =>
    rintro c s X Y ⟨hc, pre', hp', hj⟩ hcm
    exact ⟨hc, pre', hp', hJx _ _ _ hj (hcm.mono (by omega))⟩
  case hAx =>
    rintro x a' u X Y ⟨bx, ⟨hb, hn⟩, ha⟩ hc
    exact ⟨bx, ⟨hb.calm hc, hn⟩, ha⟩
  case assign =>
    rintro l2 pre x Wc K hpre ⟨hj, hsb⟩ hK
    gi_wp2
    exact hK _ _ ((SameBut.refl _ _).alloc _) ⟨hJ _ _ _ hj (calm_alloc _ _ _), hsb.alloc _⟩ ⟨Wc.heap.size, ⟨Blk.new Wc _ _, fun e => by have := hR _ e; have := hsb.size; omega⟩, rfl⟩
  case body =>
    rintro l2 pre t a' Wc hpre hl2 hrec ⟨hj, hsb⟩ ⟨bx, ⟨hbx, hnx⟩, rfl⟩
    have htN : t < many long (gs ps p).long := by
      have := List.IsPrefix.sublist hpre |>.subset (show t ∈ pre ++ [t] by simp)
      simpa using this
    have ht := hTN t htN
    obtain ⟨pb, po, rfl, hpB, hpc⟩ := hs2.get _ hp
    obtain ⟨_, _, _, _, hpt, _⟩ := hpc p hp
    clear hpc
    have hO2 := hO.inRound l2
    have hd2 : (F.inRound l2).depth = none := hd
    have hF2 : ∀ f, (F.inRound l2).fn f := hF
    apply wpIn_block
    apply wpIn_seq_k; intro K1 hK1
    apply wpIn_seq_k; intro K2 hK2
    have hmy : ¬ R W.heap.size := fun e => by have := hR _ e; omega
    have kc1 := k1.same hsb hm1
    have kc2 := k2.same hsb hm2
    have kcy := by2.same hsb hmy
    have hread : ∀ w', SameBut R Wc w' → w'.cell? ⟨W.heap.size, 0, none⟩ = some (.func (.yield l) #[] #[]) ∧ w'.cell? ⟨bx, 0, none⟩ = some (.int .i64 p) ∧ w'.cell? ⟨bx, 1, none⟩ = some (.int .i64 t) ∧
        w'.cell? ⟨B1, 0, none⟩ = some (.int .i64 long) ∧ w'.cell? ⟨B1, 1, none⟩ = some kv ∧ w'.cell? ⟨B1, 2, none⟩ = some (.slice (some ⟨pb, po, none⟩) sn sc) ∧ w'.cell? ⟨B1, 3, none⟩ = some av ∧ w'.cell? ⟨B2, 0, none⟩ = some (.int .i64 p) := fun w' h =>
      ⟨(kcy.same h hmy).cell, (hbx.same h hnx).cell, (hbx.same h hnx).cell, (kc1.same h hm1).cell, (kc1.same h hm1).cell, (kc1.same h hm1).cell, (kc1.same h hm1).cell, (kc2.same h hm2).cell⟩
    have hread2 : ∀ w', SameBut R Wc w' → w'.cell? ⟨pb, po + p * 3 + 2, none⟩ = some (.bool (gs ps p).turns) := fun w' h => by
      have e1 := (hsb.trans h).cell (b := pb) (o := po + p * 3 + 2) (by omega) (hmd pb hpB)
      rw [e1]; exact hpt
    refine region_held (fun w' => SameBut R Wc w') (by kernel_rfl) ?_
    have hS0 : SameBut R Wc Wc.drew := (SameBut.refl _ _).drew
    refine held_takeL hO2 0 (v := ?_) rfl (by kernel_rfl) (by kernel_rfl) (by kernel_rfl) (by kernel_rfl) (fun _ _ _ h => h) hS0 (.inl ⟨by rfl, ?_⟩) ?_
    rotate_left
    · intro w' hw'
      obtain ⟨r1, r2, r3, r4, r5, r6, r7, r8⟩ := hread w' hw'
      go_simp
      with_reducible rfl
    simp only [Act.put, List.setIfInBounds_toArray, List.set_cons_zero, List.set_cons_succ]
    refine held_takeL hO2 1 (v := ?_) rfl (by kernel_rfl) (by kernel_rfl) (by kernel_rfl) (by kernel_rfl) (fun _ _ _ h => h) hS0 (.inl ⟨by rfl, ?_⟩) ?_
    rotate_left
    · intro w' hw'
      obtain ⟨r1, r2, r3, r4, r5, r6, r7, r8⟩ := hread w' hw'
      go_simp
      with_reducible rfl
    simp only [Act.put, List.setIfInBounds_toArray, List.set_cons_zero, List.set_cons_succ]
    refine held_takeL hO2 2 (v := ?_) rfl (by kernel_rfl) (by kernel_rfl) (by kernel_rfl) (by kernel_rfl) (fun _ _ _ h => h) hS0 (.inl ⟨by rfl, ?_⟩) ?_
    rotate_left
    · intro w' hw'
      obtain ⟨r1, r2, r3, r4, r5, r6, r7, r8⟩ := hread w' hw'
      go_simp
      with_reducible rfl
    simp only [Act.put, List.setIfInBounds_toArray, List.set_cons_zero, List.set_cons_succ]
    refine held_takeL hO2 3 (v := ?_) rfl (by kernel_rfl) (by kernel_rfl) (by kernel_rfl) (by kernel_rfl) (fun _ _ _ h => h) hS0 (.inl ⟨by rfl, ?_⟩) ?_
    rotate_left
    · intro w' hw'
      obtain ⟨r1, r2, r3, r4, r5, r6, r7, r8⟩ := hread w' hw'
      go_simp
      with_reducible rfl
    simp only [Act.put, List.setIfInBounds_toArray, List.set_cons_zero, List.set_cons_succ]
    refine held_oneL 4 (by kernel_rfl) rfl (fun K hK => ?_)
    go_simp
    have hsP : ShapesAt Bd Wc.drew (some ⟨pb, po, none⟩) sn ps := hs2.keep (Nat.le_refl _) (fun b o hb => hsb.cell (by omega) (hmd b hb))
    refine (hO2.calls (joints_any (B := Bd) (ps := ps) (by have := hsb.size; show Bd ≤ Wc.heap.size; omega) hsP hp hJi ht)).mono ?_
    rintro e w4 ⟨rfl, hb4⟩
    have hF4 : SameBut (fun _ => False) Wc w4 := (SameBut.refl _ Wc).drew.below hb4
    have hR4 : SameBut R Wc w4 := hF4.mono (fun _ h => h.elim)
    refine hK _ _ hR4 ?_
    clear hK K
    obtain ⟨fn, tmps, assign, body, hy, hRd⟩ := hY _ (t, false) w4 (ly_pre1 hpre) (hJ _ _ _ hj (hF4.calm _))
    refine held_oneL 5 (by kernel_rfl) rfl (fun K hK => ?_)
    rw [lyEnc_plain] at hy
    go_simp
    refine (show RoundIn (F.inRound l2) 0 Try.prog l fn tmps assign body w4 _ from hRd).mono ?_
    rintro e w5 (⟨rfl, hJ5, hs5⟩ | ⟨rfl, hJx5, hs5⟩)
    · have hS5 := hR4.trans hs5
      refine hK _ _ hS5 ?_
      clear hK K
      refine held_takeL hO2 6 (v := ?_) rfl (by kernel_rfl) (by kernel_rfl) (by kernel_rfl) (by kernel_rfl) (fun _ _ _ h => h) hS5 (.inl ⟨by rfl, ?_⟩) ?_
      rotate_left
      · intro w' hw'
        go_simp
        with_reducible rfl
      simp only [Act.put, List.setIfInBounds_toArray, List.set_cons_zero, List.set_cons_succ]
      refine held_done (by kernel_rfl) ?_ _
      refine hK2 _ _ ?_
      clear hK2 K2
      gi_wp2
      refine region_held (fun w' => SameBut R Wc w') (by kernel_rfl) ?_
      have hS6 : SameBut R Wc w5.drew := hS5.drew
      have hpl : (p : Int) < sn := by omega
      clear hy
      rcases Bool.eq_false_or_eq_true (gs ps p).turns with htu | htu
      case inr =>
        have htu' := Lib.hid htu
        have hread3 : ∀ w', SameBut R Wc w' → w'.cell? ⟨pb, po + p * 3 + 2, none⟩ = some (.bool false) := fun w' h => by rw [hread2 w' h, htu]
        clear htu hread2
        refine held_takeL hO2 0 (v := ?_) rfl (by kernel_rfl) (by kernel_rfl) (by kernel_rfl) (by kernel_rfl) (fun _ _ _ h => h) hS6 (.inl ⟨by rfl, ?_⟩) ?_
        rotate_left
        · intro w' hw'
          obtain ⟨r1, r2, r3, r4, r5, r6, r7, r8⟩ := hread w' hw'
          have r9 := hread3 w' hw'
          go_simp
          with_reducible rfl
        simp only [Act.put, List.setIfInBounds_toArray, List.set_cons_zero, List.set_cons_succ]
        refine held_takeL hO2 1 (v := ?_) rfl (by kernel_rfl) (by kernel_rfl) (by kernel_rfl) (by kernel_rfl) (fun _ _ _ h => h) hS6 (.inl ⟨by rfl, ?_⟩) ?_
        rotate_left
        · intro w' hw'
          obtain ⟨r1, r2, r3, r4, r5, r6, r7, r8⟩ := hread w' hw'
          have r9 := hread3 w' hw'
          go_simp
          with_reducible rfl
        simp only [Act.put, List.setIfInBounds_toArray, List.set_cons_zero, List.set_cons_succ]
        refine held_takeL hO2 2 (v := ?_) rfl (by kernel_rfl) (by kernel_rfl) (by kernel_rfl) (by kernel_rfl) (fun _ _ _ h => h) hS6 (.inl ⟨by rfl, ?_⟩) ?_
        rotate_left
        · intro w' hw'
          obtain ⟨r1, r2, r3, r4, r5, r6, r7, r8⟩ := hread w' hw'
          have r9 := hread3 w' hw'
          go_simp
          with_reducible rfl
        simp only [Act.put, List.setIfInBounds_toArray, List.set_cons_zero, List.set_cons_succ]
        refine held_takeL hO2 3 (v := ?_) rfl (by kernel_rfl) (by kernel_rfl) (by kernel_rfl) (by kernel_rfl) (fun _ _ _ h => h) hS6 (.inl ⟨by rfl, ?_⟩) ?_
        rotate_left
        · intro w' hw'
          obtain ⟨r1, r2, r3, r4, r5, r6, r7, r8⟩ := hread w' hw'
          have r9 := hread3 w' hw'
          go_simp
          with_reducible rfl
        simp only [Act.put, List.setIfInBounds_toArray, List.set_cons_zero, List.set_cons_succ]
        refine held_takeL hO2 4 (v := ?_) rfl (by kernel_rfl) (by kernel_rfl) (by kernel_rfl) (by kernel_rfl) (fun _ _ _ h => h) hS6 (.inl ⟨by rfl, ?_⟩) ?_
        rotate_left
        · intro w' hw'
          obtain ⟨r1, r2, r3, r4, r5, r6, r7, r8⟩ := hread w' hw'
          have r9 := hread3 w' hw'
          go_simp
          with_reducible rfl
        simp only [Act.put, List.setIfInBounds_toArray, List.set_cons_zero, List.set_cons_succ]
        refine held_takeL hO2 5 (v := ?_) rfl (by kernel_rfl) (by kernel_rfl) (by kernel_rfl) (by kernel_rfl) (fun _ _ _ h => h) hS6 (.inl ⟨by rfl, ?_⟩) ?_
        rotate_left
        · intro w' hw'
          obtain ⟨r1, r2, r3, r4, r5, r6, r7, r8⟩ := hread w' hw'
          have r9 := hread3 w' hw'
          go_simp
          with_reducible rfl
        simp only [Act.put, List.setIfInBounds_toArray, List.set_cons_zero, List.set_cons_succ]
        refine held_takeL hO2 6 (v := ?_) rfl (by kernel_rfl) (by kernel_rfl) (by kernel_rfl) (by kernel_rfl) (fun _ _ _ h => h) hS6 (.inl ⟨by rfl, ?_⟩) ?_
        rotate_left
        · intro w' hw'
          obtain ⟨r1, r2, r3, r4, r5, r6, r7, r8⟩ := hread w' hw'
          have r9 := hread3 w' hw'
          go_simp
          with_reducible rfl
        simp only [Act.put, List.setIfInBounds_toArray, List.set_cons_zero, List.set_cons_succ]
        refine held_takeL hO2 7 (v := undef) rfl (by kernel_rfl) (by kernel_rfl) (by kernel_rfl) (by kernel_rfl) (fun _ _ _ h => h) hS6 (.inr ⟨by rfl, rfl⟩) ?_
        simp only [Act.put, List.setIfInBounds_toArray, List.set_cons_zero, List.set_cons_succ]
        refine held_takeL hO2 8 (v := undef) rfl (by kernel_rfl) (by kernel_rfl) (by kernel_rfl) (by kernel_rfl) (fun _ _ _ h => h) hS6 (.inr ⟨by rfl, rfl⟩) ?_
        simp only [Act.put, List.setIfInBounds_toArray, List.set_cons_zero, List.set_cons_succ]
        refine held_takeL hO2 9 (v := undef) rfl (by kernel_rfl) (by kernel_rfl) (by kernel_rfl) (by kernel_rfl) (fun _ _ _ h => h) hS6 (.inr ⟨by rfl, rfl⟩) ?_
        simp only [Act.put, List.setIfInBounds_toArray, List.set_cons_zero, List.set_cons_succ]
        refine held_takeL hO2 10 (v := undef) rfl (by kernel_rfl) (by kernel_rfl) (by kernel_rfl) (by kernel_rfl) (fun _ _ _ h => h) hS6 (.inr ⟨by rfl, rfl⟩) ?_
        simp only [Act.put, List.setIfInBounds_toArray, List.set_cons_zero, List.set_cons_succ]
        refine held_takeL hO2 11 (v := undef) rfl (by kernel_rfl) (by kernel_rfl) (by kernel_rfl) (by kernel_rfl) (fun _ _ _ h => h) hS6 (.inr ⟨by rfl, rfl⟩) ?_
        simp only [Act.put, List.setIfInBounds_toArray, List.set_cons_zero, List.set_cons_succ]
        refine held_takeL hO2 12 (v := undef) rfl (by kernel_rfl) (by kernel_rfl) (by kernel_rfl) (by kernel_rfl) (fun _ _ _ h => h) hS6 (.inr ⟨by rfl, rfl⟩) ?_
        simp only [Act.put, List.setIfInBounds_toArray, List.set_cons_zero, List.set_cons_succ]
        refine held_takeL hO2 13 (v := undef) rfl (by kernel_rfl) (by kernel_rfl) (by kernel_rfl) (by kernel_rfl) (fun _ _ _ h => h) hS6 (.inr ⟨by rfl, rfl⟩) ?_
        simp only [Act.put, List.setIfInBounds_toArray, List.set_cons_zero, List.set_cons_succ]
        refine held_takeL hO2 14 (v := ?_) rfl (by kernel_rfl) (by kernel_rfl) (by kernel_rfl) (by kernel_rfl) (fun _ _ _ h => h) hS6 (.inl ⟨by rfl, ?_⟩) ?_
        rotate_left
        · intro w' hw'
          obtain ⟨r1, r2, r3, r4, r5, r6, r7, r8⟩ := hread w' hw'
          have r9 := hread3 w' hw'
          go_simp
          with_reducible rfl
        simp only [Act.put, List.setIfInBounds_toArray, List.set_cons_zero, List.set_cons_succ]
        refine held_done (by kernel_rfl) ?_ _
        gi_wp2
        refine ⟨hS6, ?_, hsb.trans hS6⟩
        rw [htu'.out] at hJ5 ⊢
        rw [ly_snoc1]
        exact hJ _ _ _ hJ5 (((SameBut.refl (fun _ => False) w5).drew).calm _)
      case inl =>
        have htu' := Lib.hid htu
        have hread3 : ∀ w', SameBut R Wc w' → w'.cell? ⟨pb, po + p * 3 + 2, none⟩ = some (.bool true) := fun w' h => by rw [hread2 w' h, htu]
        clear htu hread2
        refine held_takeL hO2 0 (v := ?_) rfl (by kernel_rfl) (by kernel_rfl) (by kernel_rfl) (by kernel_rfl) (fun _ _ _ h => h) hS6 (.inl ⟨by rfl, ?_⟩) ?_
        rotate_left
        · intro w' hw'
          obtain ⟨r1, r2, r3, r4, r5, r6, r7, r8⟩ := hread w' hw'
          have r9 := hread3 w' hw'
          go_simp
          with_reducible rfl
        simp only [Act.put, List.setIfInBounds_toArray, List.set_cons_zero, List.set_cons_succ]
        refine held_takeL hO2 1 (v := ?_) rfl (by kernel_rfl) (by kernel_rfl) (by kernel_rfl) (by kernel_rfl) (fun _ _ _ h => h) hS6 (.inl ⟨by rfl, ?_⟩) ?_
        rotate_left
        · intro w' hw'
          obtain ⟨r1, r2, r3, r4, r5, r6, r7, r8⟩ := hread w' hw'
          have r9 := hread3 w' hw'
          go_simp
          with_reducible rfl
        simp only [Act.put, List.setIfInBounds_toArray, List.set_cons_zero, List.set_cons_succ]
        refine held_takeL hO2 2 (v := ?_) rfl (by kernel_rfl) (by kernel_rfl) (by kernel_rfl) (by kernel_rfl) (fun _ _ _ h => h) hS6 (.inl ⟨by rfl, ?_⟩) ?_
        rotate_left
        · intro w' hw'
          obtain ⟨r1, r2, r3, r4, r5, r6, r7, r8⟩ := hread w' hw'
          have r9 := hread3 w' hw'
          go_simp
          with_reducible rfl
        simp only [Act.put, List.setIfInBounds_toArray, List.set_cons_zero, List.set_cons_succ]
        refine held_takeL hO2 3 (v := ?_) rfl (by kernel_rfl) (by kernel_rfl) (by kernel_rfl) (by kernel_rfl) (fun _ _ _ h => h) hS6 (.inl ⟨by rfl, ?_⟩) ?_
        rotate_left
        · intro w' hw'
          obtain ⟨r1, r2, r3, r4, r5, r6, r7, r8⟩ := hread w' hw'
          have r9 := hread3 w' hw'
          go_simp
          with_reducible rfl
        simp only [Act.put, List.setIfInBounds_toArray, List.set_cons_zero, List.set_cons_succ]
        refine held_takeL hO2 4 (v := ?_) rfl (by kernel_rfl) (by kernel_rfl) (by kernel_rfl) (by kernel_rfl) (fun _ _ _ h => h) hS6 (.inl ⟨by rfl, ?_⟩) ?_
        rotate_left
        · intro w' hw'
          obtain ⟨r1, r2, r3, r4, r5, r6, r7, r8⟩ := hread w' hw'
          have r9 := hread3 w' hw'
          go_simp
          with_reducible rfl
        simp only [Act.put, List.setIfInBounds_toArray, List.set_cons_zero, List.set_cons_succ]
        refine held_takeL hO2 5 (v := ?_) rfl (by kernel_rfl) (by kernel_rfl) (by kernel_rfl) (by kernel_rfl) (fun _ _ _ h => h) hS6 (.inl ⟨by rfl, ?_⟩) ?_
        rotate_left
        · intro w' hw'
          obtain ⟨r1, r2, r3, r4, r5, r6, r7, r8⟩ := hread w' hw'
          have r9 := hread3 w' hw'
          go_simp
          with_reducible rfl
        simp only [Act.put, List.setIfInBounds_toArray, List.set_cons_zero, List.set_cons_succ]
        refine held_takeL hO2 6 (v := ?_) rfl (by kernel_rfl) (by kernel_rfl) (by kernel_rfl) (by kernel_rfl) (fun _ _ _ h => h) hS6 (.inl ⟨by rfl, ?_⟩) ?_
        rotate_left
        · intro w' hw'
          obtain ⟨r1, r2, r3, r4, r5, r6, r7, r8⟩ := hread w' hw'
          have r9 := hread3 w' hw'
          go_simp
          with_reducible rfl
        simp only [Act.put, List.setIfInBounds_toArray, List.set_cons_zero, List.set_cons_succ]
        refine held_takeL hO2 7 (v := ?_) rfl (by kernel_rfl) (by kernel_rfl) (by kernel_rfl) (by kernel_rfl) (fun _ _ _ h => h) hS6 (.inl ⟨by rfl, ?_⟩) ?_
        rotate_left
        · intro w' hw'
          obtain ⟨r1, r2, r3, r4, r5, r6, r7, r8⟩ := hread w' hw'
          have r9 := hread3 w' hw'
          go_simp
          with_reducible rfl
        simp only [Act.put, List.setIfInBounds_toArray, List.set_cons_zero, List.set_cons_succ]
        refine held_takeL hO2 8 (v := ?_) rfl (by kernel_rfl) (by kernel_rfl) (by kernel_rfl) (by kernel_rfl) (fun _ _ _ h => h) hS6 (.inl ⟨by rfl, ?_⟩) ?_
        rotate_left
        · intro w' hw'
          obtain ⟨r1, r2, r3, r4, r5, r6, r7, r8⟩ := hread w' hw'
          have r9 := hread3 w' hw'
          go_simp
          with_reducible rfl
        simp only [Act.put, List.setIfInBounds_toArray, List.set_cons_zero, List.set_cons_succ]
        refine held_takeL hO2 9 (v := ?_) rfl (by kernel_rfl) (by kernel_rfl) (by kernel_rfl) (by kernel_rfl) (fun _ _ _ h => h) hS6 (.inl ⟨by rfl, ?_⟩) ?_
        rotate_left
        · intro w' hw'
          obtain ⟨r1, r2, r3, r4, r5, r6, r7, r8⟩ := hread w' hw'
          have r9 := hread3 w' hw'
          go_simp
          with_reducible rfl
        simp only [Act.put, List.setIfInBounds_toArray, List.set_cons_zero, List.set_cons_succ]
        refine held_takeL hO2 10 (v := ?_) rfl (by kernel_rfl) (by kernel_rfl) (by kernel_rfl) (by kernel_rfl) (fun _ _ _ h => h) hS6 (.inl ⟨by rfl, ?_⟩) ?_
        rotate_left
        · intro w' hw'
          obtain ⟨r1, r2, r3, r4, r5, r6, r7, r8⟩ := hread w' hw'
          have r9 := hread3 w' hw'
          go_simp
          with_reducible rfl
        simp only [Act.put, List.setIfInBounds_toArray, List.set_cons_zero, List.set_cons_succ]
        refine held_oneL 11 (by kernel_rfl) rfl (fun K hK => ?_)
        go_simp
        have hsP5 : ShapesAt Bd w5.drew (some ⟨pb, po, none⟩) sn ps := hs2.keep (Nat.le_refl _) (fun b o hb => (hsb.trans hS6).cell (by omega) (hmd b hb))
        refine (hO2.calls (turnedJoints_any (B := Bd) (ps := ps) (by have := hsb.size; have := hS6.size; omega) hsP5 hp hJi ht)).mono ?_
        rintro e w7 ⟨rfl, hb7⟩
        have hF7 : SameBut (fun _ => False) w5 w7 := (SameBut.refl _ w5).drew.below hb7
        have hS7 : SameBut R Wc w7 := hS5.trans (hF7.mono (fun _ h => h.elim))
        refine hK _ _ hS7 ?_
        clear hK K
        rw [htu'.out] at hJ5 hY
        obtain ⟨fn, tmps, assign, body, hy, hRd⟩ := hY _ (t, true) w7 (ly_pre2 hpre) (hJ _ _ _ hJ5 (hF7.calm _))
        refine held_oneL 12 (by kernel_rfl) rfl (fun K hK => ?_)
        rw [lyEnc_turned] at hy
        go_simp
        refine (show RoundIn (F.inRound l2) 0 Try.prog l fn tmps assign body w7 _ from hRd).mono ?_
        rintro e w8 (⟨rfl, hJ8, hs8⟩ | ⟨rfl, hJx8, hs8⟩)
        · have hS8 := hS7.trans hs8
          refine hK _ _ hS8 ?_
          clear hK K
          refine held_takeL hO2 13 (v := ?_) rfl (by kernel_rfl) (by kernel_rfl) (by kernel_rfl) (by kernel_rfl) (fun _ _ _ h => h) hS8 (.inl ⟨by rfl, ?_⟩) ?_
          rotate_left
          · intro w' hw'
            go_simp
            with_reducible rfl
          simp only [Act.put, List.setIfInBounds_toArray, List.set_cons_zero, List.set_cons_succ]
          refine held_takeL hO2 14 (v := ?_) rfl (by kernel_rfl) (by kernel_rfl) (by kernel_rfl) (by kernel_rfl) (fun _ _ _ h => h) hS8 (.inl ⟨by rfl, ?_⟩) ?_
          rotate_left
          · intro w' hw'
            go_simp
            with_reducible rfl
          simp only [Act.put, List.setIfInBounds_toArray, List.set_cons_zero, List.set_cons_succ]
          refine held_done (by kernel_rfl) ?_ _
          gi_wp2
          refine ⟨hS8, ?_, hsb.trans hS8⟩
          rw [htu'.out, ly_snoc2]
          exact hJ8
        · have hS8 := hS7.trans hs8
          refine hK _ _ hS8 ?_
          clear hK K
          refine held_takeL hO2 13 (v := ?_) rfl (by kernel_rfl) (by kernel_rfl) (by kernel_rfl) (by kernel_rfl) (fun _ _ _ h => h) hS8 (.inl ⟨by rfl, ?_⟩) ?_
          rotate_left
          · intro w' hw'
            go_simp
            with_reducible rfl
          simp only [Act.put, List.setIfInBounds_toArray, List.set_cons_zero, List.set_cons_succ]
          refine held_takeL hO2 14 (v := ?_) rfl (by kernel_rfl) (by kernel_rfl) (by kernel_rfl) (by kernel_rfl) (fun _ _ _ h => h) hS8 (.inl ⟨by rfl, ?_⟩) ?_
          rotate_left
          · intro w' hw'
            go_simp
            with_reducible rfl
          simp only [Act.put, List.setIfInBounds_toArray, List.set_cons_zero, List.set_cons_succ]
          refine held_done (by kernel_rfl) ?_ _
          gi_wp2
          exact ⟨hS8, rfl, _, by rw [htu'.out]; exact ly_pre2 hpre, hJx8⟩
    · have hS5 := hR4.trans hs5
      refine hK _ _ hS5 ?_
      clear hK K
      refine held_takeL hO2 6 (v := ?_) rfl (by kernel_rfl) (by kernel_rfl) (by kernel_rfl) (by kernel_rfl) (fun _ _ _ h => h) hS5 (.inl ⟨by rfl, ?_⟩) ?_
      rotate_left
      · intro w' hw'
        go_simp
        with_reducible rfl
      simp only [Act.put, List.setIfInBounds_toArray, List.set_cons_zero, List.set_cons_succ]
      refine held_done (by kernel_rfl) ?_ _
      refine hK2 _ _ ?_
      clear hK2 K2
      gi_wp2
      exact ⟨hS5, rfl, _, ly_pre1 hpre, hJx5⟩
  case done =>
    rintro Wc ⟨hj, hsb⟩ hD
    gi_wp2
    refine ⟨by simp, .inl ⟨_, _, rfl, run_takeDeferred hD, ?_⟩⟩
    exact ⟨_, results_none rfl _ _ _, ⟨_, rfl⟩, .inl (hJ _ _ _ hj (calm_put _ hD (by omega) rfl))⟩
  case stop =>
    rintro c pre Wc hpre ⟨rfl, pre', hp', hj⟩ hD
    gi_wp2
    refine ⟨by simp, .inl ⟨_, _, rfl, run_takeDeferred hD, ?_⟩⟩
    exact ⟨_, results_none rfl _ _ _, ⟨_, rfl⟩, .inr ⟨pre', hp', hJx _ _ _ hj (calm_put _ hD (by omega) rfl)⟩⟩

end Go.Proofs.Ytbbolibkheelmaa
