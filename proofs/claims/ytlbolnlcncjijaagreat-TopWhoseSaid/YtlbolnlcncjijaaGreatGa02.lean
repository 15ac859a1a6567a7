/- A region that draws its order, by a plan: its operations one by one, in an order of ours. A region that draws its order, by a plan; its last operation need keep nothing. A region that draws its order: behind an operation that no other one is apart from, what was held need not be held any more. Abstract code: operations with what their types tell laid out, and how code is turned into it. -/
import Derived.Test.YtlbolnlcncjijaaGreatGa01
import GoSem.Core.Code
import GoSem.Dispatch
namespace Go.Proofs.YtlbolnlcncjijaaGreat
section
variable {F : Fence} {n : Nat} {P : Program} {Q : Exit → Act → World → Prop} {md : Region.Mode} {S : World → Prop}

def planOk (md : Region.Mode) (ops : Array Oper) : List (Nat × Bool) → Array Bool → Bool
  | [], listed => (Region.ready md ops listed).isEmpty
  | (i, true) :: r, listed => Region.free md ops listed i && (Region.ready md ops listed).contains i && planOk md ops r (listed.setIfInBounds i true)
  | (i, false) :: r, listed => (Region.ready md ops listed == [i]) && planOk md ops r (listed.setIfInBounds i true)

def planW (F : Fence) (n : Nat) (P : Program) (l : List Oper) (Q : Exit → Act → World → Prop) (S : World → Prop) : List (Nat × Bool) → Act → World → Prop
  | [], a, w => Q .normal a w
  | (i, true) :: r, a, w => ∃ o v, nth l i = some o ∧ S w ∧ YieldsIf P l.toArray S o v a ∧ planW F n P l Q S r (a.put o.dst v) w
  | (i, false) :: r, a, w => ∃ o, nth l i = some o ∧ ∀ K : Act → World → Prop, (∀ a w, (S w ∨ lastOp .any l.toArray i = true) → planW F n P l Q S r a w → K a w) →
      if Region.wanted o (yielded l.toArray a.tmps) = true then Oper.wpIn F n P o a w K Q else (∀ f, o.about P w a.eval = some f → F.fn f) ∧ K (a.put o.dst undef) w

theorem held_of_plan (hO : Open F) {l : List Oper} (hs : Region.noSelect l.toArray = true) (hnd : noDefer l.toArray = true) (hQ : ∀ c a t v w, Q (.panic c) (Act.put a (some t) v) w → Q (.panic c) a w) :
    ∀ (plan : List (Nat × Bool)) (fuel : Nat) (listed : Array Bool) (a : Act) (w : World), plan.length ≤ fuel → planOk .any l.toArray plan listed = true → planW F n P l Q S plan a w → anyHeld F n P .any l.toArray Q S fuel listed a w
  | [], fuel, listed, a, w, _, hp, h => by
    have : Region.ready .any l.toArray listed = [] := by simpa [planOk] using hp
    exact held_done this h fuel
  | (i, true) :: r, 0, listed, a, w, hf, _, _ => by simp at hf
  | (i, false) :: r, 0, listed, a, w, hf, _, _ => by simp at hf
  | (i, true) :: r, fuel + 1, listed, a, w, hf, hp, ⟨o, v, ho, hS, hy, h⟩ => by
    simp only [planOk, Bool.and_eq_true] at hp
    exact held_takeL hO i ho hs hnd hp.1.1 hp.1.2 (fun c a w h => (match o.dst, h with | none, h => h | some t, h => hQ c a t v w h)) hS hy (held_of_plan hO hs hnd hQ r fuel _ _ w (by simpa using hf) hp.2 h)
  | (i, false) :: r, fuel + 1, listed, a, w, hf, hp, ⟨o, ho, h⟩ => by
    simp only [planOk, Bool.and_eq_true, beq_iff_eq] at hp
    exact held_anyL i hp.1 ho (fun K hK => h K (fun a w hS hW => hK a w hS (held_of_plan hO hs hnd hQ r fuel _ a w (by simpa using hf) hp.2 hW)))

def okN (Q : Exit → Act → World → Prop) : Exit → Act → World → Prop
  | .normal, a, w => Q .normal a w
  | _, _, _ => False

theorem region_plan (hO : Open F) {id : Nat} {l : List Oper} {a : Act} {w : World} (S : World → Prop) (plan : List (Nat × Bool)) (hm : P.follows .mixedOrders = true)
    (hs : Region.noSelect l.toArray = true) (hnd : noDefer l.toArray = true) (hlen : plan.length ≤ l.toArray.size) (hp : planOk .any l.toArray plan (Array.replicate l.toArray.size false) = true)
    (h : planW F n P l (okN Q) S plan a w.drew) : (Code.region id l.toArray true).wpIn F n P Q a w := by
  refine wpIn_mono (region_held S hm (held_of_plan hO hs hnd (Q := okN Q) (fun c a t v w h => h) plan _ _ a _ hlen hp h)) ?_
  intro e a' w' hq
  cases e <;> first | exact hq | exact hq.elim

theorem plan_take {l : List Oper} {i : Nat} {r : List (Nat × Bool)} {a : Act} {w : World} {o : Oper} (v : Value) (ho : nth l i = some o) (hS : S w) (hw : Region.wanted o (yielded l.toArray a.tmps) = true)
    (hy : ∀ w', S w' → (execOp a.eval o).run P w' = .ok (.value v) w') (h : planW F n P l Q S r (a.put o.dst v) w) : planW F n P l Q S ((i, true) :: r) a w :=
  ⟨o, v, ho, hS, .inl ⟨hw, hy⟩, h⟩
theorem plan_skip {l : List Oper} {i : Nat} {r : List (Nat × Bool)} {a : Act} {w : World} {o : Oper} (ho : nth l i = some o) (hS : S w) (hw : Region.wanted o (yielded l.toArray a.tmps) = false)
    (h : planW F n P l Q S r (a.put o.dst undef) w) : planW F n P l Q S ((i, true) :: r) a w :=
  ⟨o, undef, ho, hS, .inr ⟨hw, rfl⟩, h⟩
theorem plan_one {l : List Oper} {i : Nat} {r : List (Nat × Bool)} {a : Act} {w : World} {o : Oper} (ho : nth l i = some o) (hw : Region.wanted o (yielded l.toArray a.tmps) = true)
    (h : ∀ K : Act → World → Prop, (∀ a w, S w → planW F n P l Q S r a w → K a w) → Oper.wpIn F n P o a w K Q) : planW F n P l Q S ((i, false) :: r) a w :=
  ⟨o, ho, fun K hK => by rw [if_pos hw]; exact h K (fun a w hS => hK a w (.inl hS))⟩
theorem plan_last {l : List Oper} {i : Nat} {r : List (Nat × Bool)} {a : Act} {w : World} {o : Oper} (hl : lastOp .any l.toArray i = true) (ho : nth l i = some o) (hw : Region.wanted o (yielded l.toArray a.tmps) = true)
    (h : ∀ K : Act → World → Prop, (∀ a w, planW F n P l Q S r a w → K a w) → Oper.wpIn F n P o a w K Q) : planW F n P l Q S ((i, false) :: r) a w :=
  ⟨o, ho, fun K hK => by rw [if_pos hw]; exact h K (fun a w => hK a w (.inr hl))⟩

theorem region_planW {id : Nat} {l : List Oper} {a : Act} {w : World} (S : World → Prop) (plan : List (Nat × Bool)) (hm : P.follows .mixedOrders = true)
    (hs : Region.noSelect l.toArray = true) (hnd : noDefer l.toArray = true) (hlen : plan.length ≤ l.toArray.size) (hp : planOk .any l.toArray plan (Array.replicate l.toArray.size false) = true)
    (h : planW Fence.wide 0 P l (okN Q) S plan a w.drew) : (Code.region id l.toArray true).wp P Q a w :=
  (wpIn_wide (n := 0)).1 (region_plan open_wide S plan hm hs hnd hlen hp h)
end
end Go.Proofs.YtlbolnlcncjijaaGreat
namespace Go.Proofs.YtlbolnlcncjijaaGreat
section
variable {F : Fence} {n : Nat} {P : Program} {ops : Array Oper} {Q : Exit → Act → World → Prop} {md : Region.Mode} {S : World → Prop}

def waits (md : Region.Mode) (o : Oper) (j : Nat) : Bool := o.after.any fun e => Region.binds md e && e.on == j
def lastZ (md : Region.Mode) (ops : Array Oper) (i : Nat) : Bool :=
  match ops[i]? with
  | none => false
  | some o => (List.range ops.size).all fun j => j == i || waits md o j || (List.range ops.size).any fun k => waits md o k && match ops[k]? with | none => false | some ok => waits md ok j
def Closed (md : Region.Mode) (ops : Array Oper) (listed : Array Bool) : Prop := ∀ (k : Nat) (ok : Oper), ops[k]? = some ok → listed.getD k false = true → ∀ e ∈ ok.after, Region.binds md e = true → listed.getD e.on false = true
theorem waits_spec {o : Oper} {j : Nat} (h : waits md o j = true) : ∃ e ∈ o.after, Region.binds md e = true ∧ e.on = j := by
  unfold waits at h
  rw [Array.any_eq_true'] at h
  obtain ⟨e, he, hb⟩ := h
  rw [Bool.and_eq_true, beq_iff_eq] at hb
  exact ⟨e, he, hb.1, hb.2⟩
theorem not_lastZ {i j : Nat} {listed : Array Bool} (hcl : Closed md ops listed) (hi : i < ops.size) (hji : j ≠ i) (hj : j ∈ Region.ready md ops listed) (hun : listed.getD i true = false) : ¬ lastZ md ops j = true := by
  obtain ⟨_, oj, hoj, hall⟩ := mem_ready.1 hj
  intro hl
  unfold lastZ at hl
  simp only [hoj, List.all_eq_true, List.mem_range] at hl
  have h1 := hl i hi
  rw [Bool.or_eq_true, Bool.or_eq_true, beq_iff_eq] at h1
  have hf := getD_both hun
  rcases h1 with (h1 | h1) | h1
  · exact hji h1.symm
  · obtain ⟨e, he, hb, ho⟩ := waits_spec h1
    have h2 := hall e he hb
    rw [ho, hf] at h2; cases h2
  · rw [List.any_eq_true] at h1
    obtain ⟨k, _, h2⟩ := h1
    rw [Bool.and_eq_true] at h2
    obtain ⟨e, he, hb, ho⟩ := waits_spec h2.1
    have h3 := hall e he hb
    rw [ho] at h3
    cases hk : ops[k]? with
    | none => rw [hk] at h2; exact absurd h2.2 (by simp)
    | some ok =>
      rw [hk] at h2
      obtain ⟨e', he', hb', ho'⟩ := waits_spec h2.2
      have h4 := hcl k ok hk h3 e' he' hb'
      rw [ho', hf] at h4; cases h4
theorem getD_mono {listed : Array Bool} {i k : Nat} (h : listed.getD k false = true) : (listed.setIfInBounds i true).getD k false = true := by
  by_cases e : i = k
  · subst e
    have hl : i < listed.size := by
      rcases Nat.lt_or_ge i listed.size with h' | h'
      · exact h'
      · simp [h'] at h
    simp [Array.getD, hl]
  · simp only [Array.getD_eq_getD_getElem?] at h ⊢
    rw [Array.getElem?_setIfInBounds_ne e]; exact h
theorem Closed.add {listed : Array Bool} {i : Nat} (hcl : Closed md ops listed) (hr : i ∈ Region.ready md ops listed) : Closed md ops (listed.setIfInBounds i true) := by
  obtain ⟨_, oi, hoi, hall⟩ := mem_ready.1 hr
  intro k ok hk hl e he hb
  by_cases hik : i = k
  · subst hik
    rw [hoi] at hk; cases hk
    exact getD_mono (hall e he hb)
  · refine getD_mono (hcl k ok hk ?_ e he hb)
    simp only [Array.getD_eq_getD_getElem?] at hl ⊢
    rwa [Array.getElem?_setIfInBounds_ne hik] at hl
theorem closed_start (n : Nat) : Closed md ops (Array.replicate n false) := by
  intro k ok _ h
  simp [Array.getD_eq_getD_getElem?, Array.getElem?_replicate] at h
  split at h <;> simp at h

def anyHeldZ (F : Fence) (n : Nat) (P : Program) (md : Region.Mode) (ops : Array Oper) (Q : Exit → Act → World → Prop) (S : World → Prop) : Nat → Array Bool → Act → World → Prop
  | 0, listed, a, w => Region.ready md ops listed = [] ∧ Q .normal a w
  | fuel + 1, listed, a, w =>
    (Region.ready md ops listed = [] → Q .normal a w) ∧
    ∀ i ∈ Region.ready md ops listed, wpOpIn F n P ops Q i (fun a' w' => (S w' ∨ lastZ md ops i = true) ∧ anyHeldZ F n P md ops Q S fuel (listed.setIfInBounds i true) a' w') a w

theorem any_of_heldZ : ∀ (fuel : Nat) (listed : Array Bool) (a : Act) (w : World), anyHeldZ F n P md ops Q S fuel listed a w → wpAnyIn F n P md ops Q fuel listed a w
  | 0, _, _, _, h => h
  | fuel + 1, _, _, _, h => ⟨h.1, fun i hi => wpOpIn_mono (fun a' w' h' => any_of_heldZ fuel _ a' w' h'.2) (h.2 i hi)⟩

theorem held_firstZ (hO : Open F) {i : Nat} {oi : Oper} {v : Value} (hi : ops[i]? = some oi) (hsel : ∀ (j : Nat) (o : Oper) cs b, ops[j]? = some o → o.op ≠ .select cs b) (hnd : noDefer ops = true)
    (hQ : ∀ c a w, Q (.panic c) (a.put oi.dst v) w → Q (.panic c) a w) :
    ∀ (fuel : Nat) (listed : Array Bool) (a : Act) (w : World), Closed md ops listed →
      (∀ j oj, ops[j]? = some oj → j ≠ i → listed.getD j true = false → (∀ e ∈ oj.after, Region.binds md e = true → e.on ≠ i) → oi.apart ops oj = true) →
      i ∈ Region.ready md ops listed → YieldsIf P ops S oi v a → S w →
      anyHeldZ F n P md ops Q S fuel (listed.setIfInBounds i true) (a.put oi.dst v) w → anyHeldZ F n P md ops Q S (fuel + 1) listed a w
  | 0, listed, a, w, _, _, hr, hy, hS, H => by
    refine ⟨fun h => (by rw [h] at hr; cases hr), fun j hj => ?_⟩
    by_cases hji : j = i
    · subst hji; exact yields_op hO hi (noDefer_spec hnd hi) hy hS ⟨.inl hS, H⟩
    · have := ready_mono hj hji
      rw [H.1] at this
      cases this
  | fuel + 1, listed, a, w, hcl, hfree, hr, hy, hS, H => by
    refine ⟨fun h => (by rw [h] at hr; cases hr), fun j hj => ?_⟩
    by_cases hji : j = i
    · subst hji; exact yields_op hO hi (noDefer_spec hnd hi) hy hS ⟨.inl hS, H⟩
    · have h1 := H.2 j (ready_mono hj hji)
      obtain ⟨hjun, oj, hoj, hall⟩ := mem_ready.1 hj
      have hun := (mem_ready.1 hr).1
      have hnot : ∀ e ∈ oj.after, Region.binds md e = true → e.on ≠ i := fun e he hb heq => by
        have h1 := hall e he hb
        rw [heq, getD_both hun] at h1
        cases h1
      have h2 := op_put hO hoj (hfree j oj hoj hji hjun hnot) (fun cs b => hsel i oi cs b hi) (fun cs b => hsel j oj cs b hoj) (noDefer_spec hnd hoj) hQ hy h1
      have hnl : ¬ lastZ md ops j = true := not_lastZ hcl (Array.getElem?_eq_some_iff.1 hi).1 hji hj hun
      refine wpOpIn_mono (fun a' w' h3 => ⟨h3.2.1, held_firstZ hO hi hsel hnd hQ fuel (listed.setIfInBounds j true) a' w' (hcl.add hj) (fun k ok hk hki hku hno => hfree k ok hk hki ?_ hno) (ready_mono hr (Ne.symm hji)) h3.1 (h3.2.1.resolve_right hnl) ?_⟩) h2
      · by_cases hjk : j = k
        · subst hjk; exact hjun
        · rwa [getD_set_ne true hjk] at hku
      · rw [Array.setIfInBounds_comm _ _ hji]
        exact h3.2.2

theorem held_takeZ (hO : Open F) (i : Nat) {oi : Oper} {v : Value} {fuel : Nat} {listed : Array Bool} {a : Act} {w : World} (hi : ops[i]? = some oi)
    (hs : Region.noSelect ops = true) (hnd : noDefer ops = true) (hf : Region.free md ops listed i = true) (hr : (Region.ready md ops listed).contains i = true) (hcl : Closed md ops listed)
    (hQ : ∀ c a w, Q (.panic c) (a.put oi.dst v) w → Q (.panic c) a w) (hS : S w) (hy : YieldsIf P ops S oi v a)
    (h : anyHeldZ F n P md ops Q S fuel (listed.setIfInBounds i true) (a.put oi.dst v) w) : anyHeldZ F n P md ops Q S (fuel + 1) listed a w :=
  held_firstZ hO hi (Region.noSelect_spec hs) hnd hQ fuel listed a w hcl (Region.free_spec hi hf) (by simpa using hr) hy hS h

theorem held_oneZ (i : Nat) {o : Oper} {fuel : Nat} {listed : Array Bool} {a : Act} {w : World} (hr : Region.ready md ops listed = [i]) (ho : ops[i]? = some o)
    (h : ∀ K : Act → World → Prop, (∀ a w, (S w ∨ lastZ md ops i = true) → anyHeldZ F n P md ops Q S fuel (listed.setIfInBounds i true) a w → K a w) →
      if Region.wanted o (yielded ops a.tmps) = true then Oper.wpIn F n P o a w K Q else (∀ f, o.about P w a.eval = some f → F.fn f) ∧ K (a.put o.dst undef) w) : anyHeldZ F n P md ops Q S (fuel + 1) listed a w := by
  refine ⟨fun h0 => (by rw [hr] at h0; cases h0), fun j hj => ?_⟩
  rw [hr] at hj
  obtain rfl : j = i := by simpa using hj
  exact wpOpIn_step ho (fun K' hK => h K' (fun a w hS hW => hK a w ⟨hS, hW⟩))

theorem held_doneZ {listed : Array Bool} {a : Act} {w : World} (hr : Region.ready md ops listed = []) (h : Q .normal a w) : ∀ fuel, anyHeldZ F n P md ops Q S fuel listed a w
  | 0 => ⟨hr, h⟩
  | _ + 1 => ⟨fun _ => h, by rw [hr]; simp⟩

theorem region_heldZ {id : Nat} {a : Act} {w : World} (S : World → Prop) (hm : P.follows .mixedOrders = true)
    (h : anyHeldZ F n P .any ops Q S ops.size (Array.replicate ops.size false) a w.drew) : (Code.region id ops true).wpIn F n P Q a w :=
  wpIn_region_any hm (any_of_heldZ _ _ _ _ h)
theorem held_takeLZ (hO : Open F) (i : Nat) {l : List Oper} {oi : Oper} {v : Value} {fuel : Nat} {listed : Array Bool} {a : Act} {w : World} (hi : nth l i = some oi)
    (hs : Region.noSelect l.toArray = true) (hnd : noDefer l.toArray = true) (hf : Region.free md l.toArray listed i = true) (hr : (Region.ready md l.toArray listed).contains i = true) (hcl : Closed md l.toArray listed)
    (hQ : ∀ c a w, Q (.panic c) (a.put oi.dst v) w → Q (.panic c) a w) (hS : S w) (hy : YieldsIf P l.toArray S oi v a)
    (h : anyHeldZ F n P md l.toArray Q S fuel (listed.setIfInBounds i true) (a.put oi.dst v) w) : anyHeldZ F n P md l.toArray Q S (fuel + 1) listed a w :=
  held_takeZ hO i (nth_ops hi) hs hnd hf hr hcl hQ hS hy h
theorem held_anyLZ (i : Nat) {l : List Oper} {o : Oper} {fuel : Nat} {listed : Array Bool} {a : Act} {w : World} (hr : Region.ready md l.toArray listed = [i]) (ho : nth l i = some o)
    (h : ∀ K : Act → World → Prop, (∀ a w, (S w ∨ lastZ md l.toArray i = true) → anyHeldZ F n P md l.toArray Q S fuel (listed.setIfInBounds i true) a w → K a w) →
      if Region.wanted o (yielded l.toArray a.tmps) = true then Oper.wpIn F n P o a w K Q else (∀ f, o.about P w a.eval = some f → F.fn f) ∧ K (a.put o.dst undef) w) : anyHeldZ F n P md l.toArray Q S (fuel + 1) listed a w :=
  held_oneZ i hr (nth_ops ho) h
def planOkZ (md : Region.Mode) (ops : Array Oper) : List (Nat × Bool) → Array Bool → Bool
  | [], listed => (Region.ready md ops listed).isEmpty
  | (i, true) :: r, listed => Region.free md ops listed i && (Region.ready md ops listed).contains i && planOkZ md ops r (listed.setIfInBounds i true)
  | (i, false) :: r, listed => (Region.ready md ops listed == [i]) && (!r.isEmpty || lastZ md ops i) && planOkZ md ops r (listed.setIfInBounds i true)

def planWZ (F : Fence) (n : Nat) (P : Program) (l : List Oper) (Q : Exit → Act → World → Prop) (S : World → Prop) : List (Nat × Bool) → Act → World → Prop
  | [], a, w => Q .normal a w
  | (i, true) :: r, a, w => ∃ o v, nth l i = some o ∧ S w ∧ YieldsIf P l.toArray S o v a ∧ planWZ F n P l Q S r (a.put o.dst v) w
  | (i, false) :: r, a, w => ∃ o, nth l i = some o ∧ ∀ K : Act → World → Prop, (∀ a w, (S w ∨ r = []) → planWZ F n P l Q S r a w → K a w) →
      if Region.wanted o (yielded l.toArray a.tmps) = true then Oper.wpIn F n P o a w K Q else (∀ f, o.about P w a.eval = some f → F.fn f) ∧ K (a.put o.dst undef) w

theorem held_of_planZ (hO : Open F) {l : List Oper} (hs : Region.noSelect l.toArray = true) (hnd : noDefer l.toArray = true) (hQ : ∀ c a t v w, Q (.panic c) (Act.put a (some t) v) w → Q (.panic c) a w) :
    ∀ (plan : List (Nat × Bool)) (fuel : Nat) (listed : Array Bool) (a : Act) (w : World), Closed .any l.toArray listed → plan.length ≤ fuel → planOkZ .any l.toArray plan listed = true → planWZ F n P l Q S plan a w → anyHeldZ F n P .any l.toArray Q S fuel listed a w
  | [], fuel, listed, a, w, _, _, hp, h => by
    have : Region.ready .any l.toArray listed = [] := by simpa [planOkZ] using hp
    exact held_doneZ this h fuel
  | (i, true) :: r, 0, listed, a, w, _, hf, _, _ => by simp at hf
  | (i, false) :: r, 0, listed, a, w, _, hf, _, _ => by simp at hf
  | (i, true) :: r, fuel + 1, listed, a, w, hcl, hf, hp, ⟨o, v, ho, hS, hy, h⟩ => by
    simp only [planOkZ, Bool.and_eq_true] at hp
    exact held_takeLZ hO i ho hs hnd hp.1.1 hp.1.2 hcl (fun c a w h => (match o.dst, h with | none, h => h | some t, h => hQ c a t v w h)) hS hy (held_of_planZ hO hs hnd hQ r fuel _ _ w (hcl.add (by simpa using hp.1.2)) (by simpa using hf) hp.2 h)
  | (i, false) :: r, fuel + 1, listed, a, w, hcl, hf, hp, ⟨o, ho, h⟩ => by
    simp only [planOkZ, Bool.and_eq_true, Bool.or_eq_true, Bool.not_eq_true', beq_iff_eq] at hp
    exact held_anyLZ i hp.1.1 ho (fun K hK => h K (fun a w hS hW => hK a w (hS.imp id (fun e => hp.1.2.resolve_left (by rw [e]; simp))) (held_of_planZ hO hs hnd hQ r fuel _ a w (hcl.add (by rw [hp.1.1]; simp)) (by simpa using hf) hp.2 hW)))

theorem region_planZ (hO : Open F) {id : Nat} {l : List Oper} {a : Act} {w : World} (S : World → Prop) (plan : List (Nat × Bool)) (hm : P.follows .mixedOrders = true)
    (hs : Region.noSelect l.toArray = true) (hnd : noDefer l.toArray = true) (hlen : plan.length ≤ l.toArray.size) (hp : planOkZ .any l.toArray plan (Array.replicate l.toArray.size false) = true)
    (h : planWZ F n P l (okN Q) S plan a w.drew) : (Code.region id l.toArray true).wpIn F n P Q a w := by
  refine wpIn_mono (region_heldZ S hm (held_of_planZ hO hs hnd (Q := okN Q) (fun c a t v w h => h) plan _ _ a _ (closed_start _) hlen hp h)) ?_
  intro e a' w' hq
  cases e <;> first | exact hq | exact hq.elim

theorem plan_takeZ {l : List Oper} {i : Nat} {r : List (Nat × Bool)} {a : Act} {w : World} {o : Oper} (v : Value) (ho : nth l i = some o) (hS : S w) (hw : Region.wanted o (yielded l.toArray a.tmps) = true)
    (hy : ∀ w', S w' → (execOp a.eval o).run P w' = .ok (.value v) w') (h : planWZ F n P l Q S r (a.put o.dst v) w) : planWZ F n P l Q S ((i, true) :: r) a w :=
  ⟨o, v, ho, hS, .inl ⟨hw, hy⟩, h⟩
theorem plan_skipZ {l : List Oper} {i : Nat} {r : List (Nat × Bool)} {a : Act} {w : World} {o : Oper} (ho : nth l i = some o) (hS : S w) (hw : Region.wanted o (yielded l.toArray a.tmps) = false)
    (h : planWZ F n P l Q S r (a.put o.dst undef) w) : planWZ F n P l Q S ((i, true) :: r) a w :=
  ⟨o, undef, ho, hS, .inr ⟨hw, rfl⟩, h⟩
theorem plan_oneZ {l : List Oper} {i : Nat} {r : List (Nat × Bool)} {a : Act} {w : World} {o : Oper} (ho : nth l i = some o) (hw : Region.wanted o (yielded l.toArray a.tmps) = true)
    (h : ∀ K : Act → World → Prop, (∀ a w, S w → planWZ F n P l Q S r a w → K a w) → Oper.wpIn F n P o a w K Q) : planWZ F n P l Q S ((i, false) :: r) a w :=
  ⟨o, ho, fun K hK => by rw [if_pos hw]; exact h K (fun a w hS => hK a w (.inl hS))⟩
theorem region_planWZ {id : Nat} {l : List Oper} {a : Act} {w : World} (S : World → Prop) (plan : List (Nat × Bool)) (hm : P.follows .mixedOrders = true)
    (hs : Region.noSelect l.toArray = true) (hnd : noDefer l.toArray = true) (hlen : plan.length ≤ l.toArray.size) (hp : planOkZ .any l.toArray plan (Array.replicate l.toArray.size false) = true)
    (h : planWZ Fence.wide 0 P l (okN Q) S plan a w.drew) : (Code.region id l.toArray true).wp P Q a w :=
  (wpIn_wide (n := 0)).1 (region_planZ open_wide S plan hm hs hnd hlen hp h)
theorem plan_endZ {l : List Oper} {i : Nat} {a : Act} {w : World} {o : Oper} (ho : nth l i = some o) (hw : Region.wanted o (yielded l.toArray a.tmps) = true)
    (h : ∀ K : Act → World → Prop, (∀ a w, planWZ F n P l Q S [] a w → K a w) → Oper.wpIn F n P o a w K Q) : planWZ F n P l Q S [(i, false)] a w :=
  ⟨o, ho, fun K hK => by rw [if_pos hw]; exact h K (fun a w => hK a w (.inr rfl))⟩
end
end Go.Proofs.YtlbolnlcncjijaaGreat
namespace Go.Proofs.YtlbolnlcncjijaaGreat
section
variable {F : Fence} {n : Nat} {P : Program} {ops : Array Oper} {Q : Exit → Act → World → Prop} {md : Region.Mode} {S : World → Prop}

def depsG (md : Region.Mode) (ops : Array Oper) (k : Nat) : List Nat :=
  match ops[k]? with
  | none => []
  | some o => (List.range ops.size).filter fun i => waits md o i
def ancG (md : Region.Mode) (ops : Array Oper) : Nat → List Nat → List Nat
  | 0, S => S
  | k + 1, S => ancG md ops k (if S.elem k then S ++ (depsG md ops k).filter fun x => !S.elem x else S)
def pureO (o : Oper) : Bool := match o.op with
  | .move _ => true
  | .assign _ => true
  | .unOp .not _ _ => true
  | _ => false
def pureAt (ops : Array Oper) (j : Nat) : Bool := match ops[j]? with
  | some o => pureO o
  | none => false
theorem pure_run {P : Program} {o : Oper} (h : pureO o = true) {ev : Operand → Value} {w : World} {v : Value} (hr : (execOp ev o).run P w = .ok (.value v) w) (w' : World) : (execOp ev o).run P w' = .ok (.value v) w' := by
  obtain ⟨dst, op, type, pos, after, guard⟩ := o
  unfold pureO at h
  simp only at h
  split at h
  · simp_all [execOp]
  · simp_all [execOp]
  · rename_i x y
    simp only [execOp] at hr ⊢
    generalize ev y = u at hr ⊢
    cases u <;> simp_all [Op.unary]
  · cases h
theorem pure_yields {P : Program} {ops : Array Oper} {S : World → Prop} {o : Oper} {v : Value} {a : Act} {w : World} (h : pureO o = true) (hS : S w) (hy : YieldsIf P ops S o v a) : YieldsIf P ops (fun _ => True) o v a := by
  rcases hy with ⟨h1, h2⟩ | h1
  · exact .inl ⟨h1, fun w' _ => pure_run h (h2 w hS) w'⟩
  · exact .inr h1
def lastG (md : Region.Mode) (ops : Array Oper) (i : Nat) : Bool := (List.range ops.size).all fun j => j == i || (ancG md ops (i + 1) [i]).elem j || (ancG md ops (j + 1) [j]).elem i || pureAt ops j
theorem deps_listed {k x : Nat} {listed : Array Bool} (hcl : Closed md ops listed) (hk : k ∈ Region.ready md ops listed ∨ listed.getD k false = true) (h : x ∈ depsG md ops k) : listed.getD x false = true := by
  unfold depsG at h
  cases ho : ops[k]? with
  | none => rw [ho] at h; exact absurd h (by simp)
  | some o =>
    rw [ho] at h
    have hw := (List.mem_filter.1 h).2
    obtain ⟨e, he, hb, ho2⟩ := waits_spec hw
    rcases hk with hk | hk
    · obtain ⟨_, oj, hoj, hall⟩ := mem_ready.1 hk
      rw [ho] at hoj
      cases hoj
      have h2 := hall e he hb
      rwa [ho2] at h2
    · have h2 := hcl k o ho hk e he hb
      rwa [ho2] at h2
theorem anc_listed {j : Nat} {listed : Array Bool} (hcl : Closed md ops listed) (hj : j ∈ Region.ready md ops listed) : ∀ (n : Nat) (S : List Nat), (∀ x ∈ S, x = j ∨ listed.getD x false = true) → ∀ x ∈ ancG md ops n S, x = j ∨ listed.getD x false = true
  | 0, _, hS => hS
  | k + 1, S, hS => by
    refine anc_listed hcl hj k _ ?_
    split
    · rename_i hk
      have hk2 := List.mem_of_elem_eq_true hk
      intro x hx
      rcases List.mem_append.1 hx with h | h
      · exact hS x h
      · refine .inr (deps_listed hcl ?_ (List.mem_filter.1 h).1)
        rcases hS k hk2 with h | h
        · exact .inl (h ▸ hj)
        · exact .inr h
    · exact hS
theorem not_lastG {i j : Nat} {listed : Array Bool} (hcl : Closed md ops listed) (hi : i < ops.size) (hji : j ≠ i) (hj : j ∈ Region.ready md ops listed) (hr : i ∈ Region.ready md ops listed) (hl : lastG md ops j = true) : pureAt ops i = true := by
  have hui := getD_both (mem_ready.1 hr).1
  have huj := getD_both (mem_ready.1 hj).1
  unfold lastG at hl
  simp only [List.all_eq_true, List.mem_range] at hl
  have h1 := hl i hi
  rw [Bool.or_eq_true, Bool.or_eq_true, Bool.or_eq_true, beq_iff_eq] at h1
  rcases h1 with ((h1 | h1) | h1) | h1
  · exact absurd h1.symm hji
  · rcases anc_listed hcl hj _ _ (by simp) i (List.mem_of_elem_eq_true h1) with h | h
    · exact absurd h.symm hji
    · rw [h] at hui; cases hui
  · rcases anc_listed hcl hr _ _ (by simp) j (List.mem_of_elem_eq_true h1) with h | h
    · exact absurd h hji
    · rw [h] at huj; cases huj
  · exact h1

def anyHeldG (F : Fence) (n : Nat) (P : Program) (md : Region.Mode) (ops : Array Oper) (Q : Exit → Act → World → Prop) : Nat → (World → Prop) → Array Bool → Act → World → Prop
  | 0, _, listed, a, w => Region.ready md ops listed = [] ∧ Q .normal a w
  | fuel + 1, S, listed, a, w =>
    (Region.ready md ops listed = [] → Q .normal a w) ∧
    ∀ i ∈ Region.ready md ops listed, wpOpIn F n P ops Q i (fun a' w' => (S w' ∧ anyHeldG F n P md ops Q fuel S (listed.setIfInBounds i true) a' w') ∨ (lastG md ops i = true ∧ anyHeldG F n P md ops Q fuel (fun _ => True) (listed.setIfInBounds i true) a' w')) a w

theorem any_of_heldG : ∀ (fuel : Nat) (S : World → Prop) (listed : Array Bool) (a : Act) (w : World), anyHeldG F n P md ops Q fuel S listed a w → wpAnyIn F n P md ops Q fuel listed a w
  | 0, _, _, _, _, h => h
  | fuel + 1, _, _, _, _, h => ⟨h.1, fun i hi => wpOpIn_mono (fun a' w' h' => by
      rcases h' with h' | h'
      · exact any_of_heldG fuel _ _ a' w' h'.2
      · exact any_of_heldG fuel _ _ a' w' h'.2) (h.2 i hi)⟩
theorem anyHeldG_mono {S S' : World → Prop} (hS : ∀ w, S w → S' w) : ∀ (fuel : Nat) (listed : Array Bool) (a : Act) (w : World), anyHeldG F n P md ops Q fuel S listed a w → anyHeldG F n P md ops Q fuel S' listed a w
  | 0, _, _, _, h => h
  | fuel + 1, _, _, _, h => ⟨h.1, fun i hi => wpOpIn_mono (fun _ _ h' => h'.imp (fun h' => ⟨hS _ h'.1, anyHeldG_mono hS fuel _ _ _ h'.2⟩) id) (h.2 i hi)⟩

theorem held_firstG (hO : Open F) {i : Nat} {oi : Oper} {v : Value} (hi : ops[i]? = some oi) (hsel : ∀ (j : Nat) (o : Oper) cs b, ops[j]? = some o → o.op ≠ .select cs b) (hnd : noDefer ops = true)
    (hQ : ∀ c a w, Q (.panic c) (a.put oi.dst v) w → Q (.panic c) a w) :
    ∀ (fuel : Nat) (S : World → Prop) (listed : Array Bool) (a : Act) (w : World), Closed md ops listed →
      (∀ j oj, ops[j]? = some oj → j ≠ i → listed.getD j true = false → (∀ e ∈ oj.after, Region.binds md e = true → e.on ≠ i) → oi.apart ops oj = true) →
      i ∈ Region.ready md ops listed → YieldsIf P ops S oi v a → S w →
      anyHeldG F n P md ops Q fuel S (listed.setIfInBounds i true) (a.put oi.dst v) w → anyHeldG F n P md ops Q (fuel + 1) S listed a w
  | 0, S, listed, a, w, _, _, hr, hy, hS, H => by
    refine ⟨fun h => (by rw [h] at hr; cases hr), fun j hj => ?_⟩
    by_cases hji : j = i
    · subst hji; exact yields_op hO hi (noDefer_spec hnd hi) hy hS (.inl ⟨hS, H⟩)
    · have := ready_mono hj hji
      rw [H.1] at this
      cases this
  | fuel + 1, S, listed, a, w, hcl, hfree, hr, hy, hS, H => by
    refine ⟨fun h => (by rw [h] at hr; cases hr), fun j hj => ?_⟩
    by_cases hji : j = i
    · subst hji; exact yields_op hO hi (noDefer_spec hnd hi) hy hS (.inl ⟨hS, H⟩)
    · have h1 := H.2 j (ready_mono hj hji)
      obtain ⟨hjun, oj, hoj, hall⟩ := mem_ready.1 hj
      have hun := (mem_ready.1 hr).1
      have hnot : ∀ e ∈ oj.after, Region.binds md e = true → e.on ≠ i := fun e he hb heq => by
        have h1 := hall e he hb
        rw [heq, getD_both hun] at h1
        cases h1
      have h2 := op_put hO hoj (hfree j oj hoj hji hjun hnot) (fun cs b => hsel i oi cs b hi) (fun cs b => hsel j oj cs b hoj) (noDefer_spec hnd hoj) hQ hy h1
      have hnl : lastG md ops j = true → pureAt ops i = true := not_lastG hcl (Array.getElem?_eq_some_iff.1 hi).1 hji hj hr
      refine wpOpIn_mono (fun a' w' h3 => ?_) h2
      obtain ⟨hy', h3⟩ := h3
      rcases h3 with ⟨hS', h3⟩ | ⟨h3, h4⟩
      · refine .inl ⟨hS', held_firstG hO hi hsel hnd hQ fuel S (listed.setIfInBounds j true) a' w' (hcl.add hj) (fun k ok hk hki hku hno => hfree k ok hk hki ?_ hno) (ready_mono hr (Ne.symm hji)) hy' hS' ?_⟩
        · by_cases hjk : j = k
          · subst hjk; exact hjun
          · rwa [getD_set_ne true hjk] at hku
        · rw [Array.setIfInBounds_comm _ _ hji]
          exact h3
      · have hp := hnl h3
        unfold pureAt at hp
        rw [hi] at hp
        refine .inr ⟨h3, held_firstG hO hi hsel hnd hQ fuel (fun _ => True) (listed.setIfInBounds j true) a' w' (hcl.add hj) (fun k ok hk hki hku hno => hfree k ok hk hki ?_ hno) (ready_mono hr (Ne.symm hji)) (pure_yields hp hS hy') trivial ?_⟩
        · by_cases hjk : j = k
          · subst hjk; exact hjun
          · rwa [getD_set_ne true hjk] at hku
        · rw [Array.setIfInBounds_comm _ _ hji]
          exact h4

theorem held_doneG {S : World → Prop} {listed : Array Bool} {a : Act} {w : World} (hr : Region.ready md ops listed = []) (h : Q .normal a w) : ∀ fuel, anyHeldG F n P md ops Q fuel S listed a w
  | 0 => ⟨hr, h⟩
  | _ + 1 => ⟨fun _ => h, by rw [hr]; simp⟩
theorem region_heldG {id : Nat} {a : Act} {w : World} (S : World → Prop) (hm : P.follows .mixedOrders = true)
    (h : anyHeldG F n P .any ops Q ops.size S (Array.replicate ops.size false) a w.drew) : (Code.region id ops true).wpIn F n P Q a w :=
  wpIn_region_any hm (any_of_heldG _ _ _ _ _ h)
theorem held_takeLG (hO : Open F) (i : Nat) {l : List Oper} {oi : Oper} {v : Value} {fuel : Nat} {listed : Array Bool} {a : Act} {w : World} (hi : nth l i = some oi)
    (hs : Region.noSelect l.toArray = true) (hnd : noDefer l.toArray = true) (hf : Region.free md l.toArray listed i = true) (hr : (Region.ready md l.toArray listed).contains i = true) (hcl : Closed md l.toArray listed)
    (hQ : ∀ c a w, Q (.panic c) (a.put oi.dst v) w → Q (.panic c) a w) (hS : S w) (hy : YieldsIf P l.toArray S oi v a)
    (h : anyHeldG F n P md l.toArray Q fuel S (listed.setIfInBounds i true) (a.put oi.dst v) w) : anyHeldG F n P md l.toArray Q (fuel + 1) S listed a w :=
  held_firstG hO (nth_ops hi) (Region.noSelect_spec hs) hnd hQ fuel S listed a w hcl (Region.free_spec (nth_ops hi) hf) (by simpa using hr) hy hS h
theorem held_anyLG (i : Nat) {l : List Oper} {o : Oper} {fuel : Nat} {listed : Array Bool} {a : Act} {w : World} (hr : Region.ready md l.toArray listed = [i]) (ho : nth l i = some o)
    (h : ∀ K : Act → World → Prop, (∀ a w, ((S w ∧ anyHeldG F n P md l.toArray Q fuel S (listed.setIfInBounds i true) a w) ∨ (lastG md l.toArray i = true ∧ anyHeldG F n P md l.toArray Q fuel (fun _ => True) (listed.setIfInBounds i true) a w)) → K a w) →
      if Region.wanted o (yielded l.toArray a.tmps) = true then Oper.wpIn F n P o a w K Q else (∀ f, o.about P w a.eval = some f → F.fn f) ∧ K (a.put o.dst undef) w) : anyHeldG F n P md l.toArray Q (fuel + 1) S listed a w := by
  refine ⟨fun h0 => (by rw [hr] at h0; cases h0), fun j hj => ?_⟩
  rw [hr] at hj
  obtain rfl : j = i := by simpa using hj
  exact wpOpIn_step (nth_ops ho) (fun K' hK => h K' (fun a w hS => hK a w hS))
end
end Go.Proofs.YtlbolnlcncjijaaGreat
namespace Go.Proofs.YtlbolnlcncjijaaGreat
open Go.RowKit

inductive AX where
  | t (n : Nat)
  | c (x : PV)

inductive CK where
  | b
  | i
  | s

inductive AK where
  | mv (x : AX)
  | pick (c a b : AX)
  | box (n : Nat) (x : AX)
  | new (z : PV)
  | build (z : List PV) (ps : List (Nat × Nat × AX))
  | bslice (m : Bool) (e : TypeId) (sz n : Nat) (z : List PV) (ps : List (Nat × Nat × AX))
  | ld (n : Option Nat) (x : AX)
  | st (n : Nat) (a x : AX)
  | fld (off : Nat) (n : Option Nat) (x : AX)
  | fadr (off : Nat) (x : AX)
  | iadrS (sz : Nat) (x i : AX)
  | iadrA (sz len : Nat) (x i : AX)
  | idx (sz len : Nat) (n : Option Nat) (x i : AX)
  | bin (b : Bool) (op : BinOp) (x y : AX)
  | eqs (ks : List CK) (ne : Bool) (x y : AX)
  | un (op : UnOp) (x : AX)
  | conv (k : IntKind) (x : AX)
  | ext (x : AX) (i : Nat)
  | len (x : AX)
  | mx (isMax : Bool) (xs : List AX)
  | app (m : Bool) (e : TypeId) (sz bytes : Nat) (z : List PV) (x y : AX)
  | slc (sz : Nat) (x : AX) (lo hi mx : Option AX)
  | mks (m : Bool) (e : TypeId) (sz bytes : Nat) (z : List PV) (l c : AX)
  | mkf (f : FuncId) (fi cap : List AX)
  | call (f : FuncId) (args : List AX)
  | callv (f : AX) (args : List AX)
  | nilc (x : AX)
  | nilS (ne : Bool) (x : AX)
  | mkm
  | lkp (ks : List CK) (ag : Bool) (z : PV) (ok : Bool) (x i : AX)
  | mup (ks : List CK) (ag : Bool) (x i v : AX)
  | slcA (sz len : Nat) (x : AX) (lo hi : Option AX)

structure AOp where
  dst : Option Nat
  k : AK
  guard : Option (Nat × Bool)
  i : Nat
  tk : Bool
  lst : Bool

inductive AT where
  | fin
  | op (o : AOp) (r : AT)
  | fk (o1 o2 : AOp) (r1 r2 : AT)
  | alt (o : AOp) (r s : AT)

inductive AC where
  | skip
  | ops (l : List AOp)
  | seq (a b : AC)
  | cond (c : AX) (a b : AC)
  | block (id : Nat) (a : AC)
  | loop (a : AC)
  | exit (id : Nat)
  | ret
  | rng (f : AX) (ps : List Nat) (a b : AC)
  | tree (t : AT)
  | stop

def cx : Operand → Option AX
  | .tmp t => some (.t t)
  | .const v => some (.c (ofConst v))
  | .func f => some (.c (.val (.func (.func f) #[] #[])))
  | .global _ => none

section
variable (P : Program) (mu : Nat → Bool)
def shapeN (t : TypeId) : Option (Option Nat) :=
  match P.underlying t, P.info? t with
  | some (.struct _), some i => some (some i.size)
  | some (.array _ _), some i => some (some i.size)
  | some _, some i => if i.size = 1 then some none else none
  | _, _ => none
def sizeN (t : TypeId) : Option Nat := (P.info? t).map (·.size)
def zeroN (t : TypeId) : Option (List PV) := (P.info? t).bind fun i => i.zero.bind fun z => match ofConst z with
  | .agg cs => some cs
  | .any => none
  | x => some [x]
def cxs : List Operand → Option (List AX)
  | [] => some []
  | x :: l => match cx x, cxs l with
    | some a, some r => some (a :: r)
    | _, _ => none
def cparts (fs : Nat → Option (Nat × Nat)) : List (Nat × Operand) → Option (List (Nat × Nat × AX))
  | [] => some []
  | (i, x) :: l => match fs i, cx x, cparts fs l with
    | some (o, n), some a, some r => some ((o, n, a) :: r)
    | _, _, _ => none
def flatFs (f : TypeId → Option (List CK)) : List Field → Nat → Option (List CK)
  | [], _ => some []
  | x :: r, at_ => if x.name != "_" && x.offset == at_ then match f x.type, flatFs f r (at_ + ((P.info? x.type).map (·.size)).getD 0) with
      | some l, some m => if (P.info? x.type).map (·.size) = some l.length then some (l ++ m) else none
      | _, _ => none
    else none
def flatK : Nat → TypeId → Option (List CK)
  | 0, _ => none
  | d + 1, t => match P.underlying t with
    | some .bool => some [.b]
    | some (.int _) => some [.i]
    | some .string => some [.s]
    | some (.struct fs) => if P.stoodInHeld t then none else flatFs P (flatK d) fs.toList 0
    | some (.array n e) => match flatK d e with
      | some l => if (P.info? e).map (·.size) = some l.length then some (List.replicate n l).flatten else none
      | none => none
    | _ => none
def keyK (t : TypeId) : Option (Bool × List CK) :=
  match P.underlying t with
  | some (.struct _) | some (.array _ _) => if P.eqGuardType P.depth t = false then (flatK P 100 t).map (true, ·) else none
  | some .bool | some (.int _) | some .string => (flatK P 100 t).map (false, ·)
  | _ => none
def cop (o : Oper) : Option AK :=
  match o.op with
  | .move x | .assign x => (cx x).map .mv
  | .pick c a b => match cx c, cx a, cx b with | some c, some a, some b => some (.pick c a b) | _, _, _ => none
  | .box t x => match sizeN P t, cx x with | some n, some x => some (.box n x) | _, _ => none
  | .alloc t => match (P.info? t).bind (·.zero) with
    | some (.map none) => some (.new (.tup [.any]))
    | some z => some (.new (ofConst z))
    | none => none
  | .build t ps => match P.underlying t, zeroN P t with
    | some (.struct fs), some z => match fs.toList.mapM (fun f => (P.info? f.type).map fun i => (f.offset, i.size)) with
      | some places => (cparts (places.toArray[·]?) ps.toList).map (.build z)
      | none => none
    | some (.array _ e), some z => match P.info? e with
      | some ie => (cparts (fun i => some (i * ie.size, ie.size)) ps.toList).map (.build z)
      | none => none
    | _, _ => none
  | .buildSlice t n ps => match P.underlying t with
    | some (.slice e) => match sizeN P e, zeroN P e with
      | some sz, some z => if n * sz ≤ 1000 ∧ 0 < sz ∧ z.length = sz then (cparts (fun i => some (i * sz, sz)) ps.toList).map (.bslice (o.dst.any mu) e sz n z) else none
      | _, _ => none
    | _ => none
  | .load t x => match shapeN P t, cx x with | some n, some x => some (.ld n x) | _, _ => none
  | .store t a x => match sizeN P t, cx a, cx x with | some n, some a, some x => some (.st n a x) | _, _, _ => none
  | .field t x i => match P.underlying t with
    | some (.struct fs) => match fs[i]?, cx x with
      | some f, some x => (shapeN P f.type).map fun n => .fld f.offset n x
      | _, _ => none
    | _ => none
  | .fieldAddr t x i => match P.underlying t with
    | some (.struct fs) => match fs[i]?, cx x with
      | some f, some x => match sizeN P f.type with | some (_ + 1) => some (.fadr f.offset x) | _ => none
      | _, _ => none
    | _ => none
  | .indexAddr t x i => match P.underlying t, cx x, cx i with
    | some (.slice e), some x, some i => (sizeN P e).map fun n => .iadrS n x i
    | some (.array len e), some x, some i => (sizeN P e).map fun n => .iadrA n len x i
    | _, _, _ => none
  | .index t x i => match P.underlying t, cx x, cx i with
    | some (.array len e), some x, some i => match sizeN P e, shapeN P e with | some n, some s => some (.idx n len s x i) | _, _ => none
    | _, _, _ => none
  | .binOp op t x y _ => match P.underlying t, cx x, cx y with
    | some (.struct _), some x, some y | some (.array _ _), some x, some y => match op, flatK P 100 t with
      | .eql, some ks => if P.eqGuardType P.depth t = false then some (.eqs ks false x y) else none
      | .neq, some ks => if P.eqGuardType P.depth t = false then some (.eqs ks true x y) else none
      | _, _ => none
    | some .bool, some x, some y => some (.bin true op x y)
    | some (.int _), some x, some y => some (.bin false op x y)
    | some (.slice _), some x, some _ => match op, y with
      | .eql, .const (.slice none 0 0) => some (.nilS false x)
      | .neq, .const (.slice none 0 0) => some (.nilS true x)
      | _, _ => none
    | _, _, _ => none
  | .unOp op _ x => (cx x).map (.un op)
  | .convert s d x => match P.underlying s, P.underlying d, cx x with
    | some (.int _), some (.int k), some x => some (.conv k x)
    | _, _, _ => none
  | .extract x i => (cx x).map fun x => .ext x i
  | .slice t x lo hi m => match P.underlying t, cx x with
    | some (.slice e), some x => match sizeN P e, lo.mapM cx, hi.mapM cx, m.mapM cx with
      | some n, some lo', some hi', some m' => if m.isSome && hi.isNone then none else some (.slc n x lo' hi' m')
      | _, _, _, _ => none
    | some (.array len e), some x => match m, sizeN P e, lo.mapM cx, hi.mapM cx with
      | none, some n, some lo', some hi' => if len ≤ 1000000 ∧ 0 < n then some (.slcA n len x lo' hi') else none
      | _, _, _, _ => none
    | _, _ => none
  | .makeSlice t l c => match P.underlying t with
    | some (.slice e) => match P.info? e, zeroN P e, cx l, cx c with
      | some i, some z, some l, some c => if 0 < i.size ∧ z.length = i.size ∧ i.bytes ≤ 1000 then some (.mks (o.dst.any mu) e i.size i.bytes z l c) else none
      | _, _, _, _ => none
    | _ => none
  | .makeFunc (.func f) fi cap => match cxs fi.toList, cxs cap.toList with | some a, some b => some (.mkf f a b) | _, _ => none
  | .nilCheck x => (cx x).map .nilc
  | .makeMap _ none => some .mkm
  | .lookup t x i ok => match P.underlying t with
    | some (.map k e) => match keyK P k, (P.info? e).bind (·.zero), cx x, cx i with
      | some (ag, ks), some z, some x, some i => some (.lkp ks ag (ofConst z) ok x i)
      | _, _, _, _ => none
    | _ => none
  | .mapUpdate t x i v => match P.underlying t with
    | some (.map k _) => match keyK P k, cx x, cx i, cx v with
      | some (ag, ks), some x, some i, some v => some (.mup ks ag x i v)
      | _, _, _, _ => none
    | _ => none
  | .call c => match c.callee with
    | .builtin .len => match c.argTypes[0]?, c.args.toList with
      | some t, [x] => match P.underlying t, cx x with | some (.slice _), some x => some (.len x) | _, _ => none
      | _, _ => none
    | .builtin .max => (cxs c.args.toList).map (.mx true)
    | .builtin .min => (cxs c.args.toList).map (.mx false)
    | .builtin .append => match c.argTypes.toList, c.args.toList with
      | [t, u], [x, y] => if t = u then match P.underlying t with
          | some (.slice e) => match P.info? e, zeroN P e, cx x, cx y with
            | some i, some z, some x, some y => if 0 < i.size ∧ z.length = i.size ∧ i.bytes ≤ 1000 then some (.app (o.dst.any mu) e i.size i.bytes z x y) else none
            | _, _, _, _ => none
          | _ => none
        else none
      | _, _ => none
    | .value (.func f) => (cxs c.args.toList).map (.call f)
    | .value x => match cx x, cxs c.args.toList with | some x, some l => some (.callv x l) | _, _ => none
    | _ => none
  | _ => none

def AK.still : AK → Bool
  | .mv _ | .pick .. | .build .. | .ld .. | .fld .. | .fadr .. | .iadrS .. | .iadrA .. | .idx .. | .bin .. | .eqs .. | .un .. | .conv .. | .ext .. | .len .. | .mx .. | .slc .. | .mkf .. | .nilc .. | .lkp .. => true
  | _ => false

def cguard (ops : List Oper) (o : Oper) : Option (Option (Nat × Bool)) :=
  match o.guard with
  | none => some none
  | some (j, b) => match nth ops j with
    | some p => p.dst.map fun d => some (d, b)
    | none => none
def cOper (nt : Nat) (ops : List Oper) (o : Oper) (i : Nat) (tk lst : Bool) : Option AOp :=
  match cop P mu o, cguard ops o with
  | some k, some g => if (o.dst.all fun d => decide (d < nt)) && (!tk || k.still) then some ⟨o.dst, k, g, i, tk, lst⟩ else none
  | _, _ => none

inductive PTr where
  | fin
  | tk (i : Nat) (r : PTr)
  | on (i : Nat) (r : PTr)
  | fk (i j : Nat) (r s : PTr)
  | alt (i : Nat) (r s : PTr)
def PTr.depth : PTr → Nat
  | .fin => 0
  | .tk _ r => r.depth + 1
  | .on _ r => r.depth + 1
  | .fk _ _ r s => max r.depth s.depth + 1
  | .alt _ r s => max (r.depth + 1) s.depth
def PTr.isFin : PTr → Bool
  | .fin => true
  | _ => false
def okTrX (ops : Array Oper) : PTr → Array Bool → List Nat → Bool
  | .fin, listed, _ => (Region.ready .any ops listed).isEmpty
  | .tk i r, listed, _ => Region.free .any ops listed i && (Region.ready .any ops listed).contains i && okTrX ops r (listed.setIfInBounds i true) []
  | .on i r, listed, ex => ((Region.ready .any ops listed).contains i && (Region.ready .any ops listed).all fun k => k == i || ex.contains k) && okTrX ops r (listed.setIfInBounds i true) []
  | .fk i j r s, listed, _ => (Region.ready .any ops listed == [i, j]) && okTrX ops r (listed.setIfInBounds i true) [] && okTrX ops s (listed.setIfInBounds j true) []
  | .alt i r s, listed, ex => (Region.ready .any ops listed).contains i && okTrX ops r (listed.setIfInBounds i true) [] && okTrX ops s listed (i :: ex)
def okTr (ops : Array Oper) (t : PTr) (listed : Array Bool) : Bool := okTrX ops t listed []

def pickFirst (ops : List Oper) (listed : Array Bool) : List Nat → Option Nat
  | [] => none
  | i :: r => match nth ops i with
    | some o => match cop P mu o with
      | some k => if k.still && Region.free .any ops.toArray listed i then some i else pickFirst ops listed r
      | none => none
    | none => none
def findPlan (ops : List Oper) : Nat → Array Bool → Option (List (Nat × Bool))
  | 0, listed => if (Region.ready .any ops.toArray listed).isEmpty then some [] else none
  | f + 1, listed => match Region.ready .any ops.toArray listed with
    | [] => some []
    | rs => match pickFirst P mu ops listed rs with
      | some i => (findPlan ops f (listed.setIfInBounds i true)).map ((i, true) :: ·)
      | none => match rs with
        | [i] => (findPlan ops f (listed.setIfInBounds i true)).map ((i, false) :: ·)
        | _ => none
def selfR (ops : Array Oper) : Bool := (List.range ops.size).any fun i => match ops[i]? with
  | some o => match o.op with
    | .store _ (.tmp a) (.tmp x) => !lastG .any ops i && ops.any fun p => p.dst == some x && match p.op with
      | .load _ (.tmp b) => a == b
      | _ => false
    | _ => false
  | none => false
def pickTree (slf : Bool) (ops : List Oper) (listed : Array Bool) (rs : List Nat) : Option Nat := if slf then none else pickFirst P mu ops listed rs
def findTree (slf : Bool) (ops : List Oper) : Nat → Array Bool → Option PTr
  | 0, listed => if (Region.ready .any ops.toArray listed).isEmpty then some .fin else none
  | f + 1, listed => match Region.ready .any ops.toArray listed with
    | [] => some .fin
    | rs => match pickTree P mu slf ops listed rs with
      | some i => (findTree slf ops f (listed.setIfInBounds i true)).map (.tk i)
      | none => match rs with
        | [i] => (findTree slf ops f (listed.setIfInBounds i true)).map (.on i)
        | [i, j] => match findTree slf ops f (listed.setIfInBounds i true), findTree slf ops f (listed.setIfInBounds j true) with
          | some r, some s => some (.fk i j r s)
          | _, _ => none
        | [i, j, k] => match findTree slf ops f (listed.setIfInBounds i true), findTree slf ops f (listed.setIfInBounds j true), findTree slf ops f (listed.setIfInBounds k true) with
          | some r, some s, some q => some (.alt i r (.alt j s (.on k q)))
          | _, _, _ => none
        | [i, j, k, l] => match findTree slf ops f (listed.setIfInBounds i true), findTree slf ops f (listed.setIfInBounds j true), findTree slf ops f (listed.setIfInBounds k true), findTree slf ops f (listed.setIfInBounds l true) with
          | some r, some s, some q, some u => some (.alt i r (.alt j s (.alt k q (.on l u))))
          | _, _, _, _ => none
        | _ => none
def cTree (nt : Nat) (ops : List Oper) (lst : Nat → Bool) : PTr → Option AT
  | .fin => some .fin
  | .tk i r => match nth ops i with
    | some o => match cOper P mu nt ops o i true false, cTree nt ops lst r with
      | some a, some t => some (.op a t)
      | _, _ => none
    | none => none
  | .on i r => match nth ops i with
    | some o => match cOper P mu nt ops o i false (lst i), cTree nt ops lst r with
      | some a, some t => some (.op a t)
      | _, _ => none
    | none => none
  | .fk i j r s => match nth ops i, nth ops j with
    | some o, some o2 => match cOper P mu nt ops o i false false, cTree nt ops lst r, cOper P mu nt ops o2 j false false, cTree nt ops lst s with
      | some a, some t, some a2, some t2 => some (.fk a a2 t t2)
      | _, _, _, _ => none
    | _, _ => none
  | .alt i r s => match nth ops i with
    | some o => match cOper P mu nt ops o i false false, cTree nt ops lst r, cTree nt ops lst s with
      | some a, some t, some t2 => some (.alt a t t2)
      | _, _, _ => none
    | none => none
def cPlan (nt : Nat) (ops : List Oper) (lst : Nat → Bool) (und : Bool) : List (Nat × Bool) → Option (List AOp)
  | [] => some []
  | (i, b) :: r => match nth ops i with
    | some o => match cOper P mu nt ops o i b (lst i), cPlan nt ops lst und r with
      | some a, some l => some (a :: l)
      | _, _ => none
    | none => none

def cCode (nt : Nat) : Code → Option AC
  | .skip => some .skip
  | .region _ ops draw =>
    if draw then match (if selfR ops then none else findPlan P mu ops.toList ops.size (Array.replicate ops.size false)) with
      | some p => if Region.noSelect ops && noDefer ops && decide (p.length ≤ ops.size) && planOk .any ops p (Array.replicate ops.size false) then (cPlan P mu nt ops.toList (lastG .any ops) false p).map .ops else none
      | none => match findTree P mu (selfR ops) ops.toList ops.size (Array.replicate ops.size false) with
        | some t => if Region.noSelect ops && noDefer ops && decide (t.depth ≤ ops.size) && okTr ops t (Array.replicate ops.size false) then (cTree P mu nt ops.toList (lastG .any ops) t).map .tree else none
        | none => none
    else if noDefer ops then match cPlan P mu nt ops.toList (fun _ => true) true ((List.range ops.size).map fun i => (i, false)) with
      | some l => some (.ops l)
      | none => some .stop
    else none
  | .seq a b => match cCode nt a, cCode nt b with | some a, some b => some (.seq a b) | _, _ => none
  | .cond c a b => match cx c, cCode nt a, cCode nt b with | some c, some a, some b => some (.cond c a b) | _, _, _ => none
  | .block id a => (cCode nt a).map (.block id)
  | .loop a => (cCode nt a).map .loop
  | .exit id => some (.exit id)
  | .ret => some .ret
  | .label _ => some .skip
  | .scope a => cCode nt a
  | .rangeFunc f ps a b => match cx f, cCode nt a, cCode nt b with | some f, some a, some b => if ps.toList.all (fun p => decide (p < nt)) then some (.rng f ps.toList a b) else none | _, _, _ => none
  | _ => none
end
end Go.Proofs.YtlbolnlcncjijaaGreat
