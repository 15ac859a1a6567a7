/- The search for places, as a function; sets of inches as keys. Sets of inches as keys of a map. A region that draws its order, by a plan: its operations one by one, in an order of ours. A layer's memory: its inches are stored whole; what its search stands on. -/
import Derived.Test.YtbbolibkheelmaaGa07
import Derived.Test.YtbbolibkheelmaaGa04
namespace Go.Proofs.Ytbbolibkheelmaa
open Go.RowKit Go.Shelf

/-- How many of the first n inches a set holds. -/
def cntU (M : Nat → Bool) : Nat → Nat
  | 0 => 0
  | n + 1 => cntU M n + if M n then 1 else 0
def Low (M : Nat → Bool) : Prop := ∀ i, 16 ≤ i → M i = false
def lenOf (ps : List Shape) (parts : List Int) (k : Nat) : Int := (gs ps (gi parts k).toNat).long
def preLen (ps : List Shape) (parts : List Int) : Nat → Int
  | 0 => 0
  | k + 1 => preLen ps parts k + lenOf ps parts k

theorem cnt_or {M : Nat → Bool} {a b : Int} (hd : ∀ i : Nat, i < 16 → a ≤ i → i ≤ b → M i = false) : ∀ n : Nat, n ≤ 16 → (cntU (orM M (betM a b)) n : Int) = cntU M n + cntU (betM a b) n
  | 0, _ => by simp [cntU]
  | n + 1, hn => by
    have ih := cnt_or hd n (by omega)
    simp only [cntU]
    unfold orM at *
    by_cases h : a ≤ (n : Int) ∧ (n : Int) ≤ b
    · have h1 := hd n (by omega) h.1 h.2
      have h2 : betM a b n = true := decide_eq_true h
      rw [h1, h2]
      simp only [Bool.or_true, if_true, Bool.false_eq_true, if_false]
      omega
    · have h2 : betM a b n = false := decide_eq_false h
      rw [h2]
      simp only [Bool.or_false, Bool.false_eq_true, if_false]
      omega
theorem cnt_bet {a b : Int} (h0 : 0 ≤ a) (h1 : a ≤ b + 1) : ∀ n : Nat, (cntU (betM a b) n : Int) = if (n : Int) ≤ a then 0 else if (n : Int) ≤ b + 1 then n - a else b + 1 - a
  | 0 => by simp [cntU]; omega
  | n + 1 => by
    have ih := cnt_bet h0 h1 n
    simp only [cntU]
    by_cases h : a ≤ (n : Int) ∧ (n : Int) ≤ b
    · have h2 : betM a b n = true := decide_eq_true h
      rw [h2, if_pos rfl]
      push_cast
      rw [ih]
      (repeat' split) <;> omega
    · have h2 : betM a b n = false := decide_eq_false h
      rw [h2, if_neg (by simp)]
      push_cast
      rw [ih]
      (repeat' split) <;> omega
theorem free_iff {M : Nat → Bool} {t len : Int} : freeB M t len = true ↔ ∀ i : Nat, i < 16 → t ≤ i → i ≤ t + len - 1 → M i = false := by
  unfold freeB eqIn
  rw [allB_iff]
  unfold andM betM
  constructor
  · intro h i hi h1 h2
    have := h i hi
    simp only [beq_iff_eq] at this
    rw [decide_eq_true ⟨h1, h2⟩, Bool.true_and] at this
    exact this
  · intro h i hi
    simp only [beq_iff_eq]
    by_cases hb : t ≤ (i : Int) ∧ (i : Int) ≤ t + len - 1
    · rw [h i hi hb.1 hb.2, Bool.and_false]
    · rw [decide_eq_false hb, Bool.false_and]
theorem cnt_take {M : Nat → Bool} {t len : Int} (hf : freeB M t len = true) (h0 : 0 ≤ t) (h1 : 0 ≤ len) (h2 : t + len ≤ 16) : (cntU (orM M (betM t (t + len - 1))) 16 : Int) = cntU M 16 + len := by
  rw [cnt_or (free_iff.1 hf) 16 (Nat.le_refl _), cnt_bet h0 (by omega) 16]
  (repeat' split) <;> omega
theorem low_or {M : Nat → Bool} {a b : Int} (h : Low M) (hb : b < 16) : Low (orM M (betM a b)) := fun i hi => by
  unfold orM betM
  rw [h i hi, decide_eq_false (by omega)]; rfl

/-- The first list of places, behind the places of k parts that leave M. -/
def srch (bm : Int × Int → Option Int) (ps : List Shape) (long : Int) (parts : List Int) : Nat → (Nat → Bool) → Nat → Option (List Int)
  | 0, _, _ => some []
  | r + 1, M, k => (List.range (many long (lenOf ps parts k))).findSome? fun (t : Nat) =>
      if (bm (gi parts k, (t : Int))).getD 0 = 2 ∧ freeB M t (lenOf ps parts k) = true then (srch bm ps long parts r (orM M (betM t (t + lenOf ps parts k - 1))) (k + 1)).map fun l => (t : Int) :: l else none

/-- Sets of inches as keys. -/
abbrev Key : Type := { l : List Bool // l.length = 16 }
def keyOf (M : Nat → Bool) : Key := ⟨(List.range 16).map M, by simp⟩
abbrev keyV (k : Key) : Value := .agg (k.1.map Value.bool).toArray
abbrev boolV (b : Bool) : Value := .bool b
theorem keyV_of (M : Nat → Bool) : keyV (keyOf M) = .agg (encIn M) := by
  unfold keyV keyOf encIn encL
  rw [List.map_map]; rfl
theorem key_low {M M' : Nat → Bool} (h : Low M) (h' : Low M') (e : keyOf M = keyOf M') : M = M' := by
  have e1 := congrArg Subtype.val e
  unfold keyOf at e1
  funext i
  by_cases hi : i < 16
  · have := congrArg (fun l => l[i]?) e1
    simpa [hi] using this
  · rw [h i (by omega), h' i (by omega)]
def ofKey (k : Key) : Nat → Bool := fun i => k.1.getD i false
theorem keyOf_ofKey (k : Key) : keyOf (ofKey k) = k := by
  apply Subtype.ext
  unfold keyOf ofKey
  apply List.ext_getElem
  · simp [k.2]
  · intro i h1 h2
    simp [h2]

/-- What the dead ends owe. -/
def DeadOk (bm : Int × Int → Option Int) (ps : List Shape) (long : Int) (parts : List Int) (D : Key → Option Bool) : Prop :=
  ∀ (M : Nat → Bool) (k r : Nat), Low M → r + k = parts.length → (cntU M 16 : Int) = preLen ps parts k → (D (keyOf M)).getD false = true → srch bm ps long parts r M k = none
theorem preLen_lt {ps : List Shape} {parts : List Int} {n : Nat} (h : ∀ k, k < n → 1 ≤ lenOf ps parts k) {i : Nat} : ∀ {j : Nat}, i < j → j ≤ n → preLen ps parts i < preLen ps parts j
  | j + 1, hij, hj => by
    have h1 := h j (by omega)
    simp only [preLen]
    by_cases e : i = j
    · subst e; omega
    · have h2 : i < j := by omega
      have h3 : j ≤ n := by omega
      have := preLen_lt h h2 h3; omega
theorem dead_add {bm : Int × Int → Option Int} {ps : List Shape} {long : Int} {parts : List Int} {D : Key → Option Bool} (hD : DeadOk bm ps long parts D) (hl : ∀ k, k < parts.length → 1 ≤ lenOf ps parts k)
    {M : Nat → Bool} {k r : Nat} (hM : Low M) (hr : r + k = parts.length) (hc : (cntU M 16 : Int) = preLen ps parts k) (hn : srch bm ps long parts r M k = none) : DeadOk bm ps long parts (setKey D (keyOf M) true) := by
  intro M' k' r' hM' hr' hc' h
  unfold setKey at h
  by_cases e : keyOf M' = keyOf M
  · have e' := key_low hM' hM e
    subst e'
    have hk : k' = k := by
      rcases Nat.lt_trichotomy k' k with h | h | h
      · have := preLen_lt hl h (by omega); omega
      · exact h
      · have := preLen_lt hl h (by omega); omega
    subst hk
    obtain rfl : r' = r := by omega
    exact hn
  · rw [if_neg e] at h
    exact hD M' k' r' hM' hr' hc' h
end Go.Proofs.Ytbbolibkheelmaa
namespace Go.Proofs.Ytbbolibkheelmaa
open Go.RowKit Go.Shelf

theorem eqIn_key (m n : Nat → Bool) : eqIn m n = decide (keyOf m = keyOf n) := by
  rw [Bool.eq_iff_iff, decide_eq_true_eq]
  unfold eqIn
  rw [allB_iff]
  constructor
  · intro h
    apply Subtype.ext
    unfold keyOf
    exact List.map_congr_left (fun i hi => by simpa using h i (List.mem_range.1 hi))
  · intro e i hi
    have e1 := congrArg Subtype.val e
    unfold keyOf at e1
    have := congrArg (fun l => l[i]?) e1
    simp only [beq_iff_eq]
    simpa [hi] using this
set_option maxRecDepth 100000 in
theorem check_in (e : Bool) (m : Nat → Bool) (w : World) : (Instr.checkKey e 10000 142 (.agg (encIn m))).run Try.prog w = .ok () w := by
  cases e <;> kernel_rfl
set_option maxRecDepth 100000 in
theorem bits_in (m : Nat → Bool) : Instr.sameBits 10000 (.agg (encIn m)) (.agg (encIn m)) = true := by
  unfold encIn encL
  simp only [Instr.sameBits, List.all_eq_true, Bool.and_eq_true, beq_self_eq_true, true_and, Prod.forall]
  intro a b h
  rw [List.zip_map', List.mem_map] at h
  obtain ⟨i, _, e⟩ := h
  cases e
  simp [Instr.sameBits]
set_option maxRecDepth 100000 in
theorem equal_in (m n : Nat → Bool) (w : World) : (Op.equal 142 (.agg (encIn m)) (.agg (encIn n))).run Try.prog w = .ok (eqIn m n) w := by
  unfold Op.equal Op.maxDepth
  simp [go_sem]
theorem inchesOk : KeyOk Try.prog 142 keyV where
  now x y d _ := by cases d <;> rfl
  under := ⟨_, inUnder0⟩
  eq x y w := by
    rw [← keyOf_ofKey x, ← keyOf_ofKey y, keyV_of, keyV_of, equal_in, eqIn_key]
  check e x w := by rw [← keyOf_ofKey x, keyV_of]; exact check_in e _ w
  bits x := by rw [← keyOf_ofKey x, keyV_of]; exact bits_in _
theorem deadUnder : Try.prog.underlying 145 = some (.map 142 4) := by kernel_rfl
theorem zeroBool (w : World) : (zeroValue 4).run Try.prog w = .ok (boolV false) w := by kernel_rfl
end Go.Proofs.Ytbbolibkheelmaa
namespace Go.Proofs.Ytbbolibkheelmaa
section
variable {F : Fence} {n : Nat} {P : Program} {Q : Exit → Act → World → Prop} {md : Region.Mode} {S : World → Prop}

/-- May the operations be taken in this order? (true: it yields its value in every world that meets S; false: no other one may come up.) -/
def planOk (md : Region.Mode) (ops : Array Oper) : List (Nat × Bool) → Array Bool → Bool
  | [], listed => (Region.ready md ops listed).isEmpty
  | (i, true) :: r, listed => Region.free md ops listed i && (Region.ready md ops listed).contains i && planOk md ops r (listed.setIfInBounds i true)
  | (i, false) :: r, listed => (Region.ready md ops listed == [i]) && planOk md ops r (listed.setIfInBounds i true)

/-- What is owed for a plan. -/
def planW (F : Fence) (n : Nat) (P : Program) (l : List Oper) (Q : Exit → Act → World → Prop) (S : World → Prop) : List (Nat × Bool) → Act → World → Prop
  | [], a, w => Q .normal a w
  | (i, true) :: r, a, w => ∃ o v, nth l i = some o ∧ S w ∧ YieldsIf P l.toArray S o v a ∧ planW F n P l Q S r (a.put o.dst v) w
  | (i, false) :: r, a, w => ∃ o, nth l i = some o ∧ ∀ K : Act → World → Prop, (∀ a w, (S w ∨ lastOp .any l.toArray i = true) → planW F n P l Q S r a w → K a w) →
      if Region.wanted o (yielded l.toArray a.tmps) = true then Oper.wpIn F n P o a w K Q else (∀ f, o.about P w a.eval = some f → F.fn f) ∧ K (a.put o.dst undef) w

theorem held_of_plan (hO : Open F) {l : List Oper} (hs : Region.noSelect l.toArray = true) (hnd : noDefer l.toArray = true) (hQ : ∀ c a t v w, Q (.panic c) (Act.put a (some t) v) w → Q (.panic c) a w) :
    ∀ (plan : List (Nat × Bool)) (fuel : Nat) (listed : Array Bool) (a : Act) (w : World), plan.length ≤ fuel → planOk .any l.toArray plan listed = true → planW F n P l Q S plan a w → anyHeld F n P .any l.toArray Q S fuel listed a w
  | [], fuel, listed, a, w, _, hp, h => by
    have : Region.ready .any l.toArray listed = [] := by simpa [planOk] using hp
    exact held_done this h fuel
  | (i, true) :: r, 0, listed, a, w, hf, _, _ => by simp at hf
  | (i, false) :: r, 0, listed, a, w, hf, _, _ => by simp at hf
  | (i, true) :: r, fuel + 1, listed, a, w, hf, hp, ⟨o, v, ho, hS, hy, h⟩ => by
    simp only [planOk, Bool.and_eq_true] at hp
    exact held_takeL hO i ho hs hnd hp.1.1 hp.1.2 (fun c a w h => (match o.dst, h with | none, h => h | some t, h => hQ c a t v w h)) hS hy (held_of_plan hO hs hnd hQ r fuel _ _ w (by simpa using hf) hp.2 h)
  | (i, false) :: r, fuel + 1, listed, a, w, hf, hp, ⟨o, ho, h⟩ => by
    simp only [planOk, Bool.and_eq_true, beq_iff_eq] at hp
    exact held_anyL i hp.1 ho (fun K hK => h K (fun a w hS hW => hK a w hS (held_of_plan hO hs hnd hQ r fuel _ a w (by simpa using hf) hp.2 hW)))

/-- Left at its end, and in no other way. -/
def okN (Q : Exit → Act → World → Prop) : Exit → Act → World → Prop
  | .normal, a, w => Q .normal a w
  | _, _, _ => False

theorem region_plan (hO : Open F) {id : Nat} {l : List Oper} {a : Act} {w : World} (S : World → Prop) (plan : List (Nat × Bool)) (hm : P.follows .mixedOrders = true)
    (hs : Region.noSelect l.toArray = true) (hnd : noDefer l.toArray = true) (hlen : plan.length ≤ l.toArray.size) (hp : planOk .any l.toArray plan (Array.replicate l.toArray.size false) = true)
    (h : planW F n P l (okN Q) S plan a w.drew) : (Code.region id l.toArray true).wpIn F n P Q a w := by
  refine wpIn_mono (region_held S hm (held_of_plan hO hs hnd (Q := okN Q) (fun c a t v w h => h) plan _ _ a _ hlen hp h)) ?_
  intro e a' w' hq
  cases e <;> first | exact hq | exact hq.elim

theorem plan_take {l : List Oper} {i : Nat} {r : List (Nat × Bool)} {a : Act} {w : World} {o : Oper} (v : Value) (ho : nth l i = some o) (hS : S w) (hw : Region.wanted o (yielded l.toArray a.tmps) = true)
    (hy : ∀ w', S w' → (execOp a.eval o).run P w' = .ok (.value v) w') (h : planW F n P l Q S r (a.put o.dst v) w) : planW F n P l Q S ((i, true) :: r) a w :=
  ⟨o, v, ho, hS, .inl ⟨hw, hy⟩, h⟩
theorem plan_skip {l : List Oper} {i : Nat} {r : List (Nat × Bool)} {a : Act} {w : World} {o : Oper} (ho : nth l i = some o) (hS : S w) (hw : Region.wanted o (yielded l.toArray a.tmps) = false)
    (h : planW F n P l Q S r (a.put o.dst undef) w) : planW F n P l Q S ((i, true) :: r) a w :=
  ⟨o, undef, ho, hS, .inr ⟨hw, rfl⟩, h⟩
theorem plan_one {l : List Oper} {i : Nat} {r : List (Nat × Bool)} {a : Act} {w : World} {o : Oper} (ho : nth l i = some o) (hw : Region.wanted o (yielded l.toArray a.tmps) = true)
    (h : ∀ K : Act → World → Prop, (∀ a w, S w → planW F n P l Q S r a w → K a w) → Oper.wpIn F n P o a w K Q) : planW F n P l Q S ((i, false) :: r) a w :=
  ⟨o, ho, fun K hK => by rw [if_pos hw]; exact h K (fun a w hS => hK a w (.inl hS))⟩
theorem plan_last {l : List Oper} {i : Nat} {r : List (Nat × Bool)} {a : Act} {w : World} {o : Oper} (hl : lastOp .any l.toArray i = true) (ho : nth l i = some o) (hw : Region.wanted o (yielded l.toArray a.tmps) = true)
    (h : ∀ K : Act → World → Prop, (∀ a w, planW F n P l Q S r a w → K a w) → Oper.wpIn F n P o a w K Q) : planW F n P l Q S ((i, false) :: r) a w :=
  ⟨o, ho, fun K hK => by rw [if_pos hw]; exact h K (fun a w => hK a w (.inr hl))⟩

/-- The same, outside of all rounds. -/
theorem region_planW {id : Nat} {l : List Oper} {a : Act} {w : World} (S : World → Prop) (plan : List (Nat × Bool)) (hm : P.follows .mixedOrders = true)
    (hs : Region.noSelect l.toArray = true) (hnd : noDefer l.toArray = true) (hlen : plan.length ≤ l.toArray.size) (hp : planOk .any l.toArray plan (Array.replicate l.toArray.size false) = true)
    (h : planW Fence.wide 0 P l (okN Q) S plan a w.drew) : (Code.region id l.toArray true).wp P Q a w :=
  (wpIn_wide (n := 0)).1 (region_plan open_wide S plan hm hs hnd hlen hp h)
end
end Go.Proofs.Ytbbolibkheelmaa
namespace Go.Proofs.Ytbbolibkheelmaa
open Go.RowKit Go.Shelf

/-- Cells that are set one behind the other. -/
def setFrom : Array Value → Nat → List Value → Array Value
  | c, _, [] => c
  | c, o, v :: vs => setFrom (c.setIfInBounds o v) (o + 1) vs
theorem setFrom_get : ∀ (vs : List Value) (c : Array Value) (o i : Nat), o + vs.length ≤ c.size → (setFrom c o vs)[i]? = if o ≤ i ∧ i < o + vs.length then vs[i - o]? else c[i]?
  | [], c, o, i, _ => by simp [setFrom]; omega
  | v :: vs, c, o, i, h => by
    simp only [List.length_cons] at h
    unfold setFrom
    rw [setFrom_get vs _ (o + 1) i (by simp; omega), Array.getElem?_setIfInBounds]
    by_cases h1 : o = i
    · subst h1
      rw [if_neg (by omega), if_pos rfl, if_pos (by omega), if_pos (by simp only [List.length_cons]; omega)]
      simp
    · rw [if_neg h1]
      by_cases h2 : o + 1 ≤ i ∧ i < o + 1 + vs.length
      · rw [if_pos h2, if_pos (by simp only [List.length_cons]; omega), show i - o = (i - (o + 1)) + 1 by omega]; rfl
      · rw [if_neg h2, if_neg (by simp only [List.length_cons]; omega)]
theorem heap_setCells_row (b : Nat) : ∀ (vs : List Value) (o : Nat) (w : World) (c : Array Value) (t : TypeId), w.heap[b]? = some (.cells c t (0, 0)) → (w.setCells b o vs).heap[b]? = some (.cells (setFrom c o vs) t (0, 0))
  | [], _, _, _, _, h => h
  | v :: vs, o, w, c, t, h => by
    unfold World.setCells setFrom
    exact heap_setCells_row b vs (o + 1) _ _ t (heap_setCell_same w b o c t v h)
theorem same_setCells {b : Nat} : ∀ (vs : List Value) (o : Nat) {W w : World}, SameBut (fun k => k = b) W w → SameBut (fun k => k = b) W (w.setCells b o vs)
  | [], _, _, _, h => h
  | v :: vs, o, _, _, h => by unfold World.setCells; exact same_setCells vs (o + 1) (h.setCell (.inl rfl) v)

section
variable {long : Int} {ka : Option Addr} {kn kc : Nat} {sa : Option Addr} {sn sc mb bl : Nat} {M : Nat → Bool} {w : World}
theorem layer_load (h : Blk w bl (layerRow long ka kn kc sa sn sc mb M)) : Sem.run Try.prog (loadIn (.pointer (some ⟨bl, 4, none⟩))) w = .ok (.agg (encIn M)) w := by
  have hi : (Try.prog.info? 142).map (·.size) = some (encL M).length := by rw [encL_length]; exact inInfo
  have := run_loadAt_mid (P := Try.prog) w bl 4 142 (encL M) (.array 16 4) (layer_range h) inUnder0 (Eq.refl true) hi
  unfold loadIn
  exact this
theorem encIn_toList (M : Nat → Bool) : (encIn M).toList = encL M := rfl
theorem setFrom_pre (A O : Array Value) (vs : List Value) (h : O.size = vs.length) : setFrom (A ++ O) A.size vs = A ++ vs.toArray := by
  apply Array.ext_getElem?
  intro i
  rw [setFrom_get _ _ _ _ (by simp [h])]
  by_cases hi : i < A.size
  · rw [if_neg (by omega), Array.getElem?_append_left hi, Array.getElem?_append_left hi]
  · rw [Array.getElem?_append_right (by omega), Array.getElem?_append_right (by omega)]
    by_cases h2 : i < A.size + vs.length
    · rw [if_pos (by omega)]; simp
    · rw [if_neg (by omega), Array.getElem?_eq_none (by omega), Array.getElem?_eq_none (by simp; omega)]
theorem layer_set (M' : Nat → Bool) : setFrom (layerRow long ka kn kc sa sn sc mb M) 4 (encL M') = layerRow long ka kn kc sa sn sc mb M' :=
  setFrom_pre #[.int .i64 long, .slice ka kn kc, .slice sa sn sc, .map (some mb)] (encIn M) (encL M') (by rw [encIn_size, encL_length])
theorem layer_there (h : Blk w bl (layerRow long ka kn kc sa sn sc mb M)) : w.there bl 4 16 := fun j hj => by
  have hr := layer_range h
  exact ⟨hr.isSome j (by rw [encL_length]; exact hj), h.frozen⟩
theorem layer_store (h : Blk w bl (layerRow long ka kn kc sa sn sc mb M)) (M' : Nat → Bool) :
    ∃ w', Sem.run Try.prog (storeIn (.pointer (some ⟨bl, 4, none⟩)) (.agg (encIn M'))) w = .ok () w' ∧ Blk w' bl (layerRow long ka kn kc sa sn sc mb M') ∧ SameBut (fun k => k = bl) w w' := by
  have hi : (Try.prog.info? 142).map (·.size) = some (encIn M').size := by rw [encIn_size]; exact inInfo
  have hst := run_storeAt_mid (P := Try.prog) w bl 4 142 (encIn M') (by rw [encIn_size]; exact layer_there h) hi (encIn_one M')
  refine ⟨w.setCells bl 4 (encL M'), hst, ?_, same_setCells _ _ (SameBut.refl _ w)⟩
  obtain ⟨t, ht⟩ := h
  exact ⟨t, by rw [heap_setCells_row bl _ 4 w _ t ht, layer_set]⟩
end

theorem Blk.drew {w : World} {b : Nat} {c : Array Value} (h : Blk w b c) : Blk w.drew b c := by obtain ⟨t, h⟩ := h; exact ⟨t, h⟩
theorem Blk.set1 {w : World} {b : Nat} {v0 : Value} (h : Blk w b #[v0]) (v : Value) : Blk (w.setCell ⟨b, 0, none⟩ v) b #[v] := by
  obtain ⟨t, h⟩ := h; exact ⟨t, heap_setCell_same w _ 0 _ t _ h⟩
theorem Blk.setOther {w : World} {b b' o : Nat} {c : Array Value} (h : Blk w b c) (hne : b ≠ b') (v : Value) : Blk (w.setCell ⟨b', o, none⟩ v) b c := by
  obtain ⟨t, h⟩ := h; exact ⟨t, by rw [heap_setCell_other w _ b v hne]; exact h⟩

theorem alloc_step' {w V : World} {c : Array Value} {t : TypeId} (h : V = w.alloc (.cells c t)) : Blk V w.heap.size c ∧ SameBut (fun _ => False) w V ∧ V.heap.size = w.heap.size + 1 := by
  subst h
  exact ⟨Blk.new w c t, (SameBut.refl _ w).alloc _, by simp⟩
theorem SameBut.shift {M M' : Nat → Prop} {w W W' : World} (h : SameBut M w W) (k : SameBut M' W W') (hm : ∀ i, M' i → M i ∨ w.heap.size ≤ i) : SameBut M w W' :=
  ⟨k.os.trans h.os, k.tape.trans h.tape, k.output.trans h.output, Nat.le_trans h.size k.size, fun i hi hn =>
    (k.block i (Nat.lt_of_lt_of_le hi h.size) (fun e => by rcases hm i e with h' | h'; exact hn h'; omega)).trans (h.block i hi hn)⟩

/-- What the search stands on. -/
structure LayEnv (w : World) (B Bp bl Bdd Bd Bc Bn : Nat) (pa : Option Addr) (pn pc : Nat) (parts : List Int) (long : Int) (ka : Option Addr) (kn kc : Nat) (sa : Option Addr) (sn sc : Nat) (ps : List Shape) (mb md : Nat) (bm : Int × Int → Option Int) : Prop where
  bparts : Blk w Bp #[.slice pa pn pc]
  dead : Blk w Bdd #[.map (some md)]
  board : Blk w Bd #[.int .i64 long, .slice ka kn kc, .slice sa sn sc, .map (some mb)]
  can : Blk w Bc #[.func (.func 104) #[.pointer (some ⟨bl, 0, none⟩)] #[]]
  next : Blk w Bn #[.func (.func 105) #[] #[.pointer (some ⟨Bp, 0, none⟩), .pointer (some ⟨bl, 0, none⟩), .pointer (some ⟨Bdd, 0, none⟩), .pointer (some ⟨Bd, 0, none⟩), .pointer (some ⟨Bc, 0, none⟩), .pointer (some ⟨Bn, 0, none⟩)]]
  ne : (Bp ≠ bl ∧ Bdd ≠ bl ∧ Bd ≠ bl ∧ Bc ≠ bl ∧ Bn ≠ bl) ∧ Bp ≠ md ∧ Bdd ≠ md ∧ Bd ≠ md ∧ Bc ≠ md ∧ Bn ≠ md
  ints : IntsAt B w pa pn parts
  shapes : ShapesAt B w sa sn ps
  map : MapAt w mb placeK intV bm
  low : B ≤ bl ∧ B ≤ md ∧ mb ≠ bl ∧ mb ≠ md ∧ B ≤ w.heap.size

/-- What the search's numbers owe. -/
structure LayNums (pn : Nat) (parts : List Int) (long : Int) (sn : Nat) (ps : List Shape) (bm : Int × Int → Option Int) : Prop where
  part : ∀ k, k < pn → 0 ≤ gi parts k ∧ gi parts k < sn
  few : pn ≤ 5 ∧ sn ≤ 5
  long : 1 ≤ long ∧ long ≤ 16
  shape : ∀ q, q < sn → 1 ≤ (gs ps q).long ∧ (gs ps q).long ≤ 12
  b012 : ∀ k, (bm k).getD 0 = 0 ∨ (bm k).getD 0 = 1 ∨ (bm k).getD 0 = 2

section
variable {w w' : World} {B Bp bl Bdd Bd Bc Bn : Nat} {pa : Option Addr} {pn pc : Nat} {parts : List Int} {long : Int} {ka : Option Addr} {kn kc : Nat} {sa : Option Addr} {sn sc : Nat} {ps : List Shape} {mb md : Nat} {bm : Int × Int → Option Int}
theorem LayEnv.keep {M : Nat → Prop} (h : LayEnv w B Bp bl Bdd Bd Bc Bn pa pn pc parts long ka kn kc sa sn sc ps mb md bm) (hs : SameBut M w w') (hM : ∀ i, M i → i = bl ∨ i = md ∨ w.heap.size ≤ i) : LayEnv w' B Bp bl Bdd Bd Bc Bn pa pn pc parts long ka kn kc sa sn sc ps mb md bm := by
  have hn : ∀ k, k ≠ bl → k ≠ md → k < w.heap.size → ¬ M k := fun k h1 h2 h3 e => by rcases hM k e with h | h | h; exact h1 h; exact h2 h; omega
  have hB := h.low
  have hcell : ∀ b o, b < B → w'.cell? ⟨b, o, none⟩ = w.cell? ⟨b, o, none⟩ := fun b o hb => hs.cell (by omega) (hn b (by omega) (by omega) (by omega))
  exact ⟨h.bparts.same hs (hn _ h.ne.1.1 h.ne.2.1 h.bparts.lt), h.dead.same hs (hn _ h.ne.1.2.1 h.ne.2.2.1 h.dead.lt), h.board.same hs (hn _ h.ne.1.2.2.1 h.ne.2.2.2.1 h.board.lt), h.can.same hs (hn _ h.ne.1.2.2.2.1 h.ne.2.2.2.2.1 h.can.lt), h.next.same hs (hn _ h.ne.1.2.2.2.2 h.ne.2.2.2.2.2 h.next.lt),
    h.ne, h.ints.keep (Nat.le_refl _) hcell, h.shapes.keep (Nat.le_refl _) hcell, h.map.same hs (hn _ hB.2.2.1 hB.2.2.2.1 h.map.lt), ⟨hB.1, hB.2.1, hB.2.2.1, hB.2.2.2.1, Nat.le_trans hB.2.2.2.2 hs.size⟩⟩
end

/-- A slice of ints that lies apart from a block. -/
def IntsOff (bl : Nat) (w : World) (a : Option Addr) (n : Nat) (xs : List Int) : Prop := IntsAt w.heap.size w a n xs ∧ ∀ b, a = some b → b.block ≠ bl
theorem IntsOff.keep {M : Nat → Prop} {bl n : Nat} {w w' : World} {a : Option Addr} {xs : List Int} (h : IntsOff bl w a n xs) (hs : SameBut M w w') (hM : ∀ i, M i → i = bl ∨ (∃ es c, w.heap[i]? = some (.map es c)) ∨ w.heap.size ≤ i) : IntsOff bl w' a n xs := by
  refine ⟨⟨h.1.len, h.1.small, fun i hi => ?_⟩, h.2⟩
  obtain ⟨b, o, rfl, hb, hc⟩ := h.1.get i hi
  have hn : ¬ M b := fun e => by
    rcases hM b e with h' | ⟨es, c, h'⟩ | h'
    · exact h.2 _ rfl h'
    · have := (hc i hi).1
      unfold World.cell? at this
      simp only [h'] at this
      cases this
    · omega
  exact ⟨b, o, rfl, Nat.lt_of_lt_of_le hb hs.size, fun j hj => ⟨(hs.cell hb hn).trans (hc j hj).1, (hc j hj).2⟩⟩

theorem IntsOff.keep' {M : Nat → Prop} {bl n : Nat} {w w' : World} {a : Option Addr} {xs : List Int} (h : IntsOff bl w a n xs) (hs : SameBut M w w') (hM : ∀ i, M i → ∀ o x, w.cell? ⟨i, o, none⟩ ≠ some (.int .i64 x)) : IntsOff bl w' a n xs := by
  refine ⟨⟨h.1.len, h.1.small, fun i hi => ?_⟩, h.2⟩
  obtain ⟨b, o, rfl, hb, hc⟩ := h.1.get i hi
  have hn : ¬ M b := fun e => hM b e _ _ (hc i hi).1
  exact ⟨b, o, rfl, Nat.lt_of_lt_of_le hb hs.size, fun j hj => ⟨(hs.cell hb hn).trans (hc j hj).1, (hc j hj).2⟩⟩
theorem Blk.one_no_int {w : World} {b : Nat} {v : Value} (h : Blk w b #[v]) (hv : ∀ x, v ≠ .int .i64 x) : ∀ o x, w.cell? ⟨b, o, none⟩ ≠ some (.int .i64 x) := fun o x e => by
  rw [h.cell] at e
  match o, e with
  | 0, e => simp at e; exact hv _ e
  | o + 1, e => simp at e
theorem IntsOff.calm {B bl n : Nat} {w w' : World} {a : Option Addr} {xs : List Int} (h : IntsOff bl w a n xs) (hs : Calm B w w') : IntsOff bl w' a n xs := by
  refine ⟨⟨h.1.len, h.1.small, fun i hi => ?_⟩, h.2⟩
  obtain ⟨b, o, rfl, hb, hc⟩ := h.1.get i hi
  have hcell : ∀ j, j < n → w'.cell? ⟨b, o + j, none⟩ = w.cell? ⟨b, o + j, none⟩ := fun j hj => by
    have h1 := (hc j hj).1
    unfold World.cell? at h1 ⊢
    cases hx : w.heap[b]? with
    | none => simp only [hx] at h1; cases h1
    | some x =>
      cases x <;> simp only [hx] at h1 <;> first | cases h1 | rw [hs.block b _ hx (.inr rfl)]
  exact ⟨b, o, rfl, Nat.lt_of_lt_of_le hb hs.size, fun j hj => ⟨(hcell j hj).trans (hc j hj).1, (hc j hj).2⟩⟩

theorem pre_range {pre : List Nat} {t N : Nat} (h : pre ++ [t] <+: List.range N) : pre = List.range t ∧ t < N := by
  have hl := h.length_le
  simp only [List.length_append, List.length_cons, List.length_nil, List.length_range] at hl
  have he := List.prefix_iff_eq_take.1 h
  have hk : (pre ++ [t])[pre.length]? = some t := by simp
  have ht : t = pre.length := by
    rw [he, List.getElem?_take] at hk
    simp only [List.length_append, List.length_cons, List.length_nil] at hk
    rw [if_pos (by omega), List.getElem?_range (by omega)] at hk
    cases hk; rfl
  subst ht
  refine ⟨?_, by omega⟩
  have h2 := List.prefix_iff_eq_take.1 ((List.prefix_append pre [pre.length]).trans h)
  apply List.ext_getElem?
  intro i
  by_cases hi : i < pre.length
  · have e : (List.take pre.length (List.range N))[i]? = some i := by rw [List.getElem?_take, if_pos (by simpa using hi), List.getElem?_range (by omega)]
    rw [← h2] at e
    rw [e, List.getElem?_range hi]
  · rw [List.getElem?_eq_none (by omega), List.getElem?_eq_none (by simp; omega)]

/-- One inch is tried after the other. -/
def tryF (bm : Int × Int → Option Int) (ps : List Shape) (long : Int) (parts : List Int) (r : Nat) (M : Nat → Bool) (k : Nat) (t : Nat) : Option (List Int) :=
  if (bm (gi parts k, (t : Int))).getD 0 = 2 ∧ freeB M t (lenOf ps parts k) = true then (srch bm ps long parts r (orM M (betM t (t + lenOf ps parts k - 1))) (k + 1)).map fun l => (t : Int) :: l else none
theorem srch_succ (bm : Int × Int → Option Int) (ps : List Shape) (long : Int) (parts : List Int) (r : Nat) (M : Nat → Bool) (k : Nat) :
    srch bm ps long parts (r + 1) M k = (List.range (many long (lenOf ps parts k))).findSome? (tryF bm ps long parts r M k) := rfl

theorem find_none {α : Type} {f : Nat → Option α} {n : Nat} : (List.range n).findSome? f = none ↔ ∀ t, t < n → f t = none := by
  rw [List.findSome?_eq_none_iff]; simp
theorem find_some {α : Type} {f : Nat → Option α} {n t : Nat} {x : α} (ht : t < n) (h0 : ∀ i, i < t → f i = none) (h1 : f t = some x) : (List.range n).findSome? f = some x := by
  have e : List.range n = List.range t ++ ([t] ++ List.range' (t + 1) (n - (t + 1))) := by
    rw [List.range_eq_range', List.range_eq_range', show n = t + (1 + (n - (t + 1))) by omega, ← List.range'_append_1, Nat.zero_add, ← List.range'_append_1]
    congr 2
    simp
    omega
  rw [e, List.findSome?_append, find_none.2 h0]
  simp [h1]
end Go.Proofs.Ytbbolibkheelmaa
