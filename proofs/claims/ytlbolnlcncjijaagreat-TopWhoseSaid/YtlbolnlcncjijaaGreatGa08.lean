/- Maps of the call's own. -/
import Derived.Test.YtlbolnlcncjijaaGreatGa05
import Derived.Test.YtlbolnlcncjijaaGreatGa07
import Derived.MapKept
namespace Go.Proofs.YtlbolnlcncjijaaGreat
open Go.RowKit Go.Shelf

section
variable {P : Program}

def ChkOk (P : Program) (D : Nat) (f : TypeId → Option (List CK)) : Prop :=
  ∀ (t : TypeId) (l : List CK) (us : List Value) (r : Bool), f t = some l → us.length = l.length → eqVs l us us = some r → ∀ em w, (Instr.checkKey em D t (vOf P t us)).run P w = .ok () w

theorem chk_fields {D d : Nat} {em : Bool} (hE : ChkOk P D (flatK P d)) : ∀ (fs : List Field) (at_ : Nat) (l : List CK) (xs : List Value) (r : Bool), flatFs P (flatK P d) fs at_ = some l → at_ + l.length ≤ xs.length →
    eqVs l ((xs.drop at_).take l.length) ((xs.drop at_).take l.length) = some r → ∀ w, (forIn fs PUnit.unit (fun f _ => (do
      if f.name ≠ "_" then Instr.checkKey em D f.type (← part f.type xs.toArray f.offset)
      pure (ForInStep.yield PUnit.unit) : Sem (ForInStep PUnit)))).run P w = .ok PUnit.unit w
  | [], at_, l, xs, r, h, _, he, w => by simp
  | f :: fs, at_, l, xs, r, h, hx, he, w => by
    simp only [flatFs] at h
    split at h
    · rename_i hc
      rw [Bool.and_eq_true] at hc
      have hn : f.name ≠ "_" := by simpa using hc.1
      have ho : f.offset = at_ := by simpa using hc.2
      split at h
      · rename_i l1 l2 h1 h2
        split at h
        · rename_i hs
          simp only [Option.some.injEq] at h
          subst h
          rw [hs] at h2
          simp only [Option.getD_some] at h2
          rw [List.length_append] at hx he
          rw [cut_take] at he
          obtain ⟨x, y, e1, e2, e3⟩ := eqVs_append (by rw [List.length_take, List.length_drop]; omega) (by rw [List.length_take, List.length_drop]; omega) he
          have p1 := run_partV h1 hs (xs := xs) (off := at_) (by omega) w
          have p3 := hE f.type l1 _ x h1 (by rw [List.length_take, List.length_drop]; omega) e1 em w
          have p4 := chk_fields (em := em) hE fs (at_ + l1.length) l2 xs y h2 (by omega) e2 w
          simp only [List.forIn_cons, Sem.run_bind, if_pos hn, ho, p1, p3, Result.andThen_ok, Sem.run_pure]
          exact p4
        · cases h
      · cases h
    · cases h

theorem chk_items {D d : Nat} {em : Bool} (hE : ChkOk P D (flatK P d)) {e : TypeId} {l : List CK} (h1 : flatK P d e = some l) (hs : (P.info? e).map (·.size) = some l.length) : ∀ (n i : Nat) (xs : List Value) (r : Bool), (i + n) * l.length ≤ xs.length →
    eqVs (List.replicate n l).flatten ((xs.drop (i * l.length)).take (n * l.length)) ((xs.drop (i * l.length)).take (n * l.length)) = some r → ∀ w, (forIn (List.range' i n) PUnit.unit (fun i _ => (do
      Instr.checkKey em D e (← part e xs.toArray (i * (← sizeOf e)))
      pure (ForInStep.yield PUnit.unit) : Sem (ForInStep PUnit)))).run P w = .ok PUnit.unit w
  | 0, i, xs, r, _, he, w => by simp
  | n + 1, i, xs, r, hx, he, w => by
    have hs' := hs
    rw [Option.map_eq_some_iff] at hs'
    obtain ⟨q, hq, hs'⟩ := hs'
    have e0 : (i + (n + 1)) * l.length = i * l.length + l.length + n * l.length := by rw [Nat.add_mul, Nat.add_mul]; omega
    rw [List.replicate_succ, List.flatten_cons, show (n + 1) * l.length = l.length + n * l.length by rw [Nat.add_mul]; omega, cut_take] at he
    obtain ⟨x, y, e1, e2, e3⟩ := eqVs_append (by rw [List.length_take, List.length_drop]; omega) (by rw [List.length_take, List.length_drop]; omega) he
    have p1 := run_partV h1 hs (xs := xs) (off := i * l.length) (by omega) w
    have p3 := hE e l _ x h1 (by rw [List.length_take, List.length_drop]; omega) e1 em w
    have p4 := chk_items (em := em) hE h1 hs n (i + 1) xs y (by rw [show i + 1 + n = i + (n + 1) by omega]; exact hx) (by rw [Nat.add_mul, Nat.one_mul]; exact e2) w
    have hce : P.cellsOf e = l.length := by simp [Program.cellsOf, hq, hs']
    rw [List.range'_succ]
    simp only [List.forIn_cons, Sem.run_bind, Go.run_sizeOf w hq, hce, p1, p3, Result.andThen_ok, Sem.run_pure]
    exact p4

theorem chk_flat : ∀ (d D : Nat), ChkOk P (d + D) (flatK P d)
  | 0, D => fun t l us r h => by cases h
  | d + 1, D => by
    have IH := chk_flat d D
    intro t l us r h hu he em w
    have one : l.length = 1 → ∃ a, us = [a] := fun h1 => by
      rw [h1] at hu
      match us, hu with
      | [a], _ => exact ⟨a, rfl⟩
    rw [show d + 1 + D = (d + D) + 1 by omega]
    simp only [flatK] at h
    split at h
    · rename_i hud
      simp only [Option.some.injEq] at h
      subst h
      obtain ⟨a, rfl⟩ := one rfl
      simp only [eqVs] at he
      cases a <;> simp [eqC] at he
      simp [vOf, hud, Instr.checkKey, run_underlying hud]
    · rename_i hud
      simp only [Option.some.injEq] at h
      subst h
      obtain ⟨a, rfl⟩ := one rfl
      simp only [eqVs] at he
      cases a <;> simp [eqC] at he
      simp [vOf, hud, Instr.checkKey, run_underlying hud]
    · rename_i hud
      simp only [Option.some.injEq] at h
      subst h
      obtain ⟨a, rfl⟩ := one rfl
      simp only [eqVs] at he
      cases a <;> simp [eqC] at he
      simp [vOf, hud, Instr.checkKey, run_underlying hud]
    · rename_i fs hud
      split at h
      · cases h
      · simp only [vOf, hud]
        have := chk_fields (em := em) IH fs.toList 0 l us r h (by omega) (by rw [List.drop_zero, List.take_of_length_le (by omega)]; exact he) w
        rw [Instr.checkKey]
        simp only [Sem.run_bind, run_underlying hud, Result.andThen_ok]
        rw [← Array.forIn_toList, this]
        rfl
    · rename_i n e hud
      split at h
      · rename_i l1 h1
        split at h
        · rename_i hs
          simp only [Option.some.injEq] at h
          subst h
          rw [flat_rep] at hu
          simp only [vOf, hud]
          have := chk_items (em := em) IH h1 hs n 0 us r (by rw [Nat.zero_add, hu]; exact Nat.le_refl _) (by rw [Nat.zero_mul, List.drop_zero, List.take_of_length_le (by omega)]; exact he) w
          rw [Instr.checkKey]
          simp only [Sem.run_bind, run_underlying hud, Result.andThen_ok]
          simp only [Std.Legacy.Range.forIn_eq_forIn_range', Std.Legacy.Range.size, Nat.sub_zero, Nat.add_one_sub_one, Nat.div_one]
          rw [this]
          rfl
        · cases h
      · cases h
    · cases h

theorem keyK_flat {K : TypeId} {ag : Bool} {ks : List CK} (h : keyK P K = some (ag, ks)) : flatK P 100 K = some ks ∧ ∃ d, P.underlying K = some d ∧
    ((ag = true ∧ (∀ us, vOf P K us = .agg us.toArray) ∧ ∀ x y, Instr.sameNow d x y = none) ∨ (ag = false ∧ (∀ us, vOf P K us = us.headD undef) ∧ ∃ c, ks = [c] ∧ ∀ x y r, eqC c x y = some r → Instr.sameNow d x y = some r)) := by
  unfold keyK at h
  split at h
  · rename_i fs hu
    split at h
    · rw [Option.map_eq_some_iff] at h
      obtain ⟨l, hl, he⟩ := h
      simp only [Prod.mk.injEq] at he
      obtain ⟨rfl, rfl⟩ := he
      exact ⟨hl, _, hu, .inl ⟨rfl, fun us => by simp [vOf, hu], fun x y => by cases x <;> rfl⟩⟩
    · cases h
  · rename_i n e hu
    split at h
    · rw [Option.map_eq_some_iff] at h
      obtain ⟨l, hl, he⟩ := h
      simp only [Prod.mk.injEq] at he
      obtain ⟨rfl, rfl⟩ := he
      exact ⟨hl, _, hu, .inl ⟨rfl, fun us => by simp [vOf, hu], fun x y => by cases x <;> rfl⟩⟩
    · cases h
  · rename_i hu
    rw [Option.map_eq_some_iff] at h
    obtain ⟨l, hl, he⟩ := h
    simp only [Prod.mk.injEq] at he
    obtain ⟨rfl, rfl⟩ := he
    refine ⟨hl, _, hu, .inr ⟨rfl, fun us => by simp [vOf, hu], ?_⟩⟩
    simp only [flatK, hu, Option.some.injEq] at hl
    exact ⟨_, hl.symm, fun x y r he => by cases x <;> cases y <;> simp_all [eqC, Instr.sameNow]⟩
  · rename_i kk hu
    rw [Option.map_eq_some_iff] at h
    obtain ⟨l, hl, he⟩ := h
    simp only [Prod.mk.injEq] at he
    obtain ⟨rfl, rfl⟩ := he
    refine ⟨hl, _, hu, .inr ⟨rfl, fun us => by simp [vOf, hu], ?_⟩⟩
    simp only [flatK, hu, Option.some.injEq] at hl
    exact ⟨_, hl.symm, fun x y r he => by cases x <;> cases y <;> simp_all [eqC, Instr.sameNow]⟩
  · rename_i hu
    rw [Option.map_eq_some_iff] at h
    obtain ⟨l, hl, he⟩ := h
    simp only [Prod.mk.injEq] at he
    obtain ⟨rfl, rfl⟩ := he
    refine ⟨hl, _, hu, .inr ⟨rfl, fun us => by simp [vOf, hu], ?_⟩⟩
    simp only [flatK, hu, Option.some.injEq] at hl
    exact ⟨_, hl.symm, fun x y r he => by cases x <;> cases y <;> simp_all [eqC, Instr.sameNow]⟩
  · cases h

theorem relP_val {g : GP} {u v : Value} (h : RelP g (.val u) v) : v = u ∧ scalar u = true := by
  cases h with
  | val _ h => exact ⟨rfl, h⟩
def plainC : Value → Bool
  | .bool _ | .int _ _ | .string _ => true
  | _ => false
theorem eqC_plain {c : CK} {p q : Value} {r : Bool} (h : eqC c p q = some r) : plainC p = true := by
  cases c <;> cases p <;> cases q <;> simp_all [eqC, plainC]
theorem key_rel {g : GP} {K : TypeId} {ag : Bool} {ks : List CK} (hK : keyK P K = some (ag, ks)) {k x : PV} {kv xv : Value} {r : Bool} (h : keyEq ks ag k x = some r) (hk : RelP g k kv) (hx : RelP g x xv) :
    ∃ us vs : List Value, kv = vOf P K us ∧ xv = vOf P K vs ∧ us.length = ks.length ∧ vs.length = ks.length ∧ eqVs ks us vs = some r ∧ (ag = true → kv = .agg us.toArray ∧ ∀ c ∈ us, plainC c = true) ∧ (ag = false → us = [kv] ∧ vs = [xv] ∧ plainC kv = true) := by
  obtain ⟨_, d, hu, hc⟩ := keyK_flat hK
  rcases hc with ⟨rfl, hv, _⟩ | ⟨rfl, hv, c, rfl, _⟩
  · unfold keyEq at h
    split at h
    · rename_i a b heq
      cases hk with
      | agg _ us hl h1 hh =>
        cases hx with
        | agg _ vs hl2 h12 hh2 =>
          obtain ⟨l1, l2⟩ := eqCs_len h
          have ha : RelLP g a us.toList := ⟨by simpa using hl, by simpa using h1, by simpa using hh⟩
          have hb : RelLP g b vs.toList := ⟨by simpa using hl2, by simpa using h12, by simpa using hh2⟩
          refine ⟨us.toList, vs.toList, by rw [hv], by rw [hv], by rw [← ha.len, l1], by rw [← hb.len, l2], eqCs_vs ha hb h, fun _ => ⟨by simp, fun c hc => ?_⟩, fun e => by cases e⟩
          obtain ⟨i, hi⟩ := List.mem_iff_getElem?.1 hc
          have hi2 : i < a.length := by rw [ha.len]; exact (List.getElem?_eq_some_iff.1 hi).1
          have hr := ha.at_ i _ c (List.getElem?_eq_getElem hi2) hi
          have isv : ∀ (ks : List CK) (a b : List PV) (r : Bool), eqCs ks a b = some r → ∀ x ∈ a, ∃ u, x = .val u ∧ plainC u = true := by
            intro ks
            induction ks with
            | nil => intro a b r h x hx; cases a <;> cases b <;> simp [eqCs] at h; cases hx
            | cons k ks ih =>
              intro a b r h x hx
              match a, b, h with
              | .val p :: a, .val q :: b, h =>
                simp only [eqCs] at h
                split at h
                · rename_i e1 e2
                  rcases List.mem_cons.1 hx with rfl | hx
                  · exact ⟨_, rfl, eqC_plain e1⟩
                  · exact ih a b _ e2 x hx
                · cases h
          obtain ⟨u, hu, hp⟩ := isv _ _ _ _ h _ (List.getElem_mem hi2)
          rw [hu] at hr
          cases hr with
          | val _ hs => exact hp
    · rename_i heq; exact absurd heq (by simp)
    · cases h
  · have h' : eqCs [c] [k] [x] = some r := by cases k <;> cases x <;> exact h
    have inv : ∃ p q, k = .val p ∧ x = .val q ∧ eqC c p q = some r := by
      cases k <;> cases x <;> simp [eqCs] at h'
      rename_i p q
      cases hpq : eqC c p q with
      | none => rw [hpq] at h'; cases h'
      | some y => rw [hpq] at h'; simp at h'; exact ⟨p, q, rfl, rfl, by rw [hpq, h']⟩
    obtain ⟨p, q, rfl, rfl, hpq⟩ := inv
    · obtain ⟨rfl, s1⟩ := relP_val hk
      obtain ⟨rfl, s2⟩ := relP_val hx
      · · have one : ∀ {u : Value}, scalar u = true → RelLP g [.val u] [u] := fun {u} s => ⟨rfl, by simpa using oneCell_scalar s, fun i x v hx hv => by
            cases i with
            | zero => simp at hx hv; subst hx; subst hv; exact .val _ s
            | succ i => simp at hx⟩
          refine ⟨[_], [_], ?_, ?_, rfl, rfl, eqCs_vs (one s1) (one s2) h', ?_, ?_⟩
          · rw [hv]; rfl
          · rw [hv]; rfl
          · intro e; cases e
          · exact fun _ => ⟨rfl, rfl, eqC_plain hpq⟩

def OptRel (g : GP) : Option (Nat × PV) → Option (Nat × Value) → Prop
  | none, none => True
  | some (i, x), some (j, v) => i = j ∧ RelP g x v
  | _, _ => False

theorem EntsP.cons {g : GP} {x : PV × PV} {es : List (PV × PV)} {l : List MapEntry} (h : EntsP g (x :: es) l) : ∃ e l', l = e :: l' ∧ RelP g x.1 e.key ∧ RelP g x.2 e.val ∧ EntsP g es l' := by
  match l, h with
  | [], h => have := h.len; simp at this
  | e :: l', h => exact ⟨e, l', rfl, (h.at_ 0 x e rfl rfl).1, (h.at_ 0 x e rfl rfl).2, by simpa using h.len, fun i y q h1 h2 => h.at_ (i + 1) y q h1 h2⟩

theorem seek_ask {g : GP} {K : TypeId} {ag : Bool} {ks : List CK} (hK : keyK P K = some (ag, ks)) {d : TypeDesc} (hu : P.underlying K = some d) {k : PV} {kv : Value} (hk : RelP g k kv) : ∀ {es : List (PV × PV)} {ents : List MapEntry} {i : Nat} {r : Option (Nat × PV)}, mseek ks ag k es i = some r → EntsP g es ents →
    ∃ rv, OptRel g r rv ∧ (∀ w, (Instr.findAsking K kv ents i).run P w = .ok rv w) ∧ (ag = false → Instr.findNow d kv ents i = some rv)
  | [], ents, i, r, h, he => by
    have : ents = [] := List.eq_nil_of_length_eq_zero he.len.symm
    subst this
    simp only [mseek, Option.some.injEq] at h
    subst h
    exact ⟨none, trivial, fun w => by simp [Instr.findAsking], fun _ => rfl⟩
  | x :: es, ents, i, r, h, he => by
    obtain ⟨e, l', rfl, h1, h2, h3⟩ := he.cons
    obtain ⟨hf, d', hu', hc⟩ := keyK_flat hK
    rw [hu] at hu'
    simp only [Option.some.injEq] at hu'
    subst hu'
    simp only [mseek] at h
    have eq : ∀ {b : Bool}, keyEq ks ag k x.1 = some b → (∀ w, (Op.equal K kv e.key).run P w = .ok b w) ∧ (ag = false → Instr.sameNow d kv e.key = some b) := fun {b} hb => by
      obtain ⟨us, vs, e1, e2, l1, l2, e3, _, e4⟩ := key_rel hK hb hk h1
      refine ⟨fun w => ?_, fun ha => ?_⟩
      · have := eq_flat (P := P) 100 9900 K ks us vs b hf l1 l2 e3 w
        rw [e1, e2]
        exact this
      · obtain ⟨e5, e6, _⟩ := e4 ha
        rcases hc with ⟨h5, _⟩ | ⟨_, _, c, rfl, h6⟩
        · rw [ha] at h5; cases h5
        · rw [e5, e6] at e3
          simp only [eqVs] at e3
          split at e3
          · rename_i p q hp hq
            simp only [Option.some.injEq] at hq e3
            subst hq
            rw [Bool.and_true] at e3
            subst e3
            exact h6 _ _ _ hp
          · cases e3
    split at h
    · rename_i hb
      simp only [Option.some.injEq] at h
      subst h
      obtain ⟨q1, q2⟩ := eq hb
      exact ⟨some (i, e.val), ⟨rfl, h2⟩, fun w => by simp [Instr.findAsking, Sem.run_bind, q1 w], fun ha => by simp [Instr.findNow, q2 ha]⟩
    · rename_i hb
      obtain ⟨q1, q2⟩ := eq hb
      obtain ⟨rv, m1, m2, m3⟩ := seek_ask hK hu hk h h3
      exact ⟨rv, m1, fun w => by simp [Instr.findAsking, Sem.run_bind, q1 w, m2 w], fun ha => by simp [Instr.findNow, q2 ha, m3 ha]⟩
    · cases h

theorem run_findKeyP {g : GP} {K : TypeId} {ag : Bool} {ks : List CK} (hK : keyK P K = some (ag, ks)) {k : PV} {kv : Value} (hk : RelP g k kv) {es : List (PV × PV)} {ents : List MapEntry} {r : Option (Nat × PV)} (h : mseek ks ag k es 0 = some r) (he : EntsP g es ents) :
    ∃ rv, OptRel g r rv ∧ ∀ w, (Instr.findKey K kv ents).run P w = .ok rv w := by
  obtain ⟨hf, d, hu, hc⟩ := keyK_flat hK
  obtain ⟨rv, m1, m2, m3⟩ := seek_ask hK hu hk h he
  refine ⟨rv, m1, fun w => ?_⟩
  simp only [Instr.findKey, Sem.run_bind, run_underlying hu, Result.andThen_ok]
  rcases hc with ⟨rfl, _, h5⟩ | ⟨rfl, _, _⟩
  · cases ents with
    | nil =>
      have := m2 w
      simp only [Instr.findAsking, Sem.run_pure] at this
      simpa [Instr.findNow] using this
    | cons e l => simp only [Instr.findNow, h5]; exact m2 w
  · rw [m3 rfl]; rfl

theorem run_checkP {g : GP} {K : TypeId} {ag : Bool} {ks : List CK} (hK : keyK P K = some (ag, ks)) {k : PV} {kv : Value} (hk : RelP g k kv) (h : (keyEq ks ag k k).isSome = true) (em : Bool) (w : World) : (Instr.checkKey em 10000 K kv).run P w = .ok () w := by
  rw [Option.isSome_iff_exists] at h
  obtain ⟨r, hr⟩ := h
  obtain ⟨us, vs, e1, e2, l1, l2, e3, e4, e5⟩ := key_rel hK hr hk hk
  have hf := (keyK_flat hK).1
  have huv : vs = us := by
    cases ag with
    | true =>
      have h1 := (keyK_flat hK).2
      obtain ⟨d, _, hc⟩ := h1
      rcases hc with ⟨_, hv, _⟩ | ⟨h5, _⟩
      · rw [e1, hv, hv] at e2
        simpa using e2.symm
      · cases h5
    | false => obtain ⟨h1, h2, _⟩ := e5 rfl; rw [h1, h2]
  subst huv
  rw [e1]
  exact chk_flat 100 9900 K ks vs r hf l1 e3 em w

theorem same_bits {u : Value} (h : plainC u = true) (n : Nat) : Instr.sameBits n u u = true := by
  cases u with
  | bool b => cases n <;> simp [Instr.sameBits]
  | int k b => cases n <;> simp [Instr.sameBits]
  | string s =>
    have : (s == s) = true := by show (s.data == s.data) = true; simp
    cases n <;> simpa [Instr.sameBits] using this
  | _ => cases h

theorem run_stays {g : GP} {K : TypeId} {ag : Bool} {ks : List CK} (hK : keyK P K = some (ag, ks)) {k : PV} {kv : Value} (hk : RelP g k kv) (h : (keyEq ks ag k k).isSome = true) (old : Value) (ho : old = kv) (w : World) : (Instr.keyThatStays old kv).run P w = .ok kv w := by
  subst ho
  rw [Option.isSome_iff_exists] at h
  obtain ⟨r, hr⟩ := h
  obtain ⟨us, vs, e1, e2, l1, l2, e3, e4, e5⟩ := key_rel hK hr hk hk
  have : Instr.sameBits 10000 old old = true := by
    cases ag with
    | true =>
      obtain ⟨h1, h2⟩ := e4 rfl
      rw [h1]
      simp only [Instr.sameBits, beq_self_eq_true, Bool.true_and, List.all_eq_true, Prod.forall]
      intro a b hab
      have hz : ∀ (l : List Value) (a b : Value), (a, b) ∈ l.zip l → a = b ∧ a ∈ l := by
        intro l
        induction l with
        | nil => intro a b h; simp at h
        | cons x l ih =>
          intro a b h
          simp only [List.zip_cons_cons, List.mem_cons, Prod.mk.injEq] at h
          rcases h with ⟨rfl, rfl⟩ | h
          · exact ⟨rfl, List.mem_cons_self ..⟩
          · exact ⟨(ih a b h).1, List.mem_cons_of_mem _ (ih a b h).2⟩
      obtain ⟨rfl, hm⟩ := hz _ _ _ hab
      exact same_bits (h2 a (by simpa using hm)) _
    | false => obtain ⟨_, _, h1⟩ := e5 rfl; exact same_bits h1 _
  simp [Instr.keyThatStays, this]

section
variable {F : Fence} {E : Env P F} {g : GP} {rho rd ks : List Nat} {R : Nat → Prop} {ys : Option (List (List PV))} {w : World} {s : AS} {a : Act} {o : Oper} {K : AV → AS → Prop} {lst : Bool} {loc : List ABlk} {live : List Nat} {av : AV}

theorem run_lkp {t k e : TypeId} {x i : Operand} {ok : Bool} (hop : o.op = .lookup t x i ok) (hu : P.underlying t = some (.map k e)) {ag : Bool} {ck : List CK} (hK : keyK P k = some (ag, ck)) {z : Value} (hz : (P.info? e).bind (·.zero) = some z)
    {b : Nat} (hv0 : a.eval x = .map (some b)) {kp : PV} (h1 : RelP g kp (a.eval i)) {es : List (PV × PV)} {ents : Array MapEntry} (hent : EntsP g es ents.toList) {u : PV} (hu2 : lkpV ck ag (ofConst z) ok es kp = some u) :
    ∃ v, RelP g u v ∧ ∀ (w' : World) (clk : Nat), w'.heap[b]? = some (.map ents clk) → (execOp a.eval o).run P w' = .ok (.value v) w' := by
  unfold lkpV at hu2
  split at hu2
  · rename_i hkk
    split at hu2
    · rename_i r hr
      obtain ⟨rv, m1, m2⟩ := run_findKeyP hK h1 hr hent
      have hzr := relP_const g z
      have hzw : ∀ w : World, (zeroValue e).run P w = .ok z w := fun w => by
        rw [Option.bind_eq_some_iff] at hz
        obtain ⟨inf, hi1, hi2⟩ := hz
        simp [zeroValue, typeInfo, Sem.run_bind, hi1, hi2]
      have hval : RelP g ((r.map (·.2)).getD (ofConst z)) ((rv.map (·.2)).getD z) ∧ r.isSome = rv.isSome := by
        cases r with
        | none => cases rv with
          | none => exact ⟨hzr, rfl⟩
          | some y => exact m1.elim
        | some y => cases rv with
          | none => exact m1.elim
          | some q => exact ⟨m1.2, rfl⟩
      simp only [Option.some.injEq] at hu2
      subst hu2
      refine ⟨if ok then .tuple #[(rv.map (·.2)).getD z, .bool rv.isSome] else (rv.map (·.2)).getD z, ?_, fun w' clk hblk' => ?_⟩
      · cases ok
        · exact hval.1
        · refine .tup _ _ rfl (fun j x v hx hv => ?_)
          match j with
          | 0 => simp at hx hv; subst hx; subst hv; exact hval.1
          | 1 => simp at hx hv; subst hx; subst hv; rw [hval.2]; exact .val _ rfl
          | j + 2 => simp at hx
      · have hg : (getObj b).run P w' = .ok (.map ents clk) w' := by simp [getObj, Sem.run, hblk']
        simp only [execOp, hop]
        refine run_v ?_
        rw [hv0]
        simp only [Instr.lookup, Sem.run_bind, run_underlying hu, Result.andThen_ok, hg, Sem.run_pure, run_checkP hK h1 hkk, m2]
        cases rv with
        | none => cases ok <;> simp [hzw]
        | some q => cases ok <;> simp
    · cases hu2
  · cases hu2

theorem still_lkp {t k e : TypeId} {x i : Operand} {ok : Bool} (hop : o.op = .lookup t x i ok) (hu : P.underlying t = some (.map k e)) {ag : Bool} {ck : List CK} (hK : keyK P k = some (ag, ck)) {z : Value} (hz : (P.info? e).bind (·.zero) = some z) {x' i' : AX} (hx : cx x = some x') (hi : cx i = some i')
    (hT : Tmps g rho s a) (hL : LocAt g rho w s.loc) (h : stillV s (.lkp ck ag (ofConst z) ok x' i') = some av) : StillOk P g rho (rdOf s (.lkp ck ag (ofConst z) ok x' i')) w a o av := by
  have h0 := cx_rel hT hx
  have h1 := cx_rel hT hi
  simp only [stillV] at h
  split at h
  · rename_i id kp he1 he2
    rw [he1] at h0
    rw [he2] at h1
    split at h
    · rename_i es hes
      rw [Option.map_eq_some_iff] at h
      obtain ⟨u, hu2, rfl⟩ := h
      generalize hv0 : a.eval x = v0 at h0
      cases h0 with
      | mpl hb =>
        rename_i b
        obtain ⟨ents, clk, hblk, hent⟩ := hL id _ b hes hb
        cases h1 with
        | p h1 =>
          obtain ⟨v, hv1, hv2⟩ := run_lkp hop hu hK hz hv0 h1 hent hu2
          exact ⟨v, .p hv1, fun w' _ hk' => hv2 w' clk (by rw [hk' id (by simp [rdOf, he1]) b hb]; exact hblk)⟩
    · rename_i es hes
      rw [Option.map_eq_some_iff] at h
      obtain ⟨u, hu2, rfl⟩ := h
      generalize hv0 : a.eval x = v0 at h0
      cases h0 with
      | mpl hb =>
        rename_i b
        obtain ⟨l, hf, hent⟩ := hL id _ b hes hb
        cases h1 with
        | p h1 =>
          obtain ⟨v, hv1, hv2⟩ := run_lkp (ents := l.toArray) hop hu hK hz hv0 h1 hent hu2
          exact ⟨v, .p hv1, fun w' hA' _ => let ⟨clk, hc⟩ := hA'.map hf; hv2 w' clk hc⟩
    · cases h
  · rename_i es kp he1 he2
    rw [he1] at h0
    rw [he2] at h1
    rw [Option.map_eq_some_iff] at h
    obtain ⟨u, hu2, rfl⟩ := h
    generalize hv0 : a.eval x = v0 at h0
    cases h0 with
    | p h0 =>
      cases h0 with
      | mpf _ b ents hl hat k1 k2 =>
        cases h1 with
        | p h1 =>
          obtain ⟨v, hv1, hv2⟩ := run_lkp (ents := ents.toArray) hop hu hK hz hv0 h1 (es := es) ⟨by simpa using hl, fun i x e hx he => ⟨k1 i x e hx (by simpa using he), k2 i x e hx (by simpa using he)⟩⟩ hu2
          exact ⟨v, .p hv1, fun w' hA' _ => let ⟨clk, hc⟩ := hA'.map hat; hv2 w' clk hc⟩
  · cases h

theorem Inv.layB (h : Inv E g rho R ks loc live ys w) {ob : Obj} {kb : ABlk} (hat : BlkAt g (rho ++ [w.heap.size]) (w.alloc ob) w.heap.size kb) :
    Inv E g (rho ++ [w.heap.size]) R ks (loc ++ [kb]) live ys (w.alloc ob) := by
  have hk : ∀ b, b < w.heap.size → (w.alloc ob).heap[b]? = w.heap[b]? := fun b hb => Below.heap_alloc w _ b hb
  have hA : Agree g (w.alloc ob) := h.agree.keep (fun b o v e => hk b (h.agree.lt e))
  have hi := h.grow (h.step_alloc w rfl rfl rfl rfl _ (GP.le.refl g) hA (fun _ _ _ => rfl))
  have cutr : ∀ {id : Nat} {b : Nat}, (rho ++ [w.heap.size])[id]? = some b → rho[id]? = some b ∨ (id = loc.length ∧ b = w.heap.size) := by
    intro id b h2
    by_cases hid : id < loc.length
    · rw [List.getElem?_append_left (by rw [h.len]; exact hid)] at h2
      exact .inl h2
    · have e : id = loc.length := by
        have := (List.getElem?_eq_some_iff.1 h2).1
        simp [h.len] at this; omega
      subst e
      rw [List.getElem?_append_right (by rw [h.len]; exact Nat.le_refl _), h.len] at h2
      simp at h2
      exact .inr ⟨rfl, h2.symm⟩
  have cut : ∀ {id : Nat} {k : ABlk} {b : Nat}, (loc ++ [kb])[id]? = some k → (rho ++ [w.heap.size])[id]? = some b → (loc[id]? = some k ∧ rho[id]? = some b) ∨ (id = loc.length ∧ k = kb ∧ b = w.heap.size) := by
    intro id k b h1 h2
    rcases cutr h2 with h3 | ⟨rfl, rfl⟩
    · have hid : id < loc.length := by rw [← h.len]; exact (List.getElem?_eq_some_iff.1 h3).1
      rw [List.getElem?_append_left hid] at h1
      exact .inl ⟨h1, h3⟩
    · rw [List.getElem?_append_right (Nat.le_refl _)] at h1
      simp at h1
      exact .inr ⟨rfl, h1.symm, rfl⟩
  refine ⟨hA, hi.fr, hi.low, by simp [h.len], ?_, ?_, ?_, ?_, hi.toks, ?_, hi.nodup, hi.rsz, hi.ksnd, hi.marks⟩
  · intro id k b h1 h2
    rcases cut h1 h2 with ⟨h1, h2⟩ | ⟨rfl, rfl, rfl⟩
    · refine (hi.locs id k b h1 h2).keep (GP.le.refl g) (Pre.app _ _) (fun _ => rfl)
    · exact hat
  · intro id b h1
    rcases cutr h1 with h1 | ⟨rfl, rfl⟩
    · exact hi.rlt id b h1
    · exact ⟨h.low, by simp, fun hR => by have := h.rsz _ hR; omega⟩
  · intro id cs' b h1 hmn h2
    rcases cut h1 h2 with ⟨h1, h2⟩ | ⟨rfl, h3, rfl⟩
    · exact h.own id cs' b h1 hmn h2
    · intro o _
      cases e : g.frz w.heap.size o with
      | none => rfl
      | some v => have := h.agree.lt e; omega
  · intro id id' b h1 h2
    rcases cutr h1 with h1 | ⟨rfl, rfl⟩
    · rcases cutr h2 with h2 | ⟨rfl, rfl⟩
      · exact h.dis id id' b h1 h2
      · have := (h.rlt id _ h1).2.1; omega
    · rcases cutr h2 with h2 | ⟨rfl, -⟩
      · have := (h.rlt id' _ h2).2.1; omega
      · rfl
  · intro t' ht v e sz b h1 h2
    obtain ⟨h3, h4⟩ := h.tdis t' ht v e sz b h1 h2
    refine ⟨⟨fun id h6 => ?_, h3.2⟩, h4⟩
    rcases cutr h6 with h6 | ⟨-, rfl⟩
    · exact h3.1 id h6
    · obtain ⟨v', e', sz', h7, h8⟩ := h.toks t' ht
      rw [h1] at h7
      simp only [Option.some.injEq, Prod.mk.injEq] at h7
      obtain ⟨rfl, rfl, rfl⟩ := h7
      obtain ⟨n, xs, h9, _⟩ := h8 _ h2
      have := (h9.lt _ (rowB_own h2 h9)).2
      omega

theorem Inv.setMap (h : Inv E g rho R ks loc live ys w) {id b : Nat} {es es' : List (PV × PV)} (h1 : loc[id]? = some (.mp es)) (h2 : rho[id]? = some b) {ents ents' : Array MapEntry} {clk clk' : Nat}
    (hb : w.heap[b]? = some (.map ents clk)) (hr : EntsP g es' ents'.toList) : Inv E g rho R ks (loc.set id (.mp es')) live ys (w.putObj b (.map ents' clk')) := by
  have oth : ∀ b', b' ≠ b → (w.putObj b (.map ents' clk')).heap[b']? = w.heap[b']? := fun b' e => World.putObj_heap_other e
  have get : ∀ {id' : Nat} {k : ABlk}, (loc.set id (.mp es'))[id']? = some k → (id' = id ∧ k = .mp es') ∨ (id' ≠ id ∧ loc[id']? = some k) := by
    intro id' k hk
    rw [List.getElem?_set] at hk
    split at hk
    · rename_i e
      split at hk
      · simp only [Option.some.injEq] at hk; exact .inl ⟨e.symm, hk.symm⟩
      · cases hk
    · rename_i e
      exact .inr ⟨fun e' => e e'.symm, hk⟩
  have fro : ∀ {b' o : Nat} {v : Value}, g.frz b' o = some v → b' ≠ b := fun {_ o _} e he => by
    subst he
    rw [h.own id _ _ h1 rfl h2 o (Nat.zero_le _)] at e
    cases e
  have hA : Agree g (w.putObj b (.map ents' clk')) := h.agree.keep (fun b' o v e => oth b' (fro e))
  have hst : OwnStep E.n0 R (fun k => k = b) g g w (w.putObj b (.map ents' clk')) := ⟨GP.le.refl g, hA, rfl, rfl, rfl, by simp, fun k hk => by subst hk; exact ⟨(h.rlt id k h2).1, (h.rlt id k h2).2.2⟩, fun k _ hk => oth k hk, fun _ _ _ _ => rfl⟩
  refine ⟨hA, E.stab _ _ _ _ _ _ _ h.fr hst, by simpa using h.low, by simp [h.len], ?_, ?_, ?_, h.dis, ?_, h.tdis, h.nodup, fun k hk => by simpa using h.rsz k hk, h.ksnd, fun k hk => ?_⟩
  · intro id' k b' h3 h4
    rcases get h3 with ⟨rfl, rfl⟩ | ⟨hne, h3⟩
    · rw [h2] at h4
      simp only [Option.some.injEq] at h4
      subst h4
      exact ⟨ents', clk', World.putObj_heap_same (Array.getElem?_eq_some_iff.1 hb).1, hr⟩
    · exact (h.locs id' k b' h3 h4).keep (GP.le.refl g) (Pre.refl _) (fun _ => oth b' (fun e => hne (h.dis id' id b' h4 (e ▸ h2))))
  · intro id' b' h3
    simpa using h.rlt id' b' h3
  · intro id' c b' h3 hmn h4
    rcases get h3 with ⟨rfl, h5⟩ | ⟨hne, h3⟩
    · have := h.dis id' id' b' h4 h4
      rw [h2] at h4
      simp only [Option.some.injEq] at h4
      subst h4
      exact fun o _ => h.own id' _ _ h1 rfl h2 o (Nat.zero_le _)
    · exact h.own id' c b' h3 hmn h4
  · intro t' ht
    obtain ⟨v, e, sz, h3, h4⟩ := h.toks t' ht
    refine ⟨v, e, sz, h3, fun b' hb' => ?_⟩
    obtain ⟨n, xs, h5, h6⟩ := h4 b' hb'
    refine ⟨n, xs, ownsRow_keep h5 (fun b2 hb2 => oth b2 (fun e' => ?_)), h6⟩
    have := rowB_own hb' h5
    rw [this] at hb2
    simp only [Option.some.injEq] at hb2
    subst hb2
    subst e'
    exact (h.tdis t' ht v e sz b' h3 hb').1.1 id h2
  · obtain ⟨h3, h4, h5⟩ := h.marks k hk
    exact ⟨h3, h4, (oth k (fun e => by subst e; rw [hb] at h5; cases h5)).trans h5⟩

theorem eff_mkm {t : TypeId} (hop : o.op = .makeMap t none) (hI : Inv E g rho R ks s.loc s.live s.ys w) (h : effQ (SemK P F) lst rd s K .mkm) :
    EffOk P F a w o (Did E g rho ks lst rd w (s.t, s.base) K) := by
  simp only [effQ] at h
  have hI2 := hI.layB (ob := .map #[] 0) (kb := .mp []) ⟨#[], 0, World.alloc_heap_new w _, rfl, fun i x e h1 => by simp at h1⟩
  refine .inl ⟨.map (some w.heap.size), w.alloc (.map #[] 0), ?_, .mpl s.loc.length, g, rho ++ [w.heap.size], R, { s with loc := s.loc ++ [.mp []] }, hI2, GP.le.refl g, Pre.app _ _, .mpl (by rw [← hI.len]; simp), rfl, fun _ id _ b hb => Below.heap_alloc w _ b (hI.rlt id b hb).2.1, h⟩
  simp only [execOp, hop]
  exact run_vw (by simp [Instr.makeMap])

theorem EntsP.set {es : List (PV × PV)} {l : List MapEntry} (h : EntsP g es l) (i : Nat) {x : PV × PV} {e : MapEntry} (h1 : RelP g x.1 e.key) (h2 : RelP g x.2 e.val) : EntsP g (es.set i x) (l.set i e) :=
  ⟨by simp [h.len], fun j y q hy hq => by
    rw [List.getElem?_set] at hy hq
    split at hy
    · rename_i hij
      rw [if_pos hij] at hq
      split at hy
      · split at hq
        · simp only [Option.some.injEq] at hy hq; subst hy; subst hq; exact ⟨h1, h2⟩
        · cases hq
      · cases hy
    · rename_i hij
      rw [if_neg hij] at hq
      exact h.at_ j y q hy hq⟩
theorem EntsP.push {es : List (PV × PV)} {l : List MapEntry} (h : EntsP g es l) {x : PV × PV} {e : MapEntry} (h1 : RelP g x.1 e.key) (h2 : RelP g x.2 e.val) : EntsP g (es ++ [x]) (l ++ [e]) :=
  ⟨by simp [h.len], fun j y q hy hq => by
    by_cases hj : j < es.length
    · rw [List.getElem?_append_left hj] at hy
      rw [List.getElem?_append_left (by rw [← h.len]; exact hj)] at hq
      exact h.at_ j y q hy hq
    · rw [List.getElem?_append_right (by omega)] at hy
      rw [List.getElem?_append_right (by rw [← h.len]; omega), ← h.len] at hq
      match hn : j - es.length with
      | 0 => rw [hn] at hy hq; simp at hy hq; subst hy; subst hq; exact ⟨h1, h2⟩
      | n + 1 => rw [hn] at hy; simp at hy⟩

theorem mseek_at {ck : List CK} {ag : Bool} {k : PV} : ∀ {es : List (PV × PV)} {i j : Nat} {v : PV}, mseek ck ag k es i = some (some (j, v)) → i ≤ j ∧ ∃ x, es[j - i]? = some x ∧ keyEq ck ag k x.1 = some true
  | [], _, _, _, h => by simp [mseek] at h
  | e :: l, i, j, v, h => by
    simp only [mseek] at h
    split at h
    · rename_i hb
      simp only [Option.some.injEq, Prod.mk.injEq] at h
      obtain ⟨rfl, _⟩ := h
      exact ⟨Nat.le_refl _, e, by simp, hb⟩
    · obtain ⟨h1, x, h2, h3⟩ := mseek_at h
      refine ⟨by omega, x, ?_, h3⟩
      rw [show j - i = (j - (i + 1)) + 1 by omega, List.getElem?_cons_succ]
      exact h2
    · cases h

theorem eqC_true {c : CK} {p q : Value} (h : eqC c p q = some true) : p = q := by
  cases c <;> cases p <;> cases q <;> simp [eqC] at h
  · rw [h]
  · obtain ⟨rfl, h⟩ := h; rw [h]
  · rename_i s t
    have : s.data = t.data := by
      have h' : (s.data == t.data) = true := h
      simpa using h'
    congr 1
    cases s; cases t; simp at this; rw [this]
theorem eqVs_true : ∀ {ck : List CK} {us vs : List Value}, eqVs ck us vs = some true → us = vs
  | [], [], [], _ => rfl
  | c :: ck, u :: us, v :: vs, h => by
    simp only [eqVs] at h
    split at h
    · rename_i x y hx hy
      simp only [Option.some.injEq, Bool.and_eq_true] at h
      obtain ⟨rfl, rfl⟩ := h
      rw [eqC_true hx, eqVs_true hy]
    · cases h
  | [], _ :: _, _, h => by simp [eqVs] at h
  | [], [], _ :: _, h => by simp [eqVs] at h
  | _ :: _, [], _, h => by simp [eqVs] at h
  | _ :: _, _ :: _, [], h => by simp [eqVs] at h

theorem eff_mup {t k e : TypeId} {x i y : Operand} (hop : o.op = .mapUpdate t x i y) (hu : P.underlying t = some (.map k e)) {ag : Bool} {ck : List CK} (hK : keyK P k = some (ag, ck)) {x' i' y' : AX} (hx : cx x = some x') (hi : cx i = some i') (hy : cx y = some y')
    (hI : Inv E g rho R ks s.loc s.live s.ys w) (hT : Tmps g rho s a) (h : effQ (SemK P F) lst rd s K (.mup ck ag x' i' y')) : EffOk P F a w o (Did E g rho ks lst rd w (s.t, s.base) K) := by
  have h0 := cx_rel hT hx
  have h1 := cx_rel hT hi
  have h2 := cx_rel hT hy
  simp only [effQ] at h
  split at h
  · rename_i id kp vp he1 he2 he3
    rw [he1] at h0
    rw [he2] at h1
    rw [he3] at h2
    split at h
    · rename_i es hes
      split at h
      · rename_i es' hput
        obtain ⟨hrd, hK'⟩ := h
        generalize hv0 : a.eval x = v0 at h0
        cases h0 with
        | mpl hb =>
          rename_i b
          obtain ⟨ents, clk, hblk, hent⟩ := hI.locs id _ b hes hb
          cases h1 with
          | p h1 =>
            cases h2 with
            | p h2 =>
              have hg : (getObj b).run P w = .ok (.map ents clk) w := by simp [getObj, Sem.run, hblk]
              have hset : ∀ o, (setObj b o).run P w = .ok () (w.putObj b o) := fun o => by simp [setObj, Sem.run, hblk, World.putObj]
              have other : ∀ (ob : Obj), lst = false → ∀ id' ∈ rd, ∀ b', rho[id']? = some b' → (w.putObj b ob).heap[b']? = w.heap[b']? := fun ob hl id' hid' b' hb' => by
                refine World.putObj_heap_other (fun e => ?_)
                subst e
                have := hI.dis id id' b' hb hb'
                subst this
                rcases hrd with h | h
                · rw [hl] at h; cases h
                · exact h hid'
              unfold mput at hput
              split at hput
              · rename_i hkk
                split at hput
                · rename_i j u hr
                  simp only [Option.some.injEq] at hput
                  subst hput
                  obtain ⟨rv, m1, m2⟩ := run_findKeyP hK h1 hr hent
                  cases rv with
                  | none => exact m1.elim
                  | some q =>
                    obtain ⟨j', qv⟩ := q
                    obtain ⟨rfl, m3⟩ := m1
                    obtain ⟨_, x0, hx0, hx1⟩ := mseek_at hr
                    rw [Nat.sub_zero] at hx0
                    have hjl : j < ents.size := by
                      have := (List.getElem?_eq_some_iff.1 hx0).1
                      rw [hent.len] at this
                      simpa using this
                    have hej : ents.toList[j]? = some ents[j] := by simp [hjl]
                    have hkeq : (ents[j]).key = a.eval i := by
                      obtain ⟨us, vs, q1, q2, _, _, q3, _, _⟩ := key_rel hK hx1 h1 (hent.at_ j _ _ hx0 hej).1
                      rw [q1, q2, eqVs_true q3]
                    have hold : ((ents[j]?).map (·.key)).getD (a.eval i) = a.eval i := by
                      rw [Array.getElem?_eq_getElem hjl]; exact hkeq
                    have hI2 := hI.setMap (clk' := clk) hes hb hblk (ents' := ents.modify j fun e => { e with key := a.eval i, val := a.eval y }) (es' := es.set j (kp, vp)) (by
                      rw [Array.toList_modify]
                      have : ents.toList.modify j (fun e => { e with key := a.eval i, val := a.eval y }) = ents.toList.set j { ents[j] with key := a.eval i, val := a.eval y } := by
                        apply List.ext_getElem?
                        intro q
                        rw [List.getElem?_modify, List.getElem?_set]
                        by_cases hq : j = q
                        · subst hq; simp [hjl]
                        · simp [hq]
                      rw [this]
                      exact hent.set j h1 h2)
                    refine .inr (.inl ⟨_, ?_, .p .und, g, rho, R, { s with loc := s.loc.set id (.mp (es.set j (kp, vp))) }, hI2, GP.le.refl g, Pre.refl rho, .p .und, rfl, other _, hK'⟩)
                    simp only [execOp, hop]
                    refine run_uw ?_
                    rw [hv0]
                    simp only [Instr.mapUpdate, Sem.run_bind, run_underlying hu, Result.andThen_ok, hg, run_checkP hK h1 hkk, m2, run_stays hK h1 hkk _ hold, hset]
                · rename_i hr
                  simp only [Option.some.injEq] at hput
                  subst hput
                  obtain ⟨rv, m1, m2⟩ := run_findKeyP hK h1 hr hent
                  cases rv with
                  | some q => exact m1.elim
                  | none =>
                    have hI2 := hI.setMap (clk' := clk + 1) hes hb hblk (ents' := ents.push { key := a.eval i, val := a.eval y, born := clk }) (es' := es ++ [(kp, vp)]) (by
                      rw [Array.toList_push]
                      exact hent.push h1 h2)
                    refine .inr (.inl ⟨_, ?_, .p .und, g, rho, R, { s with loc := s.loc.set id (.mp (es ++ [(kp, vp)])) }, hI2, GP.le.refl g, Pre.refl rho, .p .und, rfl, other _, hK'⟩)
                    simp only [execOp, hop]
                    refine run_uw ?_
                    rw [hv0]
                    simp only [Instr.mapUpdate, Sem.run_bind, run_underlying hu, Result.andThen_ok, hg, run_checkP hK h1 hkk, m2, hset]
                · cases hput
              · cases hput
      · exact h.elim
    · exact h.elim
  · exact h.elim
end
end
end Go.Proofs.YtlbolnlcncjijaaGreat
