/- What comes in, as values without addresses. For the rows: what is small enough, of each parameter. What comes in, of maker's types. Closed facts of the program, for the rows. -/
import Derived.Test.YtefehlekneahmaaGreatGa14
import Derived.ProofKit
import Derived.OpenShut
import Derived.ChangeOld
import Derived.Below
import Derived.SizedLaws
import Derived.Deep.Slices
import Derived.Deep.Fields
import Derived.ChangeSame
import Derived.Test.YtefehlekneahmaaGreatGa17
import Derived.Test.YtefehlekneahmaaGreatRows
import Derived.WalkKit
namespace Go.Proofs.YtefehlekneahmaaGreat
open Go.RowKit Go.Shelf Go.ChangeShapes Go.WideShapes Go.Deep

/-- A memory whose cells all stay as they are. -/
def memG (w : World) : GP := ⟨fun b o => (w.cell? ⟨b, o, none⟩).filter (·.oneCell'), fun _ => none, 0⟩
theorem memG_agree (w : World) : Agree (memG w) w :=
  ⟨fun b o v h => .inl (by simpa [memG, Option.filter_eq_some_iff] using h), ⟨0, fun _ _ => rfl⟩⟩
theorem memG_frz {w : World} {b o : Nat} {v : Value} (h : w.cell? ⟨b, o, none⟩ = some v) (h1 : v.oneCell' = true) : (memG w).cel b o v := ⟨by simp [memG, h, h1], h1⟩

def TyF (T : TypeId → List PV → Prop) : List Field → List PV → Prop
  | [], x => x = []
  | g :: gs, x => ∃ a b, x = a ++ b ∧ T g.type a ∧ TyF T gs b
def TyN (T : List PV → Prop) : Nat → List PV → Prop
  | 0, x => x = []
  | n + 1, x => ∃ a b, x = a ++ b ∧ T a ∧ TyN T n b
/-- What a type's values look like. -/
def Ty (P : Program) : Nat → TypeId → List PV → Prop
  | 0, _, _ => False
  | f + 1, t, x => match P.underlying t with
    | some .bool => ∃ b, x = [.val (.bool b)]
    | some (.int k) => ∃ n, x = [.val (.int k n)] ∧ k.min ≤ n ∧ n ≤ k.max
    | some (.slice e) => ∃ es, x = [.sl .sh (P.cellsOf e) es] ∧ es.length ≤ 140737488355328 ∧ ∀ y ∈ es, y.length = P.cellsOf e ∧ Ty P f e y
    | some (.struct fs) => TyF (Ty P f) fs.toList x
    | some (.array n e) => TyN (Ty P f e) n x
    | _ => False
/-- Do the parts of a type's values lie one behind the other? -/
def flds (P : Program) : Nat → List Field → Nat → Bool
  | o, [], n => o == n
  | o, g :: gs, n => (g.offset == o) && flds P (o + P.cellsOf g.type) gs n
def layB (P : Program) : Nat → TypeId → Bool
  | 0, _ => false
  | f + 1, t => match P.underlying t with
    | some .bool => true
    | some (.int _) => true
    | some (.slice e) => decide (0 < P.bytesOf e) && decide (0 < P.cellsOf e) && layB P f e
    | some (.struct fs) => flds P 0 fs.toList (P.cellsOf t) && fs.toList.all fun g => layB P f g.type
    | some (.array n e) => decide (P.cellsOf t = n * P.cellsOf e) && layB P f e
    | _ => false
def SizedP {H : Type} (P : Program) (t : TypeId) (d : DataW H) : Prop := ∀ n ∈ d.weights P t, n ≤ reachBytes

section
variable {H : Type} {P : Program} {enc : TypeId × Value → H} {w : World} {base : Nat} {spare : Nat → Bool} {held : Bool}
theorem sizedP_agg {t : TypeId} {fs : Array Field} {ds : List (DataW H)} (hu : P.underlying t = some (.struct fs)) (h : SizedP P t (.agg ds)) {j : Nat} {f : Field} {d : DataW H} (hf : fs[j]? = some f) (hd : ds[j]? = some d) : SizedP P f.type d := by
  intro n hn
  refine h n ?_
  simp only [DataW.weights, hu]
  exact DataW.weights_mem_each (by simp [hf]) hd n hn
theorem sizedP_all {e : TypeId} : ∀ {ds : List (DataW H)} {d : DataW H}, d ∈ ds → ∀ n ∈ d.weights P e, n ∈ DataW.weightsAll P e ds
  | d0 :: ds, d, hd, n, hn => by
    simp only [DataW.weightsAll, List.mem_append]
    rcases List.mem_cons.1 hd with rfl | hd
    · exact .inl hn
    · exact .inr (sizedP_all hd n hn)
theorem sizedP_elem {t e : TypeId} {es sp : List (DataW H)} (hu : P.underlying t = some (.slice e)) (h : SizedP P t (.slice es sp)) {d : DataW H} (hd : d ∈ es) : SizedP P e d := by
  intro n hn
  refine h n ?_
  simp only [DataW.weights, hu, List.mem_cons, List.mem_append]
  exact .inr (.inl (sizedP_all hd n hn))
theorem sizedP_arr {t e : TypeId} {m : Nat} {es : List (DataW H)} (hu : P.underlying t = some (.array m e)) (h : SizedP P t (.agg es)) {d : DataW H} (hd : d ∈ es) : SizedP P e d := by
  intro n hn
  refine h n ?_
  simp only [DataW.weights, hu]
  exact sizedP_all hd n hn
theorem sizedP_len {t e : TypeId} {es sp : List (DataW H)} (hu : P.underlying t = some (.slice e)) (h : SizedP P t (.slice es sp)) : (es.length + sp.length) * P.bytesOf e ≤ reachBytes := by
  refine h _ ?_
  simp only [DataW.weights, hu, List.mem_cons, true_or]

theorem relLP_app {g : GP} {a b : List PV} {u v : List Value} (h : RelLP g a u) (k : RelLP g b v) : RelLP g (a ++ b) (u ++ v) := by
  refine ⟨by simp [h.len, k.len], fun x hx => ?_, fun i x y hx hy => ?_⟩
  · rcases List.mem_append.1 hx with hx | hx
    · exact h.one x hx
    · exact k.one x hx
  · by_cases hi : i < a.length
    · rw [List.getElem?_append_left hi] at hx
      rw [List.getElem?_append_left (by rw [← h.len]; exact hi)] at hy
      exact h.at_ i x y hx hy
    · rw [List.getElem?_append_right (by omega)] at hx
      rw [List.getElem?_append_right (by rw [← h.len]; omega), ← h.len] at hy
      exact k.at_ _ x y hx hy
theorem relLP_nil {g : GP} : RelLP g [] [] := ⟨rfl, fun v hv => (by cases hv), fun i x v hx => by simp at hx⟩
theorem relLP_one {g : GP} {x : PV} {v : Value} (h : RelP g x v) (h1 : v.oneCell' = true) : RelLP g [x] [v] :=
  ⟨rfl, fun u hu => by simp at hu; subst hu; exact h1, fun i y u hy hu => by
    cases i with
    | zero => simp at hy hu; subst hy; subst hu; exact h
    | succ i => simp at hy⟩

theorem rd_fields {g : GP} {T : TypeId → List PV → Prop} {cs : List Value} : ∀ {gs : List Field} {o : Nat}, flds P o gs cs.length = true → (∀ f ∈ gs, ∃ x, RelLP g x ((cs.drop f.offset).take (P.cellsOf f.type)) ∧ T f.type x) →
    ∃ x, RelLP g x (cs.drop o) ∧ TyF T gs x
  | [], o, h, _ => by
    have : o = cs.length := by simpa [flds] using h
    subst this
    exact ⟨[], by rw [List.drop_length]; exact relLP_nil, rfl⟩
  | f :: gs, o, h, hf => by
    simp only [flds, Bool.and_eq_true, beq_iff_eq] at h
    obtain ⟨a, ha, hTa⟩ := hf f (List.mem_cons_self ..)
    obtain ⟨b, hb, hTb⟩ := rd_fields h.2 (fun f' hf' => hf f' (List.mem_cons_of_mem _ hf'))
    rw [h.1] at ha
    refine ⟨a ++ b, ?_, a, b, rfl, hTa, hTb⟩
    have := relLP_app ha hb
    rwa [← List.drop_drop, List.take_append_drop] at this
theorem rd_array {g : GP} {T : List PV → Prop} {c : Nat} {cs : List Value} : ∀ (m i : Nat), cs.length = (i + m) * c → (∀ j, i ≤ j → j < i + m → ∃ x, RelLP g x ((cs.drop (j * c)).take c) ∧ T x) → ∃ x, RelLP g x (cs.drop (i * c)) ∧ TyN T m x
  | 0, i, h, _ => ⟨[], by rw [List.drop_eq_nil_of_le (by rw [h, Nat.add_zero]; exact Nat.le_refl _)]; exact relLP_nil, rfl⟩
  | m + 1, i, h, hf => by
    obtain ⟨a, ha, hTa⟩ := hf i (Nat.le_refl _) (by omega)
    obtain ⟨b, hb, hTb⟩ := rd_array m (i + 1) (by rw [h]; congr 1; omega) (fun j h1 h2 => hf j (by omega) (by omega))
    refine ⟨a ++ b, ?_, a, b, rfl, hTa, hTb⟩
    have := relLP_app ha hb
    rwa [Nat.add_mul, Nat.one_mul, ← List.drop_drop, List.take_append_drop] at this

theorem list_ofP {α : Type} {p : Nat → α → Prop} {n : Nat} (h : ∀ i, i < n → ∃ x, p i x) : ∃ xs : List α, xs.length = n ∧ ∀ i x, xs[i]? = some x → p i x := by
  induction n with
  | zero => exact ⟨[], rfl, fun i x hx => by simp at hx⟩
  | succ n ih =>
    obtain ⟨xs, hl, hx⟩ := ih (fun i hi => h i (by omega))
    obtain ⟨x, hp⟩ := h n (by omega)
    refine ⟨xs ++ [x], by simp [hl], fun i y hy => ?_⟩
    by_cases e : i < xs.length
    · rw [List.getElem?_append_left e] at hy; exact hx i y hy
    · rw [List.getElem?_append_right (by omega)] at hy
      cases hq : i - xs.length with
      | zero => rw [hq] at hy; simp at hy; subst hy; rw [show i = n by omega]; exact hp
      | succ q => rw [hq] at hy; simp at hy

theorem addPlain (b o i : Nat) : (⟨b, o, none⟩ : Addr).add i = ⟨b, o + i, none⟩ := by
  unfold Addr.add
  split
  · rename_i h; subst h; rfl
  · rfl
/-- What is read out of memory. -/
theorem rd_trod : ∀ (f : Nat) {t : TypeId} {cs : List Value} {fuel : Nat} {x : DataW H × List MemPlace}, layB P f t = true → DataW.trod enc P w base spare held fuel t cs = some x → SizedP P t x.1 → ∃ l, RelLP (memG w) l cs ∧ Ty P f t l
  | 0, t, cs, fuel, x, hl, _, _ => by simp [layB] at hl
  | f + 1, t, cs, fuel, x, hl, h, hz => by
    simp only [layB] at hl
    split at hl
    · rename_i hu
      cases fuel with
      | zero => simp [DataW.trod] at h
      | succ m =>
        unfold DataW.trod at h
        rw [hu] at h
        split at h <;> simp_all
        exact ⟨[.val (.bool _)], relLP_one (.val _ rfl) rfl, by simp [Ty, hu]⟩
    · rename_i k hu
      cases fuel with
      | zero => simp [DataW.trod] at h
      | succ m =>
        unfold DataW.trod at h
        rw [hu] at h
        split at h <;> simp_all
        obtain ⟨⟨rfl, hw⟩, _⟩ := h
        exact ⟨[.val (.int _ _)], relLP_one (.val _ (by simpa [scalar, Lit.wf] using hw)) rfl, by simpa [Ty, hu, Lit.wf] using hw⟩
    · rename_i e hu
      simp only [Bool.and_eq_true, decide_eq_true_eq] at hl
      obtain ⟨⟨hb0, hc0⟩, hle⟩ := hl
      rcases open_slice hu h with ⟨rfl, _⟩ | ⟨a, len, cap, m, n, D, Pl, rfl, hb, hlc, hm, hmm, rfl, hi⟩
      · refine ⟨[.sl .sh (P.cellsOf e) []], relLP_one (.sl .sh _ [] none 0 0 (fun _ _ => undef) rfl (by omega) (Nat.le_refl _) (by unfold maxLen; omega) (by trivial) (fun i e he => by simp at he) (fun i hi => by omega) (fun i j e x he => by simp at he)) rfl, ?_⟩
        simp only [Ty, hu]
        exact ⟨[], rfl, by simp, fun y hy => by cases hy⟩
      · have hlm : len ≤ m := by rw [hmm]; split <;> omega
        have hx : ∀ i, i < len → ∃ p : List PV × List Value, w.cells? base (a.add (i * P.cellsOf e)) (P.cellsOf e) = some p.2 ∧ RelLP (memG w) p.1 p.2 ∧ Ty P f e p.1 := fun i hil => by
          obtain ⟨cs', hc, ht⟩ := hi i (by omega)
          obtain ⟨l, h1, h2⟩ := rd_trod f hle ht (sizedP_elem hu hz (List.mem_map.2 ⟨i, by simpa using hil, rfl⟩))
          exact ⟨(l, cs'), hc, h1, h2⟩
        obtain ⟨ps, hpl, hps⟩ := list_ofP hx
        have hlen : len ≤ 140737488355328 := by
          have h1 := sizedP_len hu hz
          simp only [List.length_map, List.length_range] at h1
          have h2 : len ≤ (len + (m - len)) * P.bytesOf e := Nat.le_trans (Nat.le_add_right _ _) (Nat.le_mul_of_pos_right _ hb0)
          simp only [reachBytes] at h1
          omega
        obtain ⟨b, o, sp⟩ := a
        have hsp : 0 < len → sp = none := fun h0 => by
          obtain ⟨cs', hc, _⟩ := hi 0 (by omega)
          obtain ⟨_, h2, h3⟩ := World.cells?_some hc
          have h0' := h3 0 hc0
          rw [List.getElem?_eq_getElem (by omega)] at h0'
          simpa [Addr.add] using World.cell?_spot h0'
        have cell : ∀ i (p : List PV × List Value), ps[i]? = some p → p.2.length = P.cellsOf e ∧ sp = none ∧ ∀ j (v : Value), p.2[j]? = some v → w.cell? ⟨b, o + i * P.cellsOf e + j, none⟩ = some v := fun i p hp => by
          obtain ⟨_, h2, h3⟩ := World.cells?_some (hps i p hp).1
          have hil : i < ps.length := (List.getElem?_eq_some_iff.1 hp).1
          have hs := hsp (by omega)
          subst hs
          refine ⟨h2, rfl, fun j v hv => ?_⟩
          have hj : j < P.cellsOf e := by have := (List.getElem?_eq_some_iff.1 hv).1; omega
          have := h3 j hj
          rw [hv, addPlain, addPlain] at this
          exact this
        refine ⟨[.sl .sh (P.cellsOf e) (ps.map (·.1))], relLP_one (.sl .sh _ _ (some ⟨b, o, sp⟩) len cap (fun i j => (ps.getD i ([], [])).2.getD j undef) (by simpa using hpl) hlen hlc hm (by trivial) (fun i y hy => ?_) (fun i hil => ?_) (fun i j y z hy hz => ?_)) rfl, ?_⟩
        · rw [List.getElem?_map, Option.map_eq_some_iff] at hy
          obtain ⟨p, hp, rfl⟩ := hy
          rw [(hps i p hp).2.1.len, (cell i p hp).1]
        · have hp : ps[i]? = some ps[i] := List.getElem?_eq_getElem (by omega)
          obtain ⟨h1, h2, h3⟩ := cell i _ hp
          subst h2
          refine ⟨b, o, rfl, fun j hj => ?_⟩
          have hv : ps[i].2[j]? = some ps[i].2[j] := List.getElem?_eq_getElem (by omega)
          have he : (ps.getD i ([], [])).2.getD j undef = ps[i].2[j] := by
            simp [List.getD_eq_getElem?_getD, hp, hv]
          rw [he]
          exact memG_frz (h3 j _ hv) ((hps i _ hp).2.1.one _ (List.getElem_mem _))
        · rw [List.getElem?_map, Option.map_eq_some_iff] at hy
          obtain ⟨p, hp, rfl⟩ := hy
          have hj : j < p.2.length := by rw [← (hps i p hp).2.1.len]; exact (List.getElem?_eq_some_iff.1 hz).1
          have hv : p.2[j]? = some p.2[j] := List.getElem?_eq_getElem hj
          have he : (ps.getD i ([], [])).2.getD j undef = p.2[j] := by
            simp [List.getD_eq_getElem?_getD, hp, hv]
          rw [he]
          exact (hps i p hp).2.1.at_ j z _ hz hv
        · simp only [Ty, hu]
          refine ⟨_, rfl, by simp; omega, fun y hy => ?_⟩
          obtain ⟨p, hp, rfl⟩ := List.mem_map.1 hy
          obtain ⟨i, hpi⟩ := List.mem_iff_getElem?.1 hp
          exact ⟨by rw [(hps i p hpi).2.1.len, (cell i p hpi).1], (hps i p hpi).2.2⟩
    · rename_i fs hu
      simp only [Bool.and_eq_true] at hl
      obtain ⟨xs, n, _, rfl, hlen, hxl, hf⟩ := DataW.trod_struct hu h
      have := rd_fields (g := memG w) (T := Ty P f) (cs := cs) (gs := fs.toList) (o := 0) (by rw [hlen]; exact hl.1) (fun g hg => by
        obtain ⟨j, hj⟩ := List.mem_iff_getElem?.1 hg
        have hj' : fs[j]? = some g := by simpa using hj
        have hlt : j < xs.length := by rw [hxl]; exact (Array.getElem?_eq_some_iff.1 hj').1
        have h1 := hf j g hj'
        rw [List.getElem?_eq_getElem hlt] at h1
        exact rd_trod f (List.all_eq_true.1 hl.2 g hg) h1 (sizedP_agg hu hz hj' (by simp [List.getElem?_eq_getElem hlt])))
      obtain ⟨l, h1, h2⟩ := this
      exact ⟨l, by simpa using h1, by simpa only [Ty, hu] using h2⟩
    · rename_i n e hu
      simp only [Bool.and_eq_true, decide_eq_true_eq] at hl
      obtain ⟨xs, m, _, rfl, hlen, hxl, hf⟩ := DataW.trod_array hu h
      have := rd_array (g := memG w) (T := Ty P f e) (c := P.cellsOf e) (cs := cs) n 0 (by rw [hlen, hl.1]; simp) (fun j _ hj => by
        have hlt : j < xs.length := by omega
        have h1 := hf j (by omega)
        rw [List.getElem?_eq_getElem hlt] at h1
        exact rd_trod f hl.2 h1 (sizedP_arr hu hz (List.mem_map.2 ⟨_, List.getElem_mem hlt, rfl⟩)))
      obtain ⟨l, h1, h2⟩ := this
      exact ⟨l, by simpa using h1, by simpa only [Ty, hu] using h2⟩
    · cases hl
/-- An argument of a type, out of what its cells are. -/
def argPV (P : Program) (t : TypeId) (l : List PV) : PV :=
  match P.underlying t with
  | some (.struct _) => .agg l
  | some (.array _ _) => .agg l
  | _ => l.headD .any
theorem rd_arg {r : Reach} {b0 : Nat} {t : TypeId} {v : Value} {d : DataW H} {p : List MemPlace} (f : Nat) (hl : layB P f t = true) (hv : Value.okWide P w r b0 t v) (h : DataW.Trod enc P w base spare held t v d p) (hz : SizedP P t d) : ∃ l, Ty P f t l ∧ RelP (memG w) (argPV P t l) v := by
  obtain ⟨fuel, h⟩ := h
  obtain ⟨l, h1, h2⟩ := rd_trod f hl h hz
  refine ⟨l, h2, ?_⟩
  have agg : (∃ cs, v = .agg cs) → RelP (memG w) (.agg l) v := by
    rintro ⟨cs, rfl⟩
    exact .agg l cs (by simpa [Value.cells] using h1.len) (fun u hu => h1.one u (by simpa [Value.cells] using hu)) (fun i x u hx hu => h1.at_ i x u hx (by simpa [Value.cells] using hu))
  have one : (∀ cs, v ≠ .agg cs) → RelP (memG w) (l.headD .any) v := fun hne => by
    have hc : v.cells = #[v] := by cases v <;> first | rfl | exact absurd rfl (hne _)
    rw [hc] at h1
    have hlen : l.length = 1 := by simpa using h1.len
    match l, hlen with
    | [x], _ => exact h1.at_ 0 x v rfl rfl
  unfold argPV
  cases f with
  | zero => simp [layB] at hl
  | succ f =>
    simp only [layB] at hl
    split at hl
    · rename_i hu
      rw [hu]
      exact one (fun cs e => by subst e; simp [Value.okWide, hu, Cell.okWide, Cell.ok] at hv)
    · rename_i k hu
      rw [hu]
      exact one (fun cs e => by subst e; simp [Value.okWide, hu, Cell.okWide, Cell.ok] at hv)
    · rename_i e' hu
      rw [hu]
      exact one (fun cs e => by subst e; simp [Value.okWide, hu, Cell.okWide, Cell.ok] at hv)
    · rename_i fs hu
      rw [hu]
      simp only [Value.okWide, hu] at hv
      obtain ⟨cs, h3, _⟩ := hv
      exact agg ⟨cs, h3⟩
    · rename_i n e' hu
      rw [hu]
      simp only [Value.okWide, hu] at hv
      obtain ⟨cs, h3, _⟩ := hv
      exact agg ⟨cs, h3⟩
    · cases hl
end
/-- A law, by its contract. -/
theorem law_calls {P : Program} {f : FuncId} {args : List PV} (h : SemC P f args (fun r => r = pb true)) {W : World} {vs : List Value} (ha : ArgsP (memG W) args vs) :
    Calls P f vs.toArray W fun e W' => e = .returned (.bool true) ∧ Below W.heap.size W W' :=
  (h.2 (memG W) W vs (memG_agree W) ha).mono fun e W' ⟨v, g', r, h1, _, _, _, h2, h3, h4⟩ => by
    subst h3
    cases h2 with
    | val _ _ => exact ⟨h1, h4⟩
theorem argsP_nil {g : GP} : ArgsP g [] [] := ⟨rfl, fun i x v hx => by simp at hx⟩
theorem argsP_cons {g : GP} {x : PV} {v : Value} {l : List PV} {vs : List Value} (h : RelP g x v) (k : ArgsP g l vs) : ArgsP g (x :: l) (v :: vs) :=
  ⟨by simp [k.len], fun i y u hy hu => by
    cases i with
    | zero => simp at hy hu; subst hy; subst hu; exact h
    | succ i => exact k.at_ i y u (by simpa using hy) (by simpa using hu)⟩
end Go.Proofs.YtefehlekneahmaaGreat
namespace Go.Proofs.YtefehlekneahmaaGreat
open Go.RowKit Go.Shelf Go.ChangeShapes Go.WideShapes Go.Deep
theorem sizedP_each {H : Type} {P : Program} {ts : List TypeId} {ds : List (DataW H)} (h : (DataW.weightsEach P ts ds).all (· ≤ reachBytes) = true) {j : Nat} {t : TypeId} {d : DataW H} (ht : ts[j]? = some t) (hd : ds[j]? = some d) : SizedP P t d := fun n hn => by
  have := List.all_eq_true.1 h n (DataW.weights_mem_each ht hd n hn)
  simpa using this
theorem tyStruct {P : Program} {f : Nat} {t : TypeId} {fs : Array Field} {l : List PV} (hu : P.underlying t = some (.struct fs)) (h : Ty P (f + 1) t l) : TyF (Ty P f) fs.toList l := by simpa only [Ty, hu] using h
theorem tySlice {P : Program} {f : Nat} {t e : TypeId} {l : List PV} (hu : P.underlying t = some (.slice e)) (h : Ty P (f + 1) t l) : ∃ es, l = [.sl .sh (P.cellsOf e) es] ∧ es.length ≤ 140737488355328 ∧ ∀ y ∈ es, y.length = P.cellsOf e ∧ Ty P f e y := by simpa only [Ty, hu] using h
theorem tyArray {P : Program} {f n : Nat} {t e : TypeId} {l : List PV} (hu : P.underlying t = some (.array n e)) (h : Ty P (f + 1) t l) : TyN (Ty P f e) n l := by simpa only [Ty, hu] using h
theorem tyInt {P : Program} {f : Nat} {t : TypeId} {k : IntKind} {l : List PV} (hu : P.underlying t = some (.int k)) (h : Ty P (f + 1) t l) : ∃ n, l = [.val (.int k n)] := by
  have h : ∃ n, l = [.val (.int k n)] ∧ k.min ≤ n ∧ n ≤ k.max := by simpa only [Ty, hu] using h
  obtain ⟨n, h, -⟩ := h
  exact ⟨n, h⟩
theorem tyBool {P : Program} {f : Nat} {t : TypeId} {l : List PV} (hu : P.underlying t = some .bool) (h : Ty P (f + 1) t l) : ∃ n, l = [.val (.bool n)] := by simpa only [Ty, hu] using h
/-- Elements of a slice, one by one. -/
theorem list_map_ex {α : Type} {f : α → List PV} : ∀ {es : List (List PV)}, (∀ y ∈ es, ∃ a, y = f a) → ∃ xs : List α, es = xs.map f
  | [], _ => ⟨[], rfl⟩
  | y :: es, h => by
    obtain ⟨a, rfl⟩ := h y (List.mem_cons_self ..)
    obtain ⟨xs, rfl⟩ := list_map_ex (es := es) fun y hy => h y (List.mem_cons_of_mem _ hy)
    exact ⟨a :: xs, rfl⟩
theorem argStruct {P : Program} {t : TypeId} {fs : Array Field} {l : List PV} (hu : P.underlying t = some (.struct fs)) : argPV P t l = .agg l := by unfold argPV; rw [hu]
theorem argArray {P : Program} {n : Nat} {t e : TypeId} {l : List PV} (hu : P.underlying t = some (.array n e)) : argPV P t l = .agg l := by unfold argPV; rw [hu]
theorem argInt {P : Program} {t : TypeId} {k : IntKind} {x : PV} (hu : P.underlying t = some (.int k)) : argPV P t [x] = x := by unfold argPV; rw [hu]; rfl
theorem argSlice {P : Program} {t e : TypeId} {x : PV} (hu : P.underlying t = some (.slice e)) : argPV P t [x] = x := by unfold argPV; rw [hu]; rfl
theorem argBool {P : Program} {t : TypeId} {x : PV} (hu : P.underlying t = some .bool) : argPV P t [x] = x := by unfold argPV; rw [hu]; rfl
end Go.Proofs.YtefehlekneahmaaGreat
namespace Go.Proofs.YtefehlekneahmaaGreat.Mk
open Go.RowKit
abbrev uInt : Tryz.prog.underlying 3 = some (.int .i64) := Tryz.underlying3
set_option maxRecDepth 100000 in
theorem ty_ints {f : Nat} {l : List PV} (h : Ty Tryz.prog (f + 2) 27 l) : ∃ xs : List Int, l = [pis xs] := by
  obtain ⟨es, rfl, -, h⟩ := tySlice Tryz.underlying27 h
  obtain ⟨xs, rfl⟩ := list_map_ex (f := fun x : Int => [pi x]) fun y hy => tyInt uInt (h y hy).2
  exact ⟨xs, rfl⟩
set_option maxRecDepth 100000 in
theorem ty_mark {f : Nat} {l : List PV} (h : Ty Tryz.prog (f + 2) 68 l) : ∃ m : Int × Int, l = [pi m.1, pi m.2] := by
  obtain ⟨a0, r0, rfl, h0, a1, r1, rfl, h1, rfl⟩ := tyStruct Tryz.underlying68 h
  obtain ⟨n0, rfl⟩ := tyInt uInt h0
  obtain ⟨n1, rfl⟩ := tyInt uInt h1
  exact ⟨(n0, n1), rfl⟩
set_option maxRecDepth 100000 in
theorem ty_book {l : List PV} (h : Ty Tryz.prog 10 25 l) : ∃ b, l = bookC .sh .sh b := by
  obtain ⟨a0, r0, rfl, h0, a1, r1, rfl, h1, a2, r2, rfl, h2, a3, r3, rfl, h3, rfl⟩ := tyStruct Tryz.underlying25 h
  obtain ⟨es, rfl, -, g1⟩ := tySlice Tryz.underlying22 h0
  obtain ⟨hs, rfl⟩ := list_map_ex (f := fun h : List Int => [pis h]) fun y hy => ty_ints (g1 y hy).2
  obtain ⟨es2, rfl, -, g2⟩ := tySlice Tryz.underlying23 h1
  obtain ⟨ms, rfl⟩ := list_map_ex (f := fun m : Int × Int => [pi m.1, pi m.2]) fun y hy => ty_mark (g2 y hy).2
  obtain ⟨n2, rfl⟩ := tyInt uInt h2
  obtain ⟨n3, rfl⟩ := tyInt uInt h3
  exact ⟨⟨hs, ms, n2, n3⟩, rfl⟩
set_option maxRecDepth 100000 in
theorem ty_two {l : List PV} (h : Ty Tryz.prog 10 47 l) : ∃ a c, l = [pi a, pi c] := by
  obtain ⟨a, r, rfl, h1, a2, r2, rfl, h2, rfl⟩ := tyArray Tryz.underlying47 h
  obtain ⟨n1, rfl⟩ := tyInt uInt h1
  obtain ⟨n2, rfl⟩ := tyInt uInt h2
  exact ⟨n1, n2, rfl⟩
end Go.Proofs.YtefehlekneahmaaGreat.Mk
namespace Go.Proofs.YtefehlekneahmaaGreat
open Go.ChangeShapes Go.WideShapes Go.ChangeAt Go.RowKit Go.Deep
theorem ownKnobs : ownKnob Tryz.prog.godebug = none := by kernel_rfl
theorem laidOut : laidOutB Tryz.prog = true := by kernel_rfl
theorem mapsR : mapsRowed Tryz.prog = true := by kernel_rfl
theorem stopsH : Tryz.prog.stopsHeard = true := by kernel_rfl
theorem mayE : Tryz.prog.mayEnter = true := by kernel_rfl
theorem lift0 : Tryz.prog.liftsFinal = Go.Proofs.YtefehlekneahmaaGreat.Rows.mendDearRow.lifted := by kernel_rfl
theorem make0 : Tryz.prog.make = some Go.Proofs.YtefehlekneahmaaGreat.Rows.mendDearRow.make := by kernel_rfl
end Go.Proofs.YtefehlekneahmaaGreat
