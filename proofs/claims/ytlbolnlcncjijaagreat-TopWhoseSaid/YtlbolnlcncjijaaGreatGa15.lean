/- Pure: lists, sets as numbers, results. Contracts of what is shared: numbers and spans. Contracts of what is shared: lists and sets. Mathematics of maker: what can be, of a maker, with some kinds changed. Mathematics of maker: values, changes that are needed, a mark more, two makers. -/
import Derived.Test.YtlbolnlcncjijaaGreatGa14
import Derived.Test.YtlbolnlcncjijaaGreatProg
namespace Go.Proofs.YtlbolnlcncjijaaGreat
open Go.RowKit Go.Shelf
theorem real_aggL {args : List PV} {i j : Nat} {cs : List PV} {k : SK} {sz : Nat} {es : List (List PV)} (h : ∃ g w vs, Agree g w ∧ ArgsP g args vs) (hi : args[i]? = some (.agg cs)) (hj : cs[j]? = some (.sl k sz es)) : es.length ≤ 140737488355328 := by
  obtain ⟨g, w, vs, hA, ha⟩ := h
  have hlt : i < vs.length := by rw [← ha.len]; exact (List.getElem?_eq_some_iff.1 hi).1
  have := ha.at_ i _ _ hi (List.getElem?_eq_getElem hlt)
  generalize vs[i] = v at this
  cases this with
  | agg _ us hl h1 hh =>
    have hlt2 : j < us.size := by rw [← hl]; exact (List.getElem?_eq_some_iff.1 hj).1
    have := hh j _ _ hj (Array.getElem?_eq_getElem hlt2)
    generalize us[j] = u at this
    cases this with
    | sl _ _ _ ad n c f hl hn hc hm hk hz hat hh => omega
theorem retQ_two_le {P : Program} {t u : Nat} {R : PV → Prop} {s : AS} {x y x' y' : PV} (h : look s.t t = .p x) (h2 : look s.t u = .p y) (h3 : PVle x x') (h4 : PVle y y') (hR : R (.tup [x', y'])) : retQ P [.tmp t, .tmp u] R s :=
  ⟨[.p x, .p y], [x, y], s.loc, .tup [x', y'], by simp [resA, h, h2], rfl, PVle.tup ⟨h3, h4, trivial⟩, hR⟩
theorem retQ_cell_le {P : Program} {t : Nat} {ty : TypeId} {n : Option Nat} {R : PV → Prop} {s : AS} {x y : PV} (hs : shapeN P ty = some n) (h : stillV s (.ld n (.t t)) = some (.p x)) (hle : PVle x y) (hR : R y) : retQ P [.cell t ty] R s :=
  ⟨[.p x], [x], s.loc, y, by simp [resA, hs, h], rfl, hle, hR⟩
theorem retQ_ct {P : Program} {t t' : Nat} {ty : TypeId} {n : Option Nat} {Q : PV → Prop} {s : AS} {x y : PV} (hs : shapeN P ty = some n) (h : stillV s (.ld n (.t t)) = some (.p x)) (h' : look s.t t' = .p y) (hQ : Q (.tup [x, y])) : retQ P [.cell t ty, .tmp t'] Q s :=
  ⟨[.p x, .p y], [x, y], s.loc, _, by simp [resA, hs, h, h'], rfl, PVle.refl _, hQ⟩
theorem foldl_take {α β : Type} (f : β → α → β) (x : β) (l : List α) (j : Nat) (h : j < l.length) : (l.take (j + 1)).foldl f x = f ((l.take j).foldl f x) l[j] := by
  rw [List.take_succ_eq_append_getElem h, List.foldl_append]; rfl

theorem flat_len {α β : Type} {f : α → List β} {m : Nat} (h : ∀ x, (f x).length ≤ m) : ∀ l : List α, (l.flatMap f).length ≤ l.length * m
  | [] => by simp
  | x :: l => by
    rw [List.flatMap_cons, List.length_append, List.length_cons, Nat.succ_mul]
    have := h x
    have := flat_len h l
    omega
def lexB : List Int → List Int → Bool
  | _, [] => false
  | [], _ :: _ => true
  | x :: l, y :: m => if x = y then lexB l m else decide (x < y)
def shortB (l m : List Int) : Bool := if l.length = m.length then lexB l m else decide (l.length < m.length)
theorem lexB_irr : ∀ l, lexB l l = false
  | [] => rfl
  | x :: l => by simp [lexB, lexB_irr l]
theorem lexB_trans : ∀ {a b c : List Int}, lexB a b = true → lexB b c = true → lexB a c = true
  | [], [], _, h, _ => by simp [lexB] at h
  | _ :: _, [], _, h, _ => by simp [lexB] at h
  | _, _ :: _, [], _, k => by simp [lexB] at k
  | [], _ :: _, _ :: _, _, _ => rfl
  | x :: a, y :: b, z :: c, h, k => by
    simp only [lexB] at *
    split at h
    · rename_i e; subst e
      split at k
      · rename_i e; subst e; rw [if_pos rfl]; exact lexB_trans h k
      · rename_i e; rw [if_neg e]; exact k
    · rename_i e
      simp only [decide_eq_true_eq] at h
      split at k
      · rename_i e2; subst e2; rw [if_neg e]; simpa using h
      · rename_i e2
        simp only [decide_eq_true_eq] at k
        rw [if_neg (by omega)]
        simp; omega
theorem lexB_total : ∀ {a b : List Int}, lexB a b = false → lexB b a = false → a = b
  | [], [], _, _ => rfl
  | [], _ :: _, h, _ => by simp [lexB] at h
  | _ :: _, [], _, h => by simp [lexB] at h
  | x :: a, y :: b, h, k => by
    simp only [lexB] at *
    split at h
    · rename_i e; subst e
      rw [if_pos rfl] at k
      rw [lexB_total h k]
    · rename_i e
      rw [if_neg (by omega)] at k
      simp at h k
      omega
theorem shortB_irr (l : List Int) : shortB l l = false := by simp [shortB, lexB_irr]
theorem shortB_trans {a b c : List Int} (h : shortB a b = true) (k : shortB b c = true) : shortB a c = true := by
  unfold shortB at *
  split at h
  · rename_i e
    split at k
    · rename_i e2; rw [if_pos (by omega)]; exact lexB_trans h k
    · rename_i e2; rw [if_neg (by omega)]; simp at k ⊢; omega
  · rename_i e
    simp only [decide_eq_true_eq] at h
    split at k
    · rename_i e2; rw [if_neg (by omega)]; simp; omega
    · rename_i e2; simp only [decide_eq_true_eq] at k; rw [if_neg (by omega)]; simp; omega
theorem shortB_total {a b : List Int} (h : shortB a b = false) (k : shortB b a = false) : a = b := by
  unfold shortB at *
  split at h
  · rename_i e; rw [if_pos e.symm] at k; exact lexB_total h k
  · rename_i e; rw [if_neg (by omega)] at k; simp at h k; omega
def bestL : List (List Int) → List Int → List Int := fun ls b => ls.foldl (fun b l => if shortB l b then l else b) b
theorem bestL_facts : ∀ (ls : List (List Int)) (b : List Int), (bestL ls b = b ∨ bestL ls b ∈ ls) ∧ shortB b (bestL ls b) = false ∧ ∀ l ∈ ls, shortB l (bestL ls b) = false
  | [], b => ⟨.inl rfl, shortB_irr b, fun l h => by simp at h⟩
  | l :: ls, b => by
    have ih := bestL_facts ls (if shortB l b then l else b)
    have e : bestL (l :: ls) b = bestL ls (if shortB l b then l else b) := rfl
    rw [e]
    obtain ⟨h1, h2, h3⟩ := ih
    have key : shortB b (bestL ls (if shortB l b then l else b)) = false ∧ shortB l (bestL ls (if shortB l b then l else b)) = false := by
      generalize hR : bestL ls (if shortB l b then l else b) = R at *
      cases hlb : shortB l b
      · rw [hlb] at h2
        simp only [Bool.false_eq_true, if_false] at h2
        refine ⟨h2, ?_⟩
        cases hx : shortB l R
        · rfl
        · -- l < R, R <= b : l < b
          cases hy : shortB R b
          · have := shortB_total h2 hy
            subst this
            rw [hlb] at hx; cases hx
          · have := shortB_trans hx hy
            rw [hlb] at this; cases this
      · rw [hlb] at h2
        simp only [if_true] at h2
        refine ⟨?_, h2⟩
        cases hx : shortB b R
        · rfl
        · have := shortB_trans hlb hx
          rw [h2] at this; cases this
    refine ⟨?_, key.1, fun x hx => ?_⟩
    · rcases h1 with h1 | h1
      · rw [h1]
        split
        · exact .inr (List.mem_cons_self ..)
        · exact .inl rfl
      · exact .inr (List.mem_cons_of_mem _ h1)
    · rcases List.mem_cons.1 hx with rfl | hx
      · exact key.2
      · exact h3 x hx
def incL (l : List Int) : Prop := l.Pairwise (· < ·)
theorem inc_sub : ∀ {l m : List Int}, incL l → incL m → (∀ n ∈ l, n ∈ m) → l.length ≤ m.length ∧ (l.length = m.length → l = m)
  | [], [], _, _, _ => ⟨Nat.le_refl _, fun _ => rfl⟩
  | [], _ :: _, _, _, _ => ⟨Nat.zero_le _, fun h => by simp at h⟩
  | x :: l, [], _, _, h => by have := h x (List.mem_cons_self ..); simp at this
  | x :: l, y :: m, h1, h2, h => by
    unfold incL at h1 h2
    rw [List.pairwise_cons] at h1 h2
    have hx := h x (List.mem_cons_self ..)
    have lm : ∀ n ∈ l, n ∈ m := fun n hn => by
      have h3 := h1.1 n hn
      rcases List.mem_cons.1 (h n (List.mem_cons_of_mem _ hn)) with rfl | h4
      · rcases List.mem_cons.1 hx with rfl | h5
        · omega
        · have := h2.1 x h5; omega
      · exact h4
    obtain ⟨k1, k2⟩ := inc_sub (l := l) (m := m) h1.2 h2.2 lm
    refine ⟨by simpa using k1, fun he => ?_⟩
    have he2 : l.length = m.length := by simpa using he
    have hlm := k2 he2
    subst hlm
    rcases List.mem_cons.1 hx with rfl | h5
    · rfl
    · have := h1.1 x h5; omega
theorem inc_short {l m : List Int} (h1 : incL l) (h2 : incL m) (h : ∀ n ∈ l, n ∈ m) : shortB m l = false := by
  obtain ⟨k1, k2⟩ := inc_sub h1 h2 h
  unfold shortB
  split
  · rename_i e; rw [k2 e.symm]; exact lexB_irr m
  · simp; omega
def rndI (n m : Int) : Int := if m < 1 then 0 else n % m
theorem rndI_tmod {n m : Int} (h : 1 ≤ m) : rndI n m = if n.tmod m < 0 then n.tmod m + m else n.tmod m := by
  unfold rndI; rw [if_neg (by omega)]
  have h1 := Int.tmod_eq_emod (a := n) (b := m)
  have h2 := Int.emod_nonneg n (show m ≠ 0 by omega)
  have h3 := Int.emod_lt_of_pos n (show 0 < m by omega)
  split <;> split at h1 <;> omega
theorem rndI_range {n m : Int} (h : 1 ≤ m) : 0 ≤ rndI n m ∧ rndI n m < m := by
  unfold rndI; rw [if_neg (by omega)]
  exact ⟨Int.emod_nonneg _ (by omega), Int.emod_lt_of_pos _ (by omega)⟩
def takeL (l : List Int) (n : Int) : Int := l.getD (rndI n l.length).toNat 0
def growsI (l : List Int) (m : Int) : Prop := incL l ∧ ∀ n ∈ l, 0 ≤ n ∧ n < m
def ofI (set n : Int) : Bool := decide (set.fdiv (2 ^ (min n.toNat 64)) % 2 = 1)
theorem and1 (x : Int) : IntKind.i64.wrap ((BitVec.ofInt 64 x &&& BitVec.ofInt 64 1).toNat : Int) = x % 2 := by
  have h : ((BitVec.ofInt 64 x &&& BitVec.ofInt 64 1).toNat : Int) = x % 2 := by
    rw [BitVec.toNat_and]
    have : (BitVec.ofInt 64 1).toNat = 1 := rfl
    rw [this, Nat.and_one_is_mod, BitVec.toNat_ofInt]
    omega
  show IntKind.i64.wrap ((BitVec.ofInt 64 x &&& BitVec.ofInt 64 1).toNat : Int) = x % 2
  rw [h, wrap_id (by omega) (by omega)]
def listI (set : Int) (m : Nat) : List Int := ((List.range m).filter fun (i : Nat) => ofI set i).map fun (i : Nat) => (i : Int)
def findI (l : List Int) (n : Int) : Int := match l.findIdx? (fun x => decide (x = n)) with | some i => i | none => -1
theorem findI_neg {l : List Int} {n : Int} : findI l n < 0 ↔ n ∉ l := by
  unfold findI
  cases h : l.findIdx? (fun x => decide (x = n)) with
  | none =>
    rw [List.findIdx?_eq_none_iff] at h
    simp only [decide_eq_false_iff_not] at h
    exact ⟨fun _ hm => h n hm rfl, fun _ => by simp⟩
  | some i =>
    rw [List.findIdx?_eq_some_iff_getElem] at h
    obtain ⟨h1, h2, _⟩ := h
    simp only [decide_eq_true_eq] at h2
    refine ⟨fun hx => by simp only at hx; omega, fun hx => absurd (h2 ▸ List.getElem_mem h1) hx⟩
theorem listI_inc (set : Int) (m : Nat) : incL (listI set m) := by
  unfold listI incL
  rw [List.pairwise_map]
  refine List.Pairwise.imp ?_ ((List.pairwise_lt_range (n := m)).filter _)
  intro a c h; omega
theorem filt_snoc (j : Nat) (f : Nat → Bool) : ((List.range (j + 1)).filter f).map (fun (i : Nat) => (i : Int)) = ((List.range j).filter f).map (fun (i : Nat) => (i : Int)) ++ if f j then [(j : Int)] else [] := by
  rw [List.range_succ, List.filter_append, List.map_append]
  congr 1
  simp only [List.filter_cons, List.filter_nil]
  split <;> rfl
def slN (e : TypeId) (o : Option Nat) (l : List Int) : PV :=
  match o with
  | none => .sl .full 0 []
  | some t => .sl (.own t e 1) 1 (l.map fun x => [pi x])
theorem mem_listI {set : Int} {m j : Nat} (h : j < m) : ((j : Int) ∈ listI set m) ↔ ofI set j = true := by
  unfold listI
  rw [List.mem_map]
  constructor
  · rintro ⟨i, hi, e⟩
    have : i = j := by omega
    subst this
    exact (List.mem_filter.1 hi).2
  · intro h2
    exact ⟨j, List.mem_filter.2 ⟨List.mem_range.2 h, h2⟩, rfl⟩
theorem set5 (a b c d e : Bool) : ofI ((a.toNat + 2 * b.toNat + 4 * c.toNat + 8 * d.toNat + 16 * e.toNat : Nat) : Int) ((0 : Nat) : Int) = a ∧ ofI ((a.toNat + 2 * b.toNat + 4 * c.toNat + 8 * d.toNat + 16 * e.toNat : Nat) : Int) ((1 : Nat) : Int) = b ∧
    ofI ((a.toNat + 2 * b.toNat + 4 * c.toNat + 8 * d.toNat + 16 * e.toNat : Nat) : Int) ((2 : Nat) : Int) = c ∧ ofI ((a.toNat + 2 * b.toNat + 4 * c.toNat + 8 * d.toNat + 16 * e.toNat : Nat) : Int) ((3 : Nat) : Int) = d ∧ ofI ((a.toNat + 2 * b.toNat + 4 * c.toNat + 8 * d.toNat + 16 * e.toNat : Nat) : Int) ((4 : Nat) : Int) = e := by
  cases a <;> cases b <;> cases c <;> cases d <;> cases e <;> decide
theorem set_ex {m : Nat} (hm : m ≤ 5) (p : Nat → Bool) : ∃ s : Nat, s < 2 ^ m ∧ ∀ i, i < m → ofI (s : Int) (i : Int) = p i := by
  have hq := set5 (p 0 && decide (0 < m)) (p 1 && decide (1 < m)) (p 2 && decide (2 < m)) (p 3 && decide (3 < m)) (p 4 && decide (4 < m))
  refine ⟨(p 0 && decide (0 < m)).toNat + 2 * (p 1 && decide (1 < m)).toNat + 4 * (p 2 && decide (2 < m)).toNat + 8 * (p 3 && decide (3 < m)).toNat + 16 * (p 4 && decide (4 < m)).toNat, ?_, fun i hi => ?_⟩
  · have h0 := Bool.toNat_le (p 0)
    have h1 := Bool.toNat_le (p 1)
    have h2 := Bool.toNat_le (p 2)
    have h3 := Bool.toNat_le (p 3)
    have h4 := Bool.toNat_le (p 4)
    have : m = 0 ∨ m = 1 ∨ m = 2 ∨ m = 3 ∨ m = 4 ∨ m = 5 := by omega
    rcases this with rfl | rfl | rfl | rfl | rfl | rfl <;> simp <;> omega
  · have : i = 0 ∨ i = 1 ∨ i = 2 ∨ i = 3 ∨ i = 4 := by omega
    rcases this with rfl | rfl | rfl | rfl | rfl
    · rw [hq.1]; simp [hi]
    · rw [hq.2.1]; simp [hi]
    · rw [hq.2.2.1]; simp [hi]
    · rw [hq.2.2.2.1]; simp [hi]
    · rw [hq.2.2.2.2]; simp [hi]
theorem inc_ext {l m : List Int} (h1 : incL l) (h2 : incL m) (h : ∀ n, n ∈ l ↔ n ∈ m) : l = m := by
  have a := inc_sub h1 h2 fun n hn => (h n).1 hn
  have c := inc_sub h2 h1 fun n hn => (h n).2 hn
  exact a.2 (by omega)
theorem grows_set {l : List Int} {m : Nat} (hm : m ≤ 5) (h : growsI l m) : ∃ s : Nat, s < 2 ^ m ∧ l = listI s m := by
  obtain ⟨s, hs, he⟩ := set_ex hm fun i => decide ((i : Int) ∈ l)
  refine ⟨s, hs, inc_ext h.1 (listI_inc _ _) fun n => ?_⟩
  constructor
  · intro hn
    obtain ⟨h0, h1⟩ := h.2 n hn
    have e : n = ((n.toNat : Nat) : Int) := by omega
    rw [e, mem_listI (by omega), he _ (by omega), ← e]
    exact decide_eq_true hn
  · intro hn
    unfold listI at hn
    rw [List.mem_map] at hn
    obtain ⟨i, hi, rfl⟩ := hn
    rw [List.mem_filter, List.mem_range] at hi
    have := he i hi.1
    rw [hi.2] at this
    exact of_decide_eq_true this.symm
theorem all_bits : ∀ m : Nat, m < 6 → ∀ i : Nat, i < m → ofI (((2 ^ m : Nat) : Int) - 1) (i : Int) = true := by decide
theorem shl_eq {m : Nat} (h : m ≤ 5) : IntKind.i64.wrap (1 * 2 ^ (min (m : Int).toNat 64)) = ((2 ^ m : Nat) : Int) := by
  have : m = 0 ∨ m = 1 ∨ m = 2 ∨ m = 3 ∨ m = 4 ∨ m = 5 := by omega
  rcases this with rfl | rfl | rfl | rfl | rfl | rfl <;> decide
end Go.Proofs.YtlbolnlcncjijaaGreat
namespace Go.Proofs.YtlbolnlcncjijaaGreat
open Go.RowKit
theorem mixed : Tryz.prog.follows .mixedOrders = true := by kernel_rfl
abbrev Sem1 (f : FuncId) (args : List PV) (r : PV) : Prop := SemC Tryz.prog f args fun x => x = r
def ac18 : AC := (AC.seq (AC.ops [(AOp.mk (some 6) (AK.mv (AX.c (PV.val (Value.bool false)))) none 0 false true)]) (AC.seq (AC.ops [(AOp.mk (some 7) (AK.mv (AX.t 1)) none 0 false true), (AOp.mk (some 8) (AK.mv (AX.t 0)) none 1 false true), (AOp.mk (some 9) (AK.bin false BinOp.leq (AX.t 7) (AX.t 8)) none 2 false true), (AOp.mk (some 10) (AK.mv (AX.t 9)) none 3 false true), (AOp.mk (some 11) (AK.mv (AX.t 0)) (some (10, true)) 4 false true), (AOp.mk (some 12) (AK.mv (AX.t 2)) (some (10, true)) 5 false true), (AOp.mk (some 13) (AK.bin false BinOp.leq (AX.t 11) (AX.t 12)) (some (10, true)) 6 false true), (AOp.mk (some 14) (AK.pick (AX.t 10) (AX.t 13) (AX.c (PV.val (Value.bool false)))) none 7 false true), (AOp.mk (some 6) (AK.mv (AX.t 14)) none 8 false true)]) AC.ret))
theorem ac18_ok : cCode Tryz.prog (fun _ => false) Tryz.f18.ntmps (Tryz.f18.body.getD .skip) = some ac18 := by kernel_rfl
theorem In_sem (n a b : Int) : Sem1 18 [pi n, pi a, pi b] (pb (decide (a ≤ n ∧ n ≤ b))) := by
  refine semC_of_exec' mixed Tryz.func18 (by kernel_rfl) (by kernel_rfl) ac18_ok 3 rfl (by decide) [(.tmp 6)] (by kernel_rfl) ?_
  intro hr C hC hI
  unfold ac18
  simp only [go_sem, Nat.reduceBEq, Nat.reduceAdd]
  exact ⟨fun h => retQ_one rfl (by simp [h]), fun h => retQ_one rfl (by simp [h])⟩
def ac6 : AC := (AC.seq (AC.ops [(AOp.mk (some 4) (AK.mv (AX.c (PV.val (Value.int IntKind.i64 0)))) none 0 false true)]) (AC.seq (AC.seq (AC.ops [(AOp.mk (some 6) (AK.mv (AX.t 1)) none 0 false true), (AOp.mk (some 7) (AK.bin false BinOp.lss (AX.t 6) (AX.c (PV.val (Value.int IntKind.i64 1)))) none 1 false true)]) (AC.cond (AX.t 7) (AC.seq (AC.ops [(AOp.mk (some 4) (AK.mv (AX.c (PV.val (Value.int IntKind.i64 0)))) none 0 false true)]) AC.ret) AC.skip)) (AC.seq (AC.ops [(AOp.mk (some 8) (AK.mv (AX.t 0)) none 0 false true), (AOp.mk (some 9) (AK.mv (AX.t 1)) none 1 false true), (AOp.mk (some 10) (AK.bin false BinOp.rem (AX.t 8) (AX.t 9)) none 2 false true), (AOp.mk (some 5) (AK.mv (AX.t 10)) none 3 false true)]) (AC.seq (AC.seq (AC.ops [(AOp.mk (some 11) (AK.mv (AX.t 5)) none 0 false true), (AOp.mk (some 12) (AK.bin false BinOp.lss (AX.t 11) (AX.c (PV.val (Value.int IntKind.i64 0)))) none 1 false true)]) (AC.cond (AX.t 12) (AC.ops [(AOp.mk (some 13) (AK.mv (AX.t 5)) none 0 false true), (AOp.mk (some 14) (AK.mv (AX.t 1)) none 1 false true), (AOp.mk (some 15) (AK.bin false BinOp.add (AX.t 13) (AX.t 14)) none 2 false true), (AOp.mk (some 5) (AK.mv (AX.t 15)) none 3 false true)]) AC.skip)) (AC.seq (AC.ops [(AOp.mk (some 16) (AK.mv (AX.t 5)) none 0 false true), (AOp.mk (some 4) (AK.mv (AX.t 16)) none 1 false true)]) AC.ret)))))
theorem ac6_ok : cCode Tryz.prog (fun _ => false) Tryz.f6.ntmps (Tryz.f6.body.getD .skip) = some ac6 := by kernel_rfl
theorem Round_sem (n m : Int) : Sem1 6 [pi n, pi m] (pi (rndI n m)) := by
  refine semC_of_exec' mixed Tryz.func6 (by kernel_rfl) (by kernel_rfl) ac6_ok 2 rfl (by decide) [(.tmp 4)] (by kernel_rfl) ?_
  intro hr C hC hI
  unfold ac6
  simp only [go_sem, Nat.reduceBEq]
  have hm := real_i64 (i := 1) hr rfl
  refine ⟨fun h => retQ_one rfl (by simp [rndI, h]), fun h => ?_⟩
  have hr1 := rndI_tmod (n := n) (m := m) (by omega)
  have hr2 := rndI_range (n := n) (m := m) (by omega)
  simp only [go_sem, Nat.reduceBEq, bin_rem (show ¬ m = 0 by omega)]
  refine ⟨fun h2 => retQ_one rfl ?_, fun h2 => retQ_one rfl ?_⟩
  · rw [if_pos h2] at hr1
    rw [wrap_id (by omega) (by omega), ← hr1]
  · rw [if_neg h2] at hr1
    rw [← hr1]
def ac7 : AC := (AC.seq (AC.ops [(AOp.mk (some 4) (AK.mv (AX.c (PV.val (Value.int IntKind.i64 0)))) none 0 false true)]) (AC.seq (AC.seq (AC.ops [(AOp.mk (some 5) (AK.mv (AX.t 0)) none 0 false true), (AOp.mk (some 6) (AK.len (AX.t 5)) none 1 false true), (AOp.mk (some 7) (AK.bin false BinOp.eql (AX.t 6) (AX.c (PV.val (Value.int IntKind.i64 0)))) none 2 false true)]) (AC.cond (AX.t 7) (AC.seq (AC.ops [(AOp.mk (some 4) (AK.mv (AX.c (PV.val (Value.int IntKind.i64 0)))) none 0 false true)]) AC.ret) AC.skip)) (AC.seq (AC.ops [(AOp.mk (some 8) (AK.mv (AX.t 0)) none 0 false true), (AOp.mk (some 9) (AK.mv (AX.t 1)) none 1 false true), (AOp.mk (some 10) (AK.mv (AX.t 0)) none 2 false true), (AOp.mk (some 11) (AK.len (AX.t 10)) none 3 false true), (AOp.mk (some 12) (AK.call 6 [(AX.t 9), (AX.t 11)]) none 4 false true), (AOp.mk (some 13) (AK.iadrS 1 (AX.t 8) (AX.t 12)) none 5 false true), (AOp.mk (some 14) (AK.ld none (AX.t 13)) none 6 false true), (AOp.mk (some 4) (AK.mv (AX.t 14)) none 7 false true)]) AC.ret)))
theorem ac7_ok : cCode Tryz.prog (fun _ => false) Tryz.f7.ntmps (Tryz.f7.body.getD .skip) = some ac7 := by kernel_rfl
theorem Take_sem (l : List Int) (n : Int) : Sem1 7 [pis l, pi n] (pi (takeL l n)) := by
  refine semC_of_exec' mixed Tryz.func7 (by kernel_rfl) (by kernel_rfl) ac7_ok 2 rfl (by decide) [(.tmp 4)] (by kernel_rfl) ?_
  intro hr C hC hI
  unfold ac7
  simp only [go_sem, Nat.reduceBEq, List.length_map]
  have hlen := real_len (i := 0) hr rfl
  rw [List.length_map] at hlen
  refine ⟨fun h => retQ_one rfl ?_, fun h => ?_⟩
  · have : l = [] := by simpa using h
    subst this; rfl
  · have hr2 := rndI_range (n := n) (m := l.length) (by omega)
    refine call_pure hC (l := [pi n, pi l.length]) (Round_sem n _) (PVleL_refl _) ?_
    rintro r rfl
    have hlt : (rndI n l.length).toNat < l.length := by omega
    have e1 := iadrS_sl (sz := 1) (k := .sh) (es := l.map fun x => [pi x]) (kk := .i64) (i := rndI n l.length) (e := [pi (takeL l n)]) (by omega) (by simp [takeL, hlt])
    simp only [go_sem, Nat.reduceBEq, e1]
    exact retQ_one rfl rfl
end Go.Proofs.YtlbolnlcncjijaaGreat
namespace Go.Proofs.YtlbolnlcncjijaaGreat
open Go.RowKit
def ac15 : AC := (AC.seq (AC.ops [(AOp.mk (some 4) (AK.mv (AX.c (PV.val (Value.bool false)))) none 0 false true)]) (AC.seq (AC.ops [(AOp.mk (some 7) (AK.mv (AX.t 0)) none 0 false true), (AOp.mk (some 8) (AK.len (AX.t 7)) none 1 false true), (AOp.mk (some 9) (AK.mv (AX.t 1)) none 2 false true), (AOp.mk (some 10) (AK.len (AX.t 9)) none 3 false true), (AOp.mk (some 11) (AK.bin false BinOp.eql (AX.t 8) (AX.t 10)) none 4 false true), (AOp.mk (some 5) (AK.mv (AX.t 11)) none 5 false true)]) (AC.seq (AC.seq (AC.ops [(AOp.mk (some 6) (AK.mv (AX.c (PV.val (Value.int IntKind.i64 0)))) none 0 false true)]) (AC.block 0 (AC.loop (AC.seq (AC.seq (AC.ops [(AOp.mk (some 12) (AK.mv (AX.t 5)) none 0 false true), (AOp.mk (some 13) (AK.mv (AX.t 12)) none 1 false true), (AOp.mk (some 14) (AK.mv (AX.t 6)) (some (13, true)) 2 false true), (AOp.mk (some 15) (AK.mv (AX.t 0)) (some (13, true)) 3 false true), (AOp.mk (some 16) (AK.len (AX.t 15)) (some (13, true)) 4 false true), (AOp.mk (some 17) (AK.bin false BinOp.lss (AX.t 14) (AX.t 16)) (some (13, true)) 5 false true), (AOp.mk (some 18) (AK.pick (AX.t 13) (AX.t 17) (AX.c (PV.val (Value.bool false)))) none 6 false true)]) (AC.cond (AX.t 18) AC.skip (AC.exit 0))) (AC.seq (AC.block 1 (AC.ops [(AOp.mk (some 21) (AK.mv (AX.t 0)) none 0 true false), (AOp.mk (some 22) (AK.mv (AX.t 6)) none 1 true false), (AOp.mk (some 23) (AK.iadrS 1 (AX.t 21) (AX.t 22)) none 2 true false), (AOp.mk (some 24) (AK.ld none (AX.t 23)) none 3 true false), (AOp.mk (some 25) (AK.mv (AX.t 1)) none 4 true false), (AOp.mk (some 26) (AK.mv (AX.t 6)) none 5 true false), (AOp.mk (some 27) (AK.iadrS 1 (AX.t 25) (AX.t 26)) none 6 true false), (AOp.mk (some 28) (AK.ld none (AX.t 27)) none 7 true false), (AOp.mk (some 29) (AK.bin false BinOp.eql (AX.t 24) (AX.t 28)) none 8 true true), (AOp.mk (some 5) (AK.mv (AX.t 29)) none 9 true true)])) (AC.ops [(AOp.mk (some 19) (AK.mv (AX.t 6)) none 0 false true), (AOp.mk (some 20) (AK.bin false BinOp.add (AX.t 19) (AX.c (PV.val (Value.int IntKind.i64 1)))) none 1 false true), (AOp.mk (some 6) (AK.mv (AX.t 20)) none 2 false true)])))))) (AC.seq (AC.ops [(AOp.mk (some 30) (AK.mv (AX.t 5)) none 0 false true), (AOp.mk (some 4) (AK.mv (AX.t 30)) none 1 false true)]) AC.ret))))
theorem ac15_ok : cCode Tryz.prog (fun _ => false) Tryz.f15.ntmps (Tryz.f15.body.getD .skip) = some ac15 := by kernel_rfl
theorem Equal_sem (l m : List Int) : Sem1 15 [pis l, pis m] (pb (decide (l = m))) := by
  refine semC_of_exec' mixed Tryz.func15 (by kernel_rfl) (by kernel_rfl) ac15_ok 2 rfl (by decide) [(.tmp 4)] (by kernel_rfl) ?_
  intro hr C hC hI
  unfold ac15
  simp only [go_sem, Nat.reduceBEq, List.length_map]
  have hl := real_len (i := 0) hr rfl
  rw [List.length_map] at hl
  refine ⟨{x : Nat × Bool // x.1 ≤ l.length ∧ (l = m ↔ x.2 = true ∧ l.length = m.length ∧ l.drop x.1 = m.drop x.1) ∧ (x.2 = true → l.length = m.length)}, fun x => ⟨[(6, .p (pi x.1.1)), (5, .p (pb x.1.2)), (0, .p (pis l)), (1, .p (pis m))], [], [], some [], 0⟩, fun x => l.length - x.1.1, ⟨(0, decide ((l.length : Int) = m.length)), by simp, ?_, fun h => by simp only [decide_eq_true_eq] at h; omega⟩, (by simp [Wk, wkT, wkL, look, AV.lo]), ?_⟩
  · constructor
    · rintro rfl; simp
    · rintro ⟨h1, h2, h3⟩; exact h3
  rintro ⟨⟨j, t⟩, hj, hiff, hlen⟩
  simp only at hj hiff hlen
  cases t
  · simp only [go_sem, Nat.reduceBEq]
    refine retQ_one rfl ?_
    have : ¬ l = m := by rw [hiff]; simp
    simp [this]
  · have hlm := hlen rfl
    simp only [go_sem, Nat.reduceBEq, List.length_map]
    refine ⟨fun h5 => ?_, fun h5 => ?_⟩
    · have hj2 : j < l.length := by omega
      simp only [go_sem, Nat.reduceBEq, iadr_pis hj2, iadr_pis (show j < m.length by omega), wrap_succ (k := j) (by omega)]
      refine ⟨⟨(j + 1, decide (l[j] = m[j])), by simp only; omega, ?_, fun _ => hlm⟩, by simp only; omega, by simp [Wk, wkT, wkL, look, AV.lo]⟩
      rw [hiff, List.drop_eq_getElem_cons hj2, List.drop_eq_getElem_cons (show j < m.length by omega)]
      simp only [List.cons.injEq, hlm, true_and, decide_eq_true_eq]
    · refine retQ_one rfl ?_
      have : l = m := by
        rw [hiff]
        exact ⟨rfl, hlm, by rw [show l.drop j = [] from List.drop_eq_nil_of_le (by omega), show m.drop j = [] from List.drop_eq_nil_of_le (by omega)]⟩
      rw [decide_eq_true this]
def ac13 : AC := (AC.seq (AC.ops [(AOp.mk (some 4) (AK.mv (AX.c (PV.val (Value.bool false)))) none 0 false true)]) (AC.seq (AC.ops [(AOp.mk (some 5) (AK.mv (AX.c (PV.val (Value.int IntKind.i64 (-1))))) none 0 false true)]) (AC.seq (AC.seq (AC.ops [(AOp.mk (some 6) (AK.mv (AX.c (PV.val (Value.int IntKind.i64 0)))) none 0 false true)]) (AC.block 0 (AC.loop (AC.seq (AC.seq (AC.ops [(AOp.mk (some 7) (AK.mv (AX.t 6)) none 0 false true), (AOp.mk (some 8) (AK.mv (AX.t 0)) none 1 false true), (AOp.mk (some 9) (AK.len (AX.t 8)) none 2 false true), (AOp.mk (some 10) (AK.bin false BinOp.lss (AX.t 7) (AX.t 9)) none 3 false true)]) (AC.cond (AX.t 10) AC.skip (AC.exit 0))) (AC.seq (AC.block 1 (AC.seq (AC.seq (AC.ops [(AOp.mk (some 13) (AK.mv (AX.t 0)) none 0 false true), (AOp.mk (some 14) (AK.mv (AX.t 6)) none 1 false true), (AOp.mk (some 15) (AK.iadrS 1 (AX.t 13) (AX.t 14)) none 2 false true), (AOp.mk (some 16) (AK.ld none (AX.t 15)) none 3 false true), (AOp.mk (some 17) (AK.mv (AX.t 5)) none 4 false true), (AOp.mk (some 18) (AK.bin false BinOp.leq (AX.t 16) (AX.t 17)) none 5 false true), (AOp.mk (some 19) (AK.mv (AX.t 18)) none 6 false true), (AOp.mk (some 20) (AK.mv (AX.t 0)) (some (19, false)) 7 false true), (AOp.mk (some 21) (AK.mv (AX.t 6)) (some (19, false)) 8 false true), (AOp.mk (some 22) (AK.iadrS 1 (AX.t 20) (AX.t 21)) (some (19, false)) 9 false true), (AOp.mk (some 23) (AK.ld none (AX.t 22)) (some (19, false)) 10 false true), (AOp.mk (some 24) (AK.mv (AX.t 1)) (some (19, false)) 11 false true), (AOp.mk (some 25) (AK.bin false BinOp.geq (AX.t 23) (AX.t 24)) (some (19, false)) 12 false true), (AOp.mk (some 26) (AK.pick (AX.t 19) (AX.c (PV.val (Value.bool true))) (AX.t 25)) none 13 false true)]) (AC.cond (AX.t 26) (AC.seq (AC.ops [(AOp.mk (some 4) (AK.mv (AX.c (PV.val (Value.bool false)))) none 0 false true)]) AC.ret) AC.skip)) (AC.ops [(AOp.mk (some 27) (AK.mv (AX.t 0)) none 0 false true), (AOp.mk (some 28) (AK.mv (AX.t 6)) none 1 false true), (AOp.mk (some 29) (AK.iadrS 1 (AX.t 27) (AX.t 28)) none 2 false true), (AOp.mk (some 30) (AK.ld none (AX.t 29)) none 3 false true), (AOp.mk (some 5) (AK.mv (AX.t 30)) none 4 false true)]))) (AC.ops [(AOp.mk (some 11) (AK.mv (AX.t 6)) none 0 false true), (AOp.mk (some 12) (AK.bin false BinOp.add (AX.t 11) (AX.c (PV.val (Value.int IntKind.i64 1)))) none 1 false true), (AOp.mk (some 6) (AK.mv (AX.t 12)) none 2 false true)])))))) (AC.seq (AC.ops [(AOp.mk (some 4) (AK.mv (AX.c (PV.val (Value.bool true)))) none 0 false true)]) AC.ret))))
theorem ac13_ok : cCode Tryz.prog (fun _ => false) Tryz.f13.ntmps (Tryz.f13.body.getD .skip) = some ac13 := by kernel_rfl
theorem Grows_sem (l : List Int) (m : Int) : SemC Tryz.prog 13 [pis l, pi m] (fun r => ∃ t, r = pb t ∧ (t = true ↔ growsI l m)) := by
  refine semC_of_exec' mixed Tryz.func13 (by kernel_rfl) (by kernel_rfl) ac13_ok 2 rfl (by decide) [(.tmp 4)] (by kernel_rfl) ?_
  intro hr C hC hI
  unfold ac13
  simp only [go_sem]
  have hl := real_len (i := 0) hr rfl
  rw [List.length_map] at hl
  refine ⟨{x : Nat × Int // x.1 ≤ l.length ∧ -1 ≤ x.2 ∧ (growsI l m ↔ incL (l.drop x.1) ∧ ∀ n ∈ l.drop x.1, x.2 < n ∧ n < m)}, fun x => ⟨[(6, .p (pi x.1.1)), (5, .p (pi x.1.2)), (0, .p (pis l)), (1, .p (pi m))], [], [], some [], 0⟩, fun x => l.length - x.1.1, ⟨(0, -1), by simp, by simp, ?_⟩, (by simp [Wk, wkT, wkL, look, AV.lo]), ?_⟩
  · simp only [List.drop_zero, growsI]
    refine and_congr Iff.rfl (forall_congr' fun n => forall_congr' fun _ => ?_)
    omega
  rintro ⟨⟨j, p⟩, hj, hp, hiff⟩
  simp only at hj hp hiff
  simp only [go_sem, Nat.reduceBEq, List.length_map]
  refine ⟨fun h5 => ?_, fun h5 => ?_⟩
  · have hj2 : j < l.length := by omega
    rw [List.drop_eq_getElem_cons hj2] at hiff
    simp only [go_sem, Nat.reduceBEq, iadr_pis hj2, wrap_succ (k := j) (by omega)]
    have no : ¬ (p < l[j] ∧ l[j] < m) → ¬ growsI l m := fun h hg => h ((hiff.1 hg).2 _ (List.mem_cons_self ..))
    refine ⟨fun h6 => ⟨fun h7 => ?_, fun h7 => ?_⟩, fun h6 => ?_⟩
    · exact retQ_one rfl ⟨false, rfl, by have := no (by omega); simp [this]⟩
    · refine ⟨⟨(j + 1, l[j]), by simp only; omega, by simp only; omega, ?_⟩, by simp only; omega, by simp [Wk, wkT, wkL, look, AV.lo]⟩
      rw [hiff]
      unfold incL
      rw [List.pairwise_cons]
      simp only [List.mem_cons]
      constructor
      · rintro ⟨⟨h8, h9⟩, h10⟩
        exact ⟨h9, fun n hn => ⟨h8 n hn, (h10 n (.inr hn)).2⟩⟩
      · rintro ⟨h8, h9⟩
        refine ⟨⟨fun n hn => (h9 n hn).1, h8⟩, fun n hn => ?_⟩
        rcases hn with rfl | hn
        · omega
        · have := h9 n hn; omega
    · exact retQ_one rfl ⟨false, rfl, by have := no (by omega); simp [this]⟩
  · refine retQ_one rfl ⟨true, rfl, ?_⟩
    rw [hiff, show l.drop j = [] from List.drop_eq_nil_of_le (by omega)]
    simp [incL]
def ac31 : AC := (AC.seq (AC.ops [(AOp.mk (some 4) (AK.mv (AX.c (PV.val (Value.bool false)))) none 0 false true)]) (AC.seq (AC.ops [(AOp.mk (some 5) (AK.mv (AX.t 0)) none 0 false true), (AOp.mk (some 6) (AK.mv (AX.t 1)) none 1 false true), (AOp.mk (some 7) (AK.bin false BinOp.shr (AX.t 5) (AX.t 6)) none 2 false true), (AOp.mk (some 8) (AK.bin false BinOp.and (AX.t 7) (AX.c (PV.val (Value.int IntKind.i64 1)))) none 3 false true), (AOp.mk (some 9) (AK.bin false BinOp.eql (AX.t 8) (AX.c (PV.val (Value.int IntKind.i64 1)))) none 4 false true), (AOp.mk (some 4) (AK.mv (AX.t 9)) none 5 false true)]) AC.ret))
theorem ac31_ok : cCode Tryz.prog (fun _ => false) Tryz.f31.ntmps (Tryz.f31.body.getD .skip) = some ac31 := by kernel_rfl
theorem Of_sem (set n : Int) (hn : 0 ≤ n) : Sem1 31 [pi set, pi n] (pb (ofI set n)) := by
  refine semC_of_exec' mixed Tryz.func31 (by kernel_rfl) (by kernel_rfl) ac31_ok 2 rfl (by decide) [(.tmp 4)] (by kernel_rfl) ?_
  intro hr C hC hI
  unfold ac31
  simp only [go_sem, Nat.reduceBEq, bin_shr (show ¬ n < 0 by omega), bin_and]
  exact retQ_one rfl (congrArg (fun x : Int => pb (decide (x = 1))) (and1 (set.fdiv (2 ^ min n.toNat 64))))
def ac16 : AC := (AC.seq (AC.ops [(AOp.mk (some 4) (AK.mv (AX.c (PV.sl SK.full 0 []))) none 0 false true)]) (AC.seq (AC.ops [(AOp.mk (some 7) (AK.bslice false 3 1 0 [(PV.val (Value.int IntKind.i64 0))] []) none 0 false true), (AOp.mk (some 5) (AK.mv (AX.t 7)) none 1 false true)]) (AC.seq (AC.seq (AC.ops [(AOp.mk (some 6) (AK.mv (AX.c (PV.val (Value.int IntKind.i64 0)))) none 0 false true)]) (AC.block 0 (AC.loop (AC.seq (AC.seq (AC.ops [(AOp.mk (some 8) (AK.mv (AX.t 6)) none 0 false true), (AOp.mk (some 9) (AK.mv (AX.t 1)) none 1 false true), (AOp.mk (some 10) (AK.bin false BinOp.lss (AX.t 8) (AX.t 9)) none 2 false true)]) (AC.cond (AX.t 10) AC.skip (AC.exit 0))) (AC.seq (AC.block 1 (AC.seq (AC.ops [(AOp.mk (some 13) (AK.mv (AX.t 0)) none 0 false true), (AOp.mk (some 14) (AK.mv (AX.t 6)) none 1 false true), (AOp.mk (some 15) (AK.call 31 [(AX.t 13), (AX.t 14)]) none 2 false true)]) (AC.cond (AX.t 15) (AC.ops [(AOp.mk (some 16) (AK.mv (AX.t 5)) none 0 false true), (AOp.mk (some 17) (AK.mv (AX.t 6)) none 1 false true), (AOp.mk (some 18) (AK.bslice false 3 1 1 [(PV.val (Value.int IntKind.i64 0))] [(0, (1, (AX.t 17)))]) none 2 false true), (AOp.mk (some 19) (AK.app false 3 1 8 [(PV.val (Value.int IntKind.i64 0))] (AX.t 16) (AX.t 18)) none 3 false true), (AOp.mk (some 5) (AK.mv (AX.t 19)) none 4 false true)]) AC.skip))) (AC.ops [(AOp.mk (some 11) (AK.mv (AX.t 6)) none 0 false true), (AOp.mk (some 12) (AK.bin false BinOp.add (AX.t 11) (AX.c (PV.val (Value.int IntKind.i64 1)))) none 1 false true), (AOp.mk (some 6) (AK.mv (AX.t 12)) none 2 false true)])))))) (AC.seq (AC.ops [(AOp.mk (some 20) (AK.mv (AX.t 5)) none 0 false true), (AOp.mk (some 4) (AK.mv (AX.t 20)) none 1 false true)]) AC.ret))))
theorem ac16_ok : cCode Tryz.prog (fun _ => false) Tryz.f16.ntmps (Tryz.f16.body.getD .skip) = some ac16 := by kernel_rfl
theorem List_sem (set : Int) (m : Nat) (hm : m ≤ 1000) : Sem1 16 [pi set, pi m] (pis (listI set m)) := by
  unfold listI
  obtain ⟨f, hf⟩ : ∃ f : Nat → Bool, (fun (i : Nat) => ofI set i) = f := ⟨_, rfl⟩
  rw [hf]
  refine semC_of_exec' mixed Tryz.func16 (by kernel_rfl) (by kernel_rfl) ac16_ok 2 rfl (by decide) [(.tmp 4)] (by kernel_rfl) ?_
  intro hr C hC hI
  unfold ac16
  simp only [go_sem, Nat.reduceBEq]
  refine ⟨{x : Nat × Option Nat // x.1 ≤ m ∧ (x.2 = none → ((List.range x.1).filter f).map (fun (i : Nat) => (i : Int)) = [])}, fun x => ⟨[(6, .p (pi x.1.1)), (5, .p (match x.1.2 with | none => .sl .full 1 [] | some t => .sl (.own t 3 1) 1 ((((List.range x.1.1).filter f).map fun (i : Nat) => (i : Int)).map fun x => [pi x]))), (0, .p (pi set)), (1, .p (pi m))], [], x.1.2.toList, some [], 0⟩, fun x => m - x.1.1, ⟨(0, none), by simp, fun _ => rfl⟩, (by simp [Wk, wkT, wkL, look, AV.lo]), ?_⟩
  rintro ⟨⟨j, o⟩, hj, ho⟩
  simp only at hj ho
  simp only [go_sem, Nat.reduceBEq]
  refine ⟨fun h5 => ?_, fun h5 => ?_⟩
  · have hj2 : j < m := by omega
    have hsn : ((List.range (j + 1)).filter f).map (fun (i : Nat) => (i : Int)) = ((List.range j).filter f).map (fun (i : Nat) => (i : Int)) ++ if f j then [(j : Int)] else [] := by
      rw [List.range_succ, List.filter_append, List.map_append]
      congr 1
      simp only [List.filter_cons, List.filter_nil]
      split <;> rfl
    have hfj : ofI set j = f j := by rw [← hf]
    obtain ⟨L, hL⟩ : ∃ L, ((List.range j).filter f).map (fun (i : Nat) => (i : Int)) = L := ⟨_, rfl⟩
    have hLl : L.length ≤ j := by rw [← hL, List.length_map]; exact Nat.le_trans (List.length_filter_le ..) (by simp)
    rw [hL] at hsn ho
    simp only [hL]
    refine call_pure2 hC (Of_sem set j (by omega)) rfl (PVleL_refl _) ?_
    rintro r rfl
    simp only [go_sem, Nat.reduceBEq, hfj]
    cases hb : f j
    · rw [hb] at hsn
      simp only [Bool.false_eq_true, if_false, List.append_nil] at hsn
      simp only [go_sem, Nat.reduceBEq, wrap_succ (k := j) (by omega)]
      refine ⟨⟨(j + 1, o), by simp only; omega, fun h => by simp only; rw [hsn]; exact ho h⟩, by simp only; omega, ?_⟩
      simp only [hsn]
      cases o <;> simp [Wk, wkT, wkL, look, AV.lo]
    · rw [hb] at hsn
      simp only [if_true] at hsn
      cases o with
      | none =>
        have h0 := ho rfl
        subst h0
        simp only [go_sem, Nat.reduceBEq, Nat.reduceLeDiff, wrap_succ (k := j) (by omega)]
        intro tk _
        refine ⟨⟨(j + 1, some tk), by simp only; omega, fun h => by cases h⟩, by simp only; omega, ?_⟩
        simp only [hsn]
        simp [Wk, wkT, wkL, look, AV.lo]
      | some tk =>
        simp only [go_sem, Nat.reduceBEq, Nat.reduceLeDiff, wrap_succ (k := j) (by omega)]
        refine ⟨by rw [List.length_map]; omega, by simp, fun t2 _ => ?_⟩
        refine ⟨⟨(j + 1, some t2), by simp only; omega, fun h => by cases h⟩, by simp only; omega, ?_⟩
        simp only [hsn]
        simp [Wk, wkT, wkL, look, AV.lo]
  · have hjn : j = m := by omega
    subst hjn
    cases o with
    | none =>
      rw [ho rfl]
      exact retQ_le rfl (PVle.nil .full 1 1) rfl
    | some tk => exact retQ_le rfl (PVle.sh _ _ _) rfl
end Go.Proofs.YtlbolnlcncjijaaGreat
namespace Go.Proofs.YtlbolnlcncjijaaGreat.Mk
open Go.RowKit
structure MBook where
  makers : List (List Int)
  seen : List (Int × Int)
  repairs : Int
  fixed : Int
abbrev nK (b : MBook) : Nat := (b.makers.getD 0 []).length
def mkI (b : MBook) (m k : Nat) : Int := (b.makers.getD m []).getD k 0
def mkN (b : MBook) (m k : Nat) : Nat := (mkI b m k).toNat
def seenL (l : List (Int × Int)) (k : Nat) : Nat := l.foldl (fun s m => if m.1 = (k : Int) then s &&& m.2.toNat else s) 31
def seenN (b : MBook) (k : Nat) : Nat := seenL b.seen k
def ownN (b : MBook) (m k : Nat) : Nat := mkN b m k &&& seenN b k
def fixN (b : MBook) : Nat := b.fixed.toNat
def valN (b : MBook) (m c k : Nat) : Nat := if c.testBit k then seenN b k else ownN b m k
def cntN (c n : Nat) : Nat := ((List.range n).filter c.testBit).length
def truthB (b : MBook) (m c : Nat) : Bool := decide (c &&& fixN b = 0) && decide ((cntN c (nK b) : Int) ≤ b.repairs) && (List.range (nK b)).all fun k => decide (valN b m c k ≠ 0)
def truthsL (b : MBook) (m : Nat) : List Nat := (List.range (2 ^ nK b)).filter (truthB b m)
def possB (b : MBook) (m : Nat) : Bool := decide (truthsL b m ≠ [])
def zeroB (b : MBook) (m k : Nat) : Bool := decide (ownN b m k = 0)
def zeros (b : MBook) (m : Nat) : Nat := ((List.range (nK b)).filter (zeroB b m)).length
def rightB (b : MBook) : Bool := (List.range (nK b)).all fun k => decide (seenN b k ≠ 0)
def freeB (b : MBook) (m : Nat) : Bool := (List.range (nK b)).all fun k => !(zeroB b m k && (fixN b).testBit k)
def whoL (b : MBook) : List Nat := (List.range b.makers.length).filter (possB b)
theorem ne_bit {x : Nat} : x ≠ 0 ↔ ∃ i, x.testBit i = true := by
  constructor
  · intro h
    exact Nat.exists_testBit_of_ne_zero h
  · rintro ⟨i, hi⟩ rfl
    simp at hi
theorem and_ne {x y : Nat} : x &&& y ≠ 0 ↔ ∃ i, x.testBit i = true ∧ y.testBit i = true := by
  rw [ne_bit]
  simp only [Nat.testBit_and, Bool.and_eq_true]
theorem and_zero {x y : Nat} : x &&& y = 0 ↔ ∀ i, ¬ (x.testBit i = true ∧ y.testBit i = true) := by
  constructor
  · intro h i hi
    exact and_ne.2 ⟨i, hi⟩ h
  · intro h
    rcases Decidable.em (x &&& y = 0) with h0 | h0
    · exact h0
    · obtain ⟨i, hi⟩ := and_ne.1 h0
      exact absurd hi (h i)
theorem bit_lt {c n k : Nat} (h : c < 2 ^ n) (hb : c.testBit k = true) : k < n := by
  rcases Nat.lt_or_ge k n with h1 | h1
  · exact h1
  · rw [Nat.testBit_lt_two_pow (Nat.lt_of_lt_of_le h (Nat.pow_le_pow_right (by decide) h1))] at hb
    cases hb
theorem bitsN (p : Nat → Bool) : ∀ m : Nat, ∃ s : Nat, s < 2 ^ m ∧ ∀ i, i < m → s.testBit i = p i
  | 0 => ⟨0, by decide, fun i h => absurd h (by omega)⟩
  | m + 1 => by
    obtain ⟨s, hs, hp⟩ := bitsN p m
    cases hm : p m
    · refine ⟨s, by rw [Nat.pow_succ]; omega, fun i hi => ?_⟩
      by_cases e : i = m
      · rw [e, hm]
        exact Nat.testBit_lt_two_pow hs
      · exact hp i (by omega)
    · refine ⟨2 ^ m + s, by rw [Nat.pow_succ]; omega, fun i hi => ?_⟩
      by_cases e : i = m
      · rw [e, hm, Nat.testBit_two_pow_add_eq, Nat.testBit_lt_two_pow hs]
        rfl
      · rw [Nat.testBit_two_pow_add_gt (by omega)]
        exact hp i (by omega)
theorem filt_le {n : Nat} {p q : Nat → Bool} (h : ∀ k, k < n → p k = true → q k = true) : ((List.range n).filter p).length ≤ ((List.range n).filter q).length := by
  rw [← List.countP_eq_length_filter, ← List.countP_eq_length_filter]
  refine List.countP_mono_left fun k hk hp => h k (List.mem_range.1 hk) hp
theorem filt_eq {n : Nat} {p q : Nat → Bool} (h : ∀ k, k < n → p k = q k) : ((List.range n).filter p).length = ((List.range n).filter q).length := by
  rw [List.filter_congr fun k hk => h k (List.mem_range.1 hk)]
theorem cnt_bits {c n : Nat} {p : Nat → Bool} (h : ∀ k, k < n → c.testBit k = p k) : cntN c n = ((List.range n).filter p).length := filt_eq h
theorem own_sub {b : MBook} {m k i : Nat} (h : (ownN b m k).testBit i = true) : (seenN b k).testBit i = true ∧ (mkN b m k).testBit i = true := by
  unfold ownN at h
  rw [Nat.testBit_and, Bool.and_eq_true] at h
  exact ⟨h.2, h.1⟩
theorem val_seen {b : MBook} {m c k i : Nat} (h : (valN b m c k).testBit i = true) : (seenN b k).testBit i = true := by
  unfold valN at h
  split at h
  · exact h
  · exact (own_sub h).1
structure TruthP (b : MBook) (m c : Nat) : Prop where
  fix : ∀ k, c.testBit k = true → (fixN b).testBit k = false
  cnt : (cntN c (nK b) : Int) ≤ b.repairs
  val : ∀ k, k < nK b → valN b m c k ≠ 0
theorem truth_iff {b : MBook} {m c : Nat} : truthB b m c = true ↔ TruthP b m c := by
  unfold truthB
  rw [Bool.and_eq_true, Bool.and_eq_true, decide_eq_true_eq, decide_eq_true_eq, List.all_eq_true, and_zero]
  constructor
  · rintro ⟨⟨h1, h2⟩, h3⟩
    refine ⟨fun k hk => ?_, h2, fun k hk => by simpa using h3 k (List.mem_range.2 hk)⟩
    rw [Bool.eq_false_iff]
    exact fun h => h1 k ⟨hk, h⟩
  · rintro ⟨h1, h2, h3⟩
    refine ⟨⟨fun i hi => ?_, h2⟩, fun k hk => by simpa using h3 k (List.mem_range.1 hk)⟩
    rw [h1 i hi.1] at hi
    exact absurd hi.2 (by decide)
theorem mem_truths {b : MBook} {m c : Nat} : c ∈ truthsL b m ↔ c < 2 ^ nK b ∧ TruthP b m c := by
  unfold truthsL
  rw [List.mem_filter, List.mem_range, truth_iff]
theorem poss_iff {b : MBook} {m : Nat} : possB b m = true ↔ ∃ c, c < 2 ^ nK b ∧ TruthP b m c := by
  unfold possB
  rw [decide_eq_true_eq]
  constructor
  · intro h
    obtain ⟨c, l, e⟩ := List.exists_cons_of_ne_nil h
    exact ⟨c, mem_truths.1 (by rw [e]; exact List.mem_cons_self ..)⟩
  · rintro ⟨c, hc⟩ e
    have := mem_truths.2 hc
    rw [e] at this
    exact absurd this (by simp)
theorem truth_of {b : MBook} {m : Nat} {p : Nat → Bool} (hr : rightB b = true) (hz : ∀ k, k < nK b → zeroB b m k = true → p k = true) (hf : ∀ k, k < nK b → p k = true → (fixN b).testBit k = false) (hc : (((List.range (nK b)).filter p).length : Int) ≤ b.repairs) :
    ∃ c, c < 2 ^ nK b ∧ TruthP b m c ∧ ∀ k, k < nK b → c.testBit k = p k := by
  obtain ⟨c, hlt, hb⟩ := bitsN p (nK b)
  refine ⟨c, hlt, ⟨fun k hk => ?_, ?_, fun k hk => ?_⟩, hb⟩
  · have hkn := bit_lt hlt hk
    rw [hb k hkn] at hk
    exact hf k hkn hk
  · rw [cnt_bits hb]
    exact hc
  · unfold valN
    rw [hb k hk]
    have hs : seenN b k ≠ 0 := by
      have := List.all_eq_true.1 hr k (List.mem_range.2 hk)
      simpa using this
    cases hp : p k
    · rw [if_neg (by decide)]
      intro h0
      have := hz k hk (decide_eq_true h0)
      rw [hp] at this
      cases this
    · rw [if_pos rfl]
      exact hs
theorem truth_zero {b : MBook} {m c k : Nat} (h : TruthP b m c) (hk : k < nK b) (hz : zeroB b m k = true) : c.testBit k = true := by
  have h0 : ownN b m k = 0 := of_decide_eq_true hz
  have hv := h.val k hk
  unfold valN at hv
  split at hv
  · assumption
  · exact absurd h0 hv
theorem truth_right {b : MBook} {m c : Nat} (h : TruthP b m c) : rightB b = true := by
  refine List.all_eq_true.2 fun k hk => ?_
  obtain ⟨i, hi⟩ := ne_bit.1 (h.val k (List.mem_range.1 hk))
  simp only [decide_eq_true_eq]
  exact ne_bit.2 ⟨i, val_seen hi⟩
theorem truth_free {b : MBook} {m c : Nat} (h : TruthP b m c) : freeB b m = true := by
  refine List.all_eq_true.2 fun k hk => ?_
  cases hz : zeroB b m k
  · rfl
  · rw [h.fix k (truth_zero h (List.mem_range.1 hk) hz)]
    rfl
theorem truth_cnt {b : MBook} {m c : Nat} (h : TruthP b m c) : zeros b m ≤ cntN c (nK b) := filt_le fun _ hk hz => truth_zero h hk hz
theorem free_fix {b : MBook} {m k : Nat} (h : freeB b m = true) (hk : k < nK b) (hz : zeroB b m k = true) : (fixN b).testBit k = false := by
  have := List.all_eq_true.1 h k (List.mem_range.2 hk)
  rw [hz] at this
  simpa using this
theorem poss_eq {b : MBook} {m : Nat} : possB b m = true ↔ rightB b = true ∧ freeB b m = true ∧ (zeros b m : Int) ≤ b.repairs := by
  rw [poss_iff]
  constructor
  · rintro ⟨c, -, h⟩
    have h1 := truth_cnt h
    have h2 := h.cnt
    exact ⟨truth_right h, truth_free h, by omega⟩
  · rintro ⟨h1, h2, h3⟩
    obtain ⟨c, hlt, ht, -⟩ := truth_of (p := zeroB b m) h1 (fun _ _ h => h) (fun k hk hz => free_fix h2 hk hz) h3
    exact ⟨c, hlt, ht⟩
theorem each_iff {b : MBook} {m k : Nat} (hp : possB b m = true) (hk : k < nK b) : (∀ c ∈ truthsL b m, c.testBit k = true) ↔ zeroB b m k = true := by
  obtain ⟨h1, h2, h3⟩ := poss_eq.1 hp
  constructor
  · intro H
    obtain ⟨c, hlt, ht, hb⟩ := truth_of (p := zeroB b m) h1 (fun _ _ h => h) (fun k hk hz => free_fix h2 hk hz) h3
    have := H c (mem_truths.2 ⟨hlt, ht⟩)
    rwa [hb k hk] at this
  · intro hz c hc
    exact truth_zero (mem_truths.1 hc).2 hk hz
theorem filt_one {n k : Nat} (hk : k < n) {p : Nat → Bool} (hp : p k = false) : ((List.range n).filter fun i => p i || decide (i = k)).length = ((List.range n).filter p).length + 1 := by
  rw [← List.countP_eq_length_filter, ← List.countP_eq_length_filter]
  have h1 : List.range n = List.range k ++ k :: List.range' (k + 1) (n - k - 1) := by
    rw [List.range_eq_range', List.range_eq_range', ← List.range'_succ]
    have := List.range'_append (s := 0) (m := k) (n := n - k - 1 + 1) (step := 1)
    rw [Nat.one_mul, Nat.zero_add, show k + (n - k - 1 + 1) = n by omega] at this
    exact this.symm
  rw [h1, List.countP_append, List.countP_append, List.countP_cons, List.countP_cons, hp]
  have e1 : (List.range k).countP (fun i => p i || decide (i = k)) = (List.range k).countP p := by
    refine List.countP_congr fun i hi => ?_
    have := List.mem_range.1 hi
    simp [show ¬ i = k by omega]
  have e2 : (List.range' (k + 1) (n - k - 1)).countP (fun i => p i || decide (i = k)) = (List.range' (k + 1) (n - k - 1)).countP p := by
    refine List.countP_congr fun i hi => ?_
    have := (List.mem_range'_1.1 hi).1
    simp [show ¬ i = k by omega]
  rw [e1, e2]
  simp
  omega
theorem some_iff {b : MBook} {m k : Nat} (hp : possB b m = true) (hk : k < nK b) : (∃ c ∈ truthsL b m, c.testBit k = true) ↔ zeroB b m k = true ∨ ((fixN b).testBit k = false ∧ (zeros b m : Int) < b.repairs) := by
  obtain ⟨h1, h2, h3⟩ := poss_eq.1 hp
  constructor
  · rintro ⟨c, hc, hb⟩
    obtain ⟨-, ht⟩ := mem_truths.1 hc
    cases hz : zeroB b m k
    · refine .inr ⟨ht.fix k hb, ?_⟩
      have e := filt_one hk hz
      have : ((List.range (nK b)).filter fun i => zeroB b m i || decide (i = k)).length ≤ cntN c (nK b) := filt_le fun i hi h => by
        rw [Bool.or_eq_true, decide_eq_true_eq] at h
        rcases h with h | rfl
        · exact truth_zero ht hi h
        · exact hb
      have := ht.cnt
      unfold zeros
      omega
    · exact .inl rfl
  · intro H
    cases hz : zeroB b m k
    · rw [hz] at H
      rcases H with H | ⟨hf, hlt⟩
      · cases H
      obtain ⟨c, hc, ht, hb⟩ := truth_of (p := fun i => zeroB b m i || decide (i = k)) h1 (fun i _ h => by rw [h]; rfl) (fun i hi h => by
        rw [Bool.or_eq_true, decide_eq_true_eq] at h
        rcases h with h | rfl
        · exact free_fix h2 hi h
        · exact hf) (by rw [filt_one hk hz]; unfold zeros at hlt; omega)
      refine ⟨c, mem_truths.2 ⟨hc, ht⟩, ?_⟩
      rw [hb k hk]
      simp
    · obtain ⟨c, hc, ht, hb⟩ := truth_of (p := zeroB b m) h1 (fun _ _ h => h) (fun k hk hz => free_fix h2 hk hz) h3
      exact ⟨c, mem_truths.2 ⟨hc, ht⟩, truth_zero ht hk hz⟩
end Go.Proofs.YtlbolnlcncjijaaGreat.Mk
namespace Go.Proofs.YtlbolnlcncjijaaGreat.Mk
open Go.RowKit
def allT (b : MBook) : List (Nat × Nat) := (List.range b.makers.length).flatMap fun m => (truthsL b m).map fun c => (m, c)
def canN (b : MBook) (k : Nat) : Nat := (allT b).foldl (fun s t => s ||| valN b t.1 t.2 k) 0
def valuesL (b : MBook) (k : Nat) : List Nat := (List.range 5).filter (canN b k).testBit
theorem mem_allT {b : MBook} {m c : Nat} : (m, c) ∈ allT b ↔ m < b.makers.length ∧ c ∈ truthsL b m := by
  unfold allT
  rw [List.mem_flatMap]
  constructor
  · rintro ⟨m', hm, h⟩
    obtain ⟨c', hc, e⟩ := List.mem_map.1 h
    rw [Prod.mk.injEq] at e
    obtain ⟨rfl, rfl⟩ := e
    exact ⟨List.mem_range.1 hm, hc⟩
  · rintro ⟨hm, hc⟩
    exact ⟨m, List.mem_range.2 hm, List.mem_map.2 ⟨c, hc, rfl⟩⟩
theorem fold_or {α : Type} (f : α → Nat) (i : Nat) : ∀ (l : List α) (s : Nat), (l.foldl (fun s t => s ||| f t) s).testBit i = true ↔ s.testBit i = true ∨ ∃ t ∈ l, (f t).testBit i = true
  | [], s => by simp
  | x :: l, s => by
    rw [List.foldl_cons, fold_or f i l, Nat.testBit_or, Bool.or_eq_true]
    simp only [List.mem_cons]
    constructor
    · rintro ((h | h) | ⟨t, ht, h⟩)
      · exact .inl h
      · exact .inr ⟨x, .inl rfl, h⟩
      · exact .inr ⟨t, .inr ht, h⟩
    · rintro (h | ⟨t, rfl | ht, h⟩)
      · exact .inl (.inl h)
      · exact .inl (.inr h)
      · exact .inr ⟨t, ht, h⟩
theorem can_bit {b : MBook} {k i : Nat} : (canN b k).testBit i = true ↔ ∃ m c, m < b.makers.length ∧ c ∈ truthsL b m ∧ (valN b m c k).testBit i = true := by
  unfold canN
  rw [fold_or]
  constructor
  · rintro (h | ⟨⟨m, c⟩, ht, h⟩)
    · simp at h
    · obtain ⟨hm, hc⟩ := mem_allT.1 ht
      exact ⟨m, c, hm, hc, h⟩
  · rintro ⟨m, c, hm, hc, h⟩
    exact .inr ⟨(m, c), mem_allT.2 ⟨hm, hc⟩, h⟩
def withR (b : MBook) (r : Nat) : MBook := { b with repairs := (r : Int) }
def needsO (b : MBook) (m : Nat) : Option Nat := (List.range (nK b + 1)).find? fun r => possB (withR b r) m
theorem zeros_le (b : MBook) (m : Nat) : zeros b m ≤ nK b := by
  unfold zeros
  exact Nat.le_trans (List.length_filter_le ..) (by simp)
theorem possR_eq {b : MBook} {m r : Nat} : possB (withR b r) m = true ↔ rightB b = true ∧ freeB b m = true ∧ zeros b m ≤ r := by
  rw [poss_eq]
  show rightB b = true ∧ freeB b m = true ∧ (zeros b m : Int) ≤ (r : Int) ↔ _
  rw [Int.ofNat_le]
theorem find_range {n : Nat} {P : Nat → Bool} {z : Nat} (hz : z < n) (hp : P z = true) (hb : ∀ x, x < z → P x = false) : (List.range n).find? P = some z := by
  rw [List.find?_eq_some_iff_append]
  refine ⟨hp, List.range z, List.range' (z + 1) (n - z - 1), ?_, fun x hx => by rw [hb x (List.mem_range.1 hx)]; rfl⟩
  rw [List.range_eq_range', List.range_eq_range', ← List.range'_succ]
  have := List.range'_append (s := 0) (m := z) (n := n - z - 1 + 1) (step := 1)
  rw [Nat.one_mul, Nat.zero_add, show z + (n - z - 1 + 1) = n by omega] at this
  exact this.symm
theorem needs_eq {b : MBook} {m : Nat} : needsO b m = if rightB b = true ∧ freeB b m = true then some (zeros b m) else none := by
  unfold needsO
  split
  · rename_i h
    refine find_range (by have := zeros_le b m; omega) (possR_eq.2 ⟨h.1, h.2, Nat.le_refl _⟩) fun x hx => ?_
    rw [Bool.eq_false_iff]
    intro hp
    have := (possR_eq.1 hp).2.2
    omega
  · rename_i h
    rw [List.find?_eq_none]
    intro r _ hp
    obtain ⟨h1, h2, -⟩ := possR_eq.1 hp
    exact h ⟨h1, h2⟩
theorem needs_poss {b : MBook} {m : Nat} : possB b m = true ↔ ∃ z, needsO b m = some z ∧ (z : Int) ≤ b.repairs := by
  rw [poss_eq, needs_eq]
  constructor
  · rintro ⟨h1, h2, h3⟩
    exact ⟨_, if_pos ⟨h1, h2⟩, h3⟩
  · rintro ⟨z, h, h3⟩
    split at h
    · rename_i h4
      cases h
      exact ⟨h4.1, h4.2, h3⟩
    · cases h
structure Sub (x b : MBook) : Prop where
  makers : x.makers = b.makers
  seen : ∀ k i, (seenN x k).testBit i = true → (seenN b k).testBit i = true
  repairs : x.repairs ≤ b.repairs
  fixed : x.fixed = b.fixed
theorem Sub.kinds {x b : MBook} (h : Sub x b) : nK x = nK b := by unfold nK; rw [h.makers]
theorem Sub.mark {x b : MBook} (h : Sub x b) (m k : Nat) : mkN x m k = mkN b m k := by unfold mkN mkI; rw [h.makers]
theorem Sub.val {x b : MBook} (h : Sub x b) {m c k i : Nat} (hv : (valN x m c k).testBit i = true) : (valN b m c k).testBit i = true := by
  unfold valN at hv ⊢
  split
  · rename_i hc
    rw [if_pos hc] at hv
    exact h.seen k i hv
  · rename_i hc
    rw [if_neg hc] at hv
    unfold ownN at hv ⊢
    rw [Nat.testBit_and, Bool.and_eq_true] at hv ⊢
    exact ⟨by rw [← h.mark]; exact hv.1, h.seen k i hv.2⟩
theorem Sub.truth {x b : MBook} (h : Sub x b) {m c : Nat} (ht : TruthP x m c) : TruthP b m c := by
  refine ⟨fun k hk => ?_, ?_, fun k hk => ?_⟩
  · have := ht.fix k hk
    unfold fixN at this ⊢
    rwa [h.fixed] at this
  · have h1 := ht.cnt
    have h2 := h.repairs
    rw [h.kinds] at h1
    omega
  · obtain ⟨i, hi⟩ := ne_bit.1 (ht.val k (by rw [h.kinds]; exact hk))
    exact ne_bit.2 ⟨i, h.val hi⟩
theorem Sub.truths {x b : MBook} (h : Sub x b) {m c : Nat} (hc : c ∈ truthsL x m) : c ∈ truthsL b m := by
  obtain ⟨h1, h2⟩ := mem_truths.1 hc
  rw [h.kinds] at h1
  exact mem_truths.2 ⟨h1, h.truth h2⟩
theorem Sub.poss {x b : MBook} (h : Sub x b) {m : Nat} (hp : possB x m = true) : possB b m = true := by
  obtain ⟨c, h1, h2⟩ := poss_iff.1 hp
  rw [h.kinds] at h1
  exact poss_iff.2 ⟨c, h1, h.truth h2⟩
theorem Sub.who {x b : MBook} (h : Sub x b) {m : Nat} (hm : m ∈ whoL x) : m ∈ whoL b := by
  unfold whoL at hm ⊢
  rw [List.mem_filter, List.mem_range] at hm ⊢
  rw [h.makers] at hm
  exact ⟨hm.1, h.poss hm.2⟩
theorem Sub.can {x b : MBook} (h : Sub x b) {k i : Nat} (hv : (canN x k).testBit i = true) : (canN b k).testBit i = true := by
  obtain ⟨m, c, hm, hc, hb⟩ := can_bit.1 hv
  rw [h.makers] at hm
  exact can_bit.2 ⟨m, c, hm, h.truths hc, h.val hb⟩
theorem Sub.values {x b : MBook} (h : Sub x b) {k i : Nat} (hv : i ∈ valuesL x k) : i ∈ valuesL b k := by
  unfold valuesL at hv ⊢
  rw [List.mem_filter] at hv ⊢
  exact ⟨hv.1, h.can hv.2⟩
theorem seenL_app (l r : List (Int × Int)) (k : Nat) : seenL (l ++ r) k = r.foldl (fun s m => if m.1 = (k : Int) then s &&& m.2.toNat else s) (seenL l k) := by
  unfold seenL
  rw [List.foldl_append]
theorem seenF_bit (k i : Nat) : ∀ (l : List (Int × Int)) (s : Nat), (l.foldl (fun s m => if m.1 = (k : Int) then s &&& m.2.toNat else s) s).testBit i = true ↔ s.testBit i = true ∧ ∀ m ∈ l, m.1 = (k : Int) → m.2.toNat.testBit i = true
  | [], s => by simp
  | x :: l, s => by
    rw [List.foldl_cons, seenF_bit k i l]
    simp only [List.mem_cons]
    by_cases e : x.1 = (k : Int)
    · rw [if_pos e, Nat.testBit_and, Bool.and_eq_true]
      constructor
      · rintro ⟨⟨h1, h2⟩, h3⟩
        refine ⟨h1, fun m hm he => ?_⟩
        rcases hm with rfl | hm
        · exact h2
        · exact h3 m hm he
      · rintro ⟨h1, h2⟩
        exact ⟨⟨h1, h2 x (.inl rfl) e⟩, fun m hm he => h2 m (.inr hm) he⟩
    · rw [if_neg e]
      constructor
      · rintro ⟨h1, h2⟩
        refine ⟨h1, fun m hm he => ?_⟩
        rcases hm with rfl | hm
        · exact absurd he e
        · exact h2 m hm he
      · rintro ⟨h1, h2⟩
        exact ⟨h1, fun m hm he => h2 m (.inr hm) he⟩
theorem seen_bit {b : MBook} {k i : Nat} : (seenN b k).testBit i = true ↔ i < 5 ∧ ∀ m ∈ b.seen, m.1 = (k : Int) → m.2.toNat.testBit i = true := by
  unfold seenN seenL
  rw [seenF_bit]
  have e : (31 : Nat).testBit i = decide (i < 5) := by
    rw [show (31 : Nat) = 2 ^ 5 - 1 by decide, Nat.testBit_two_pow_sub_one]
  rw [e, decide_eq_true_eq]
def knowB (b : MBook) (k v : Nat) : MBook := { b with seen := b.seen ++ [((k : Int), 2 ^ v)] }
def exactB (b : MBook) (l : List Int) : MBook := { b with seen := (List.range l.length).map fun (k : Nat) => ((k : Int), 2 ^ (l.getD k 0).toNat) }
def unseenB (b : MBook) : MBook := { b with seen := [] }
theorem sub_more (b : MBook) (l : List (Int × Int)) : Sub { b with seen := b.seen ++ l } b := by
  refine ⟨rfl, fun k i h => ?_, Int.le_refl _, rfl⟩
  obtain ⟨h1, h2⟩ := seen_bit.1 h
  exact seen_bit.2 ⟨h1, fun m hm he => h2 m (List.mem_append_left _ hm) he⟩
theorem seen_unseen (b : MBook) (k : Nat) : seenN (unseenB b) k = 31 := rfl
end Go.Proofs.YtlbolnlcncjijaaGreat.Mk
