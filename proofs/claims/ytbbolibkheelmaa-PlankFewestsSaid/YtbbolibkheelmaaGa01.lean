/- Plain mathematics: no program. Small words that the walks and the laws share. What memory holds: slices of ints, of spans, of planks and parts; that these still stand in a later world. Walks: the checks of a book. -/
import Derived.WalkKit
import Derived.WalkSpells
import Derived.WalkLawsBesides
import Derived.Lib.Hide
import Derived.Laws.Rows
import Derived.Laws.Tables
import Derived.Deep.Draws
import Derived.Deep.MidRow
import Derived.Test.YtbbolibkheelmaaProg
import Derived.Deep.QuietTactic
import Derived.BigQuiet
namespace Go.Proofs.Ytbbolibkheelmaa

/-- 'for all i < n'. -/
def allB : Nat → (Nat → Bool) → Bool
  | 0, _ => true
  | n + 1, p => allB n p && p n

theorem allB_iff {n : Nat} {p : Nat → Bool} : allB n p = true ↔ ∀ i, i < n → p i = true := by
  induction n with
  | zero => simp [allB]
  | succ n ih =>
    simp only [allB, Bool.and_eq_true, ih]
    constructor
    · rintro ⟨h, h'⟩ i hi
      rcases Nat.lt_succ_iff_lt_or_eq.1 hi with h1 | rfl
      · exact h i h1
      · exact h'
    · exact fun h => ⟨fun i hi => h i (by omega), h n (by omega)⟩

theorem allB_false {n : Nat} {p : Nat → Bool} {i : Nat} (hi : i < n) (h : p i = false) : allB n p = false := by
  cases hb : allB n p with
  | false => rfl
  | true => rw [allB_iff.1 hb i hi] at h; cases h

theorem allB_succ {n : Nat} {p : Nat → Bool} (h : allB n p = true) (h' : p n = true) : allB (n + 1) p = true := by
  simp [allB, h, h']

theorem allB_congr {n : Nat} {p q : Nat → Bool} (h : ∀ i, i < n → p i = q i) : allB n p = allB n q := by
  induction n with
  | zero => rfl
  | succ n ih => simp only [allB]; rw [ih (fun i hi => h i (by omega)), h n (by omega)]

/-- 'for some i < n'. -/
def anyB : Nat → (Nat → Bool) → Bool
  | 0, _ => false
  | n + 1, p => anyB n p || p n

theorem anyB_iff {n : Nat} {p : Nat → Bool} : anyB n p = true ↔ ∃ i, i < n ∧ p i = true := by
  induction n with
  | zero => simp [anyB]
  | succ n ih =>
    simp only [anyB, Bool.or_eq_true, ih]
    constructor
    · rintro (⟨i, hi, h⟩ | h)
      · exact ⟨i, by omega, h⟩
      · exact ⟨n, by omega, h⟩
    · rintro ⟨i, hi, h⟩
      rcases Nat.lt_succ_iff_lt_or_eq.1 hi with h1 | rfl
      · exact .inl ⟨i, h1, h⟩
      · exact .inr h

theorem anyB_congr {n : Nat} {p q : Nat → Bool} (h : ∀ i, i < n → p i = q i) : anyB n p = anyB n q := by
  induction n with
  | zero => rfl
  | succ n ih => simp only [anyB]; rw [ih (fun i hi => h i (by omega)), h n (by omega)]

/-- An element of a list of ints (0 behind its end). -/
def gi (xs : List Int) (i : Nat) : Int := xs.getD i 0
def gp (xs : List (Int × Int)) (i : Nat) : Int × Int := xs.getD i (0, 0)

def withinB (n lo hi : Int) : Bool := decide (lo ≤ n) && decide (n ≤ hi)
def incB (xs : List Int) : Bool := allB (xs.length - 1) fun i => decide (gi xs i < gi xs (i + 1))

/-- A plank, a part, a book. -/
structure Wood where
  long : Int
  knots : List (Int × Int)
  deriving DecidableEq
structure Shape where
  long : Int
  joints : List Int
  turns : Bool
  deriving DecidableEq
structure Book where
  planks : List Wood
  parts : List Shape
  deriving DecidableEq

def gw (xs : List Wood) (i : Nat) : Wood := xs.getD i ⟨0, []⟩
def gs (xs : List Shape) (i : Nat) : Shape := xs.getD i ⟨0, [], false⟩

def spanOk (long : Int) (k : Int × Int) : Bool := withinB k.1 0 (long - 1) && withinB k.2 k.1 (long - 1) && !decide (6 < k.2 - k.1)
def woodOk (x : Wood) : Bool := withinB x.long 1 16 && decide (x.knots.length ≤ 3) && allB x.knots.length fun i => spanOk x.long (gp x.knots i)
def shapeOk (x : Shape) : Bool := withinB x.long 1 12 && decide (x.joints.length ≤ 3) && (allB x.joints.length fun i => withinB (gi x.joints i) 0 (x.long - 1)) && incB x.joints
def bookOk (b : Book) : Bool :=
  decide (1 ≤ b.planks.length) && decide (b.planks.length ≤ 3) && (decide (1 ≤ b.parts.length) && decide (b.parts.length ≤ 5)) &&
    (allB b.planks.length fun i => woodOk (gw b.planks i)) && allB b.parts.length fun i => shapeOk (gs b.parts i)

theorem woodOk_bad {x : Wood} {k : Nat} (hk : k < x.knots.length) (h : spanOk x.long (gp x.knots k) = false) : woodOk x = false := by
  unfold woodOk; rw [allB_false hk h]; simp
theorem woodOk_good {x : Wood} (h1 : 1 ≤ x.long) (h2 : x.long ≤ 16) (h3 : x.knots.length ≤ 3) (h : allB x.knots.length (fun i => spanOk x.long (gp x.knots i)) = true) : woodOk x = true := by
  unfold woodOk withinB; rw [h]; simp [h1, h2, h3]
theorem shapeOk_bad {x : Shape} {k : Nat} (hk : k < x.joints.length) (h : withinB (gi x.joints k) 0 (x.long - 1) = false) : shapeOk x = false := by
  unfold shapeOk; rw [allB_false hk h]; simp
theorem shapeOk_good {x : Shape} (h1 : 1 ≤ x.long) (h2 : x.long ≤ 12) (h3 : x.joints.length ≤ 3) (h : allB x.joints.length (fun i => withinB (gi x.joints i) 0 (x.long - 1)) = true) : shapeOk x = incB x.joints := by
  unfold shapeOk withinB; unfold withinB at h; rw [h]; simp [h1, h2, h3]
theorem bookOk_bad1 {b : Book} {k : Nat} (hk : k < b.planks.length) (h : woodOk (gw b.planks k) = false) : bookOk b = false := by
  unfold bookOk; rw [allB_false hk h]; simp
theorem bookOk_bad2 {b : Book} {k : Nat} (hk : k < b.parts.length) (h : shapeOk (gs b.parts k) = false) : bookOk b = false := by
  unfold bookOk; rw [allB_false hk h]; simp
theorem bookOk_good {b : Book} (h1 : 1 ≤ b.planks.length) (h2 : b.planks.length ≤ 3) (h3 : 1 ≤ b.parts.length) (h4 : b.parts.length ≤ 5)
    (h : allB b.planks.length (fun i => woodOk (gw b.planks i)) = true) (h' : allB b.parts.length (fun i => shapeOk (gs b.parts i)) = true) : bookOk b = true := by
  unfold bookOk; rw [h, h']; simp [h1, h2, h3, h4]

end Go.Proofs.Ytbbolibkheelmaa
namespace Go.Proofs.Ytbbolibkheelmaa
open Go.RowKit

def I64 (x : Int) : Prop := -9223372036854775808 ≤ x ∧ x ≤ 9223372036854775807

/-- The slice at a, of length n, in blocks below B, reads as the ints xs. -/
structure IntsAt (B : Nat) (w : World) (a : Option Addr) (n : Nat) (xs : List Int) : Prop where
  len : xs.length = n
  small : n ≤ 140737488355328
  get : ∀ i, i < n → ∃ b o, a = some ⟨b, o, none⟩ ∧ b < B ∧ ∀ i, i < n → w.cell? ⟨b, o + i, none⟩ = some (.int .i64 (gi xs i)) ∧ I64 (gi xs i)

structure SpansAt (B : Nat) (w : World) (a : Option Addr) (n : Nat) (xs : List (Int × Int)) : Prop where
  len : xs.length = n
  small : n ≤ 140737488355328
  get : ∀ i, i < n → ∃ b o, a = some ⟨b, o, none⟩ ∧ b < B ∧ ∀ i, i < n →
    w.cell? ⟨b, o + i * 2, none⟩ = some (.int .i64 (gp xs i).1) ∧ w.cell? ⟨b, o + i * 2 + 1, none⟩ = some (.int .i64 (gp xs i).2) ∧ I64 (gp xs i).1 ∧ I64 (gp xs i).2

/-- The second cell of a plank: its knots. -/
def KnotsV (B : Nat) (w : World) (v : Value) (x : Wood) : Prop := ∃ a n c, v = .slice a n c ∧ SpansAt B w a n x.knots
def JointsV (B : Nat) (w : World) (v : Value) (x : Shape) : Prop := ∃ a n c, v = .slice a n c ∧ IntsAt B w a n x.joints

structure WoodsAt (B : Nat) (w : World) (a : Option Addr) (n : Nat) (xs : List Wood) : Prop where
  len : xs.length = n
  small : n ≤ 140737488355328
  get : ∀ i, i < n → ∃ b o, a = some ⟨b, o, none⟩ ∧ b < B ∧ ∀ i, i < n → ∃ v, KnotsV B w v (gw xs i) ∧
    w.cell? ⟨b, o + i * 2, none⟩ = some (.int .i64 (gw xs i).long) ∧ w.cell? ⟨b, o + i * 2 + 1, none⟩ = some v ∧ I64 (gw xs i).long

structure ShapesAt (B : Nat) (w : World) (a : Option Addr) (n : Nat) (xs : List Shape) : Prop where
  len : xs.length = n
  small : n ≤ 140737488355328
  get : ∀ i, i < n → ∃ b o, a = some ⟨b, o, none⟩ ∧ b < B ∧ ∀ i, i < n → ∃ v, JointsV B w v (gs xs i) ∧
    w.cell? ⟨b, o + i * 3, none⟩ = some (.int .i64 (gs xs i).long) ∧ w.cell? ⟨b, o + i * 3 + 1, none⟩ = some v ∧ w.cell? ⟨b, o + i * 3 + 2, none⟩ = some (.bool (gs xs i).turns) ∧ I64 (gs xs i).long

/-- A book's two slices. -/
structure BookAt (B : Nat) (w : World) (pa : Option Addr) (pn : Nat) (sa : Option Addr) (sn : Nat) (b : Book) : Prop where
  planks : WoodsAt B w pa pn b.planks
  parts : ShapesAt B w sa sn b.parts

section
variable {B B' : Nat} {w w' : World} {a sa : Option Addr} {n sn : Nat}

theorem IntsAt.keep {xs : List Int} (h : IntsAt B w a n xs) (hB : B ≤ B') (hk : ∀ b o, b < B → w'.cell? ⟨b, o, none⟩ = w.cell? ⟨b, o, none⟩) : IntsAt B' w' a n xs :=
  ⟨h.len, h.small, fun i hi => let ⟨b, o, e, hb, hc⟩ := h.get i hi; ⟨b, o, e, by omega, fun j hj => ⟨(hk b _ hb).trans (hc j hj).1, (hc j hj).2⟩⟩⟩
theorem SpansAt.keep {xs : List (Int × Int)} (h : SpansAt B w a n xs) (hB : B ≤ B') (hk : ∀ b o, b < B → w'.cell? ⟨b, o, none⟩ = w.cell? ⟨b, o, none⟩) : SpansAt B' w' a n xs :=
  ⟨h.len, h.small, fun i hi => let ⟨b, o, e, hb, hc⟩ := h.get i hi; ⟨b, o, e, by omega, fun j hj => let ⟨h1, h2, h3⟩ := hc j hj; ⟨(hk b _ hb).trans h1, (hk b _ hb).trans h2, h3⟩⟩⟩
theorem KnotsV.keep {v : Value} {x : Wood} (h : KnotsV B w v x) (hB : B ≤ B') (hk : ∀ b o, b < B → w'.cell? ⟨b, o, none⟩ = w.cell? ⟨b, o, none⟩) : KnotsV B' w' v x :=
  let ⟨a, n, c, e, h⟩ := h; ⟨a, n, c, e, h.keep hB hk⟩
theorem JointsV.keep {v : Value} {x : Shape} (h : JointsV B w v x) (hB : B ≤ B') (hk : ∀ b o, b < B → w'.cell? ⟨b, o, none⟩ = w.cell? ⟨b, o, none⟩) : JointsV B' w' v x :=
  let ⟨a, n, c, e, h⟩ := h; ⟨a, n, c, e, h.keep hB hk⟩
theorem WoodsAt.keep {xs : List Wood} (h : WoodsAt B w a n xs) (hB : B ≤ B') (hk : ∀ b o, b < B → w'.cell? ⟨b, o, none⟩ = w.cell? ⟨b, o, none⟩) : WoodsAt B' w' a n xs :=
  ⟨h.len, h.small, fun i hi => let ⟨b, o, e, hb, hc⟩ := h.get i hi; ⟨b, o, e, by omega, fun j hj => let ⟨v, hv, h1, h2, h3⟩ := hc j hj; ⟨v, hv.keep hB hk, (hk b _ hb).trans h1, (hk b _ hb).trans h2, h3⟩⟩⟩
theorem ShapesAt.keep {xs : List Shape} (h : ShapesAt B w a n xs) (hB : B ≤ B') (hk : ∀ b o, b < B → w'.cell? ⟨b, o, none⟩ = w.cell? ⟨b, o, none⟩) : ShapesAt B' w' a n xs :=
  ⟨h.len, h.small, fun i hi => let ⟨b, o, e, hb, hc⟩ := h.get i hi; ⟨b, o, e, by omega, fun j hj => let ⟨v, hv, h1, h2, h3, h4⟩ := hc j hj; ⟨v, hv.keep hB hk, (hk b _ hb).trans h1, (hk b _ hb).trans h2, (hk b _ hb).trans h3, h4⟩⟩⟩
theorem BookAt.keep {b : Book} (h : BookAt B w a n sa sn b) (hB : B ≤ B') (hk : ∀ b o, b < B → w'.cell? ⟨b, o, none⟩ = w.cell? ⟨b, o, none⟩) : BookAt B' w' a n sa sn b :=
  ⟨h.planks.keep hB hk, h.parts.keep hB hk⟩
end

/-- Cells and marks of old blocks, out of 'Below'. -/
theorem bcells {B : Nat} {w w' : World} (h : Below B w w') : ∀ b o, b < B → w'.cell? ⟨b, o, none⟩ = w.cell? ⟨b, o, none⟩ := fun b o hb => h.cell (p := ⟨b, o, none⟩) hb
theorem bfroz {B : Nat} {w w' : World} (h : Below B w w') : ∀ b o, b < B → w'.frozen? ⟨b, o, none⟩ = w.frozen? ⟨b, o, none⟩ := fun b o hb => h.frozen (p := ⟨b, o, none⟩) hb

theorem ret_bool {a b : Bool} (h : a = b) : Ending.returned (.bool a) = .returned (.bool b) := by rw [h]
theorem ret_int {k : IntKind} {a b : Int} (h : a = b) : Ending.returned (.int k a) = .returned (.int k b) := by rw [h]
theorem below_drewN {B : Nat} {w w' : World} (h : Below B w w') (q : Nat) : Below B w (w'.drewN q) := ⟨h.os, h.tape, h.output, h.size, h.block⟩

/-- The call has only read. -/
def Quiet (w w' : World) : Prop := ∃ q, w' = w.drewN q
theorem Quiet.refl (w : World) : Quiet w w := ⟨0, rfl⟩
theorem Quiet.drewN {w w' : World} (h : Quiet w w') (q : Nat) : Quiet w (w'.drewN q) := by obtain ⟨p, rfl⟩ := h; exact ⟨p + q, World.drewN_drewN ..⟩
theorem Quiet.trans {a b c : World} (h : Quiet a b) (k : Quiet b c) : Quiet a c := by obtain ⟨p, rfl⟩ := k; exact h.drewN p
theorem Quiet.below {w w' : World} (h : Quiet w w') (B : Nat) : Below B w w' := by obtain ⟨p, rfl⟩ := h; exact below_drewN (Below.refl _ _) p

/-- An array of 16 truth values. -/
def encL (m : Nat → Bool) : List Value := (List.range 16).map fun i => Value.bool (m i)
def encIn (m : Nat → Bool) : Array Value := (encL m).toArray
theorem encL_length (m : Nat → Bool) : (encL m).length = 16 := by simp [encL]
def upd (m : Nat → Bool) (i : Nat) (v : Bool) : Nat → Bool := fun j => if j = i then v else m j
theorem encIn_size (m : Nat → Bool) : (encIn m).size = 16 := by simp [encIn, encL]
theorem encIn_get (m : Nat → Bool) {i : Nat} (h : i < 16) : (encIn m)[i]? = some (.bool (m i)) := by simp [encIn, encL, h]
theorem encIn_congr {m n : Nat → Bool} (h : ∀ i, i < 16 → m i = n i) : encIn m = encIn n := by
  unfold encIn encL
  congr 1
  exact List.map_congr_left fun i hi => by rw [h i (List.mem_range.1 hi)]
theorem encIn_set (m : Nat → Bool) {i : Nat} (h : i < 16) (v : Bool) : (encIn m).setIfInBounds i (.bool v) = encIn (upd m i v) := by
  apply Array.ext_getElem?
  intro j
  rw [Array.getElem?_setIfInBounds]
  by_cases hj : j < 16
  · rw [encIn_get (upd m i v) hj]
    by_cases e : i = j
    · subst e; simp [encIn_size, h, upd]
    · rw [if_neg e, encIn_get m hj]; simp [upd, Ne.symm e]
  · have h1 : (encIn (upd m i v))[j]? = none := by rw [Array.getElem?_eq_none]; rw [encIn_size]; omega
    have h2 : (encIn m)[j]? = none := by rw [Array.getElem?_eq_none]; rw [encIn_size]; omega
    rw [h1, h2]
    have : ¬ i = j := by omega
    simp [this]
theorem encIn_inj {m n : Nat → Bool} (h : encIn m = encIn n) : ∀ i, i < 16 → m i = n i := by
  intro i hi
  have := congrArg (fun a : Array Value => a[i]?) h
  simp only [encIn_get _ hi, Option.some.injEq, Value.bool.injEq] at this
  exact this
theorem encIn_one (m : Nat → Bool) : (encIn m).all (·.oneCell') = true := by
  simp [encIn, encL, Value.oneCell']
/-- A block that is such an array. -/
def InBlk (w : World) (b : Nat) (m : Nat → Bool) : Prop := ∃ t, w.heap[b]? = some (.cells (encIn m) t (0, 0))
theorem InBlk.cell {w : World} {b : Nat} {m : Nat → Bool} (h : InBlk w b m) {i : Nat} (hi : i < 16) : w.cell? ⟨b, i, none⟩ = some (.bool (m i)) := by
  obtain ⟨t, h⟩ := h; rw [cell_of_row w b i _ t _ h, encIn_get _ hi]
theorem InBlk.frozen {w : World} {b : Nat} {m : Nat → Bool} (h : InBlk w b m) (i : Nat) : w.frozen? ⟨b, i, none⟩ = false := by
  obtain ⟨t, h⟩ := h; exact frozen_of_row w b i _ t h
theorem InBlk.set {w : World} {b : Nat} {m : Nat → Bool} (h : InBlk w b m) {i : Nat} (hi : i < 16) (v : Bool) : InBlk (w.setCell ⟨b, i, none⟩ (.bool v)) b (upd m i v) := by
  obtain ⟨t, h⟩ := h; exact ⟨t, by rw [heap_setCell_same w b i _ t _ h, encIn_set _ hi]⟩
theorem InBlk.other {w : World} {b : Nat} {m : Nat → Bool} (h : InBlk w b m) {a : Addr} (ha : b ≠ a.block) (v : Value) : InBlk (w.setCell a v) b m := by
  obtain ⟨t, h⟩ := h; exact ⟨t, by rw [heap_setCell_other w a b v ha]; exact h⟩
theorem InBlk.lt {w : World} {b : Nat} {m : Nat → Bool} (h : InBlk w b m) : b < w.heap.size := by
  obtain ⟨t, h⟩ := h; exact lt_of_block h
theorem InBlk.alloc {w : World} {b : Nat} {m : Nat → Bool} (h : InBlk w b m) (o : Obj) : InBlk (w.alloc o) b m := by
  have hl := h.lt
  obtain ⟨t, h⟩ := h; exact ⟨t, by rw [heap_alloc_old w o hl]; exact h⟩
theorem InBlk.new (w : World) (m : Nat → Bool) (t : TypeId) : InBlk (w.alloc (.cells (encIn m) t)) w.heap.size m := ⟨t, heap_alloc_new w _⟩
theorem InBlk.keep {w w' : World} {B b : Nat} {m : Nat → Bool} (h : InBlk w b m) (hb : Below B w w') (hlt : b < B) : InBlk w' b m := by
  obtain ⟨t, h⟩ := h; exact ⟨t, by rw [hb.block b hlt]; exact h⟩
theorem InBlk.congr {w : World} {b : Nat} {m n : Nat → Bool} (h : InBlk w b m) (e : ∀ i, i < 16 → m i = n i) : InBlk w b n := by
  obtain ⟨t, h⟩ := h; exact ⟨t, by rw [← encIn_congr e]; exact h⟩
theorem below_row {B : Nat} {a w : World} (h : Below B a w) {b : Nat} (hb : B ≤ b) (cs : Array Value) : Below B a (w.setRow b cs) :=
  h.trans ⟨rfl, rfl, rfl, by simp, fun k hk => by simp only [World.setRow, Array.getElem?_modify]; rw [if_neg (by omega)]⟩

/-! ### Whole rows (arrays by value) -/
/-- The cells of a block. -/
def rowOf (w : World) (b : Nat) : Array Value := match w.heap[b]? with | some (.cells c _ (0, 0)) => c | _ => #[]
/-- A pointer to a block's head, and its block. -/
def ptr0 : Value → Bool | .pointer (some ⟨_, 0, none⟩) => true | _ => false
def blkOf : Value → Nat | .pointer (some a) => a.block | _ => 0
theorem ptr0_mk' (b : Nat) : ptr0 (.pointer (some ⟨b, 0, none⟩)) = true := rfl
@[simp] theorem ptr0_mk (b : Nat) : ptr0 (.pointer (some ⟨b, 0, none⟩)) = true := (ptr0_mk' b).trans rfl
theorem blkOf_mk' (b o : Nat) (s : Option Nat) : blkOf (.pointer (some ⟨b, o, s⟩)) = b := rfl
@[simp] theorem blkOf_mk (b o : Nat) (s : Option Nat) : blkOf (.pointer (some ⟨b, o, s⟩)) = b := (blkOf_mk' b o s).trans rfl
theorem rowOf_of {w : World} {b : Nat} {c : Array Value} {t : TypeId} (h : w.heap[b]? = some (.cells c t (0, 0))) : rowOf w b = c := by simp [rowOf, h]
theorem rowOf_inv {w : World} {b n : Nat} (h : (rowOf w b).size = n + 1) : ∃ t, w.heap[b]? = some (.cells (rowOf w b) t (0, 0)) := by
  unfold rowOf at *
  split at h
  · rename_i c t hc; exact ⟨t, by rw [hc]⟩
  · simp at h
@[go_sem] theorem rowOf_new (w : World) (c : Array Value) (t : TypeId) : rowOf (w.alloc (.cells c t)) w.heap.size = c := rowOf_of (heap_alloc_new w _)
@[go_sem] theorem rowOf_at (w : World) (c : Array Value) (t : TypeId) (b : Nat) (h : b = w.heap.size) : rowOf (w.alloc (.cells c t)) b = c := by subst h; exact rowOf_new w c t
@[go_sem] theorem rowOf_old (w : World) (o : Obj) (b : Nat) (h : b < w.heap.size) : rowOf (w.alloc o) b = rowOf w b := by unfold rowOf; rw [heap_alloc_old w o h]
@[go_sem] theorem rowOf_drew (w : World) (b : Nat) : rowOf w.drew b = rowOf w b := (show rowOf w.drew b = rowOf w b from rfl).trans rfl
@[go_sem] theorem rowOf_drewN (w : World) (b n : Nat) : rowOf (w.drewN n) b = rowOf w b := (show rowOf (w.drewN n) b = rowOf w b from rfl).trans rfl
theorem rowOf_keep {w w' : World} {B : Nat} (h : Below B w w') {b : Nat} (hb : b < B) : rowOf w' b = rowOf w b := by unfold rowOf; rw [h.block b hb]
@[go_sem] theorem size_encIn (m : Nat → Bool) : (encIn m).size = 16 := encIn_size m
@[go_sem] theorem rowOf_setRow (w : World) (b : Nat) (c : Array Value) (h : rowOf w b ≠ #[]) : rowOf (w.setRow b c) b = c := by
  unfold rowOf at h
  split at h
  · rename_i c0 t hc; exact rowOf_of (setRow_heap w b c0 c t _ hc)
  · exact absurd rfl h
theorem rowOf_setRow_other (w : World) (b b' : Nat) (c : Array Value) (h : b' ≠ b) : rowOf (w.setRow b c) b' = rowOf w b' := by
  unfold rowOf; rw [setRow_other w b b' c h]
theorem InBlk.range {w : World} {b : Nat} {m : Nat → Bool} (h : InBlk w b m) : w.rangeAt b 0 (encL m) := fun j v hv => by
  have hj : j < 16 := by have := (List.getElem?_eq_some_iff.1 hv).1; rwa [encL_length] at this
  rw [Nat.zero_add, h.cell hj]
  simpa [encL, hj] using hv
theorem InBlk.row_eq {w : World} {b : Nat} {m : Nat → Bool} (h : InBlk w b m) : rowOf w b = encIn m := by obtain ⟨t, h⟩ := h; exact rowOf_of h
theorem InBlk.of_row {w : World} {b : Nat} {m : Nat → Bool} (h : rowOf w b = encIn m) : InBlk w b m := by
  obtain ⟨t, ht⟩ := rowOf_inv (n := 15) (by rw [h, encIn_size])
  exact ⟨t, by rw [ht, h]⟩
/-- A whole array (of n + 1 cells) out of a block. -/
theorem run_loadAt_row {P : Program} {ty : TypeId} {n k : Nat} {e : TypeId} (hu : P.underlying ty = some (.array k e)) (hi : (P.info? ty).map (·.size) = some (n + 1)) (p : Value) (w : World)
    (hp : ptr0 p = true) (hs : (rowOf w (blkOf p)).size = n + 1) : Sem.run P (Instr.loadAt ty p) w = .ok (.agg (rowOf w (blkOf p))) w := by
  unfold ptr0 at hp
  split at hp
  · obtain ⟨t, ht⟩ := rowOf_inv hs
    rw [blkOf_mk] at ht hs ⊢
    simp only [Instr.loadAt, Instr.sureAddr, Sem.run_bind, Sem.run_pure, Result.andThen_ok]
    rw [run_loadVar_row w _ t ty _ (0, 0) _ ht hu rfl (by rw [hs]; exact hi)]
  · cases hp
def isAgg (n : Nat) : Value → Bool | .agg cs => cs.size == n && cs.all (·.oneCell') | _ => false
theorem run_storeAt_row {P : Program} {ty : TypeId} {n : Nat} (hi : (P.info? ty).map (·.size) = some (n + 1)) (p v : Value) (w : World)
    (hp : ptr0 p = true) (hs : (rowOf w (blkOf p)).size = n + 1) (hv : isAgg (n + 1) v = true) : Sem.run P (Instr.storeAt ty p v) w = .ok () (w.setRow (blkOf p) v.cells) := by
  unfold ptr0 at hp
  split at hp
  · obtain ⟨t, ht⟩ := rowOf_inv hs
    rw [blkOf_mk] at ht hs ⊢
    cases v with
    | agg cs =>
      simp only [isAgg, Bool.and_eq_true, beq_iff_eq] at hv
      simp only [Instr.storeAt, Instr.sureAddr, Sem.run_bind, Sem.run_pure, Result.andThen_ok]
      exact run_storeVar_row w _ t ty _ cs ht (by rw [hv.1]; exact hi) (by rw [hs, hv.1]) hv.2
    | _ => simp [isAgg] at hv
  · cases hp
@[simp] theorem isAgg_encIn (m : Nat → Bool) : isAgg 16 (.agg (encIn m)) = true := by
  show ((encIn m).size == 16 && (encIn m).all (·.oneCell')) = true
  rw [encIn_one, encIn_size]; rfl

/-! ### The last limb of a conjunction; 'Below' handed on over a call -/
theorem last2 {A1 D : Prop} (h : A1 ∧ D) : D := h.2
theorem keep2 {A1 : Prop} {W0 W w' : World} (h : A1 ∧ Below W0.heap.size W0 W) (hb : Below W.heap.size W w') : Below W0.heap.size W0 w' := h.2.trans (hb.mono h.2.size)
theorem last3 {A1 A2 D : Prop} (h : A1 ∧ A2 ∧ D) : D := h.2.2
theorem keep3 {A1 A2 : Prop} {W0 W w' : World} (h : A1 ∧ A2 ∧ Below W0.heap.size W0 W) (hb : Below W.heap.size W w') : Below W0.heap.size W0 w' := h.2.2.trans (hb.mono h.2.2.size)
theorem last4 {A1 A2 A3 D : Prop} (h : A1 ∧ A2 ∧ A3 ∧ D) : D := h.2.2.2
theorem keep4 {A1 A2 A3 : Prop} {W0 W w' : World} (h : A1 ∧ A2 ∧ A3 ∧ Below W0.heap.size W0 W) (hb : Below W.heap.size W w') : Below W0.heap.size W0 w' := h.2.2.2.trans (hb.mono h.2.2.2.size)
theorem last5 {A1 A2 A3 A4 D : Prop} (h : A1 ∧ A2 ∧ A3 ∧ A4 ∧ D) : D := h.2.2.2.2
theorem keep5 {A1 A2 A3 A4 : Prop} {W0 W w' : World} (h : A1 ∧ A2 ∧ A3 ∧ A4 ∧ Below W0.heap.size W0 W) (hb : Below W.heap.size W w') : Below W0.heap.size W0 w' := h.2.2.2.2.trans (hb.mono h.2.2.2.2.size)
theorem last6 {A1 A2 A3 A4 A5 D : Prop} (h : A1 ∧ A2 ∧ A3 ∧ A4 ∧ A5 ∧ D) : D := h.2.2.2.2.2
theorem keep6 {A1 A2 A3 A4 A5 : Prop} {W0 W w' : World} (h : A1 ∧ A2 ∧ A3 ∧ A4 ∧ A5 ∧ Below W0.heap.size W0 W) (hb : Below W.heap.size W w') : Below W0.heap.size W0 w' := h.2.2.2.2.2.trans (hb.mono h.2.2.2.2.2.size)
theorem last7 {A1 A2 A3 A4 A5 A6 D : Prop} (h : A1 ∧ A2 ∧ A3 ∧ A4 ∧ A5 ∧ A6 ∧ D) : D := h.2.2.2.2.2.2
theorem keep7 {A1 A2 A3 A4 A5 A6 : Prop} {W0 W w' : World} (h : A1 ∧ A2 ∧ A3 ∧ A4 ∧ A5 ∧ A6 ∧ Below W0.heap.size W0 W) (hb : Below W.heap.size W w') : Below W0.heap.size W0 w' := h.2.2.2.2.2.2.trans (hb.mono h.2.2.2.2.2.2.size)
theorem last8 {A1 A2 A3 A4 A5 A6 A7 D : Prop} (h : A1 ∧ A2 ∧ A3 ∧ A4 ∧ A5 ∧ A6 ∧ A7 ∧ D) : D := h.2.2.2.2.2.2.2
theorem keep8 {A1 A2 A3 A4 A5 A6 A7 : Prop} {W0 W w' : World} (h : A1 ∧ A2 ∧ A3 ∧ A4 ∧ A5 ∧ A6 ∧ A7 ∧ Below W0.heap.size W0 W) (hb : Below W.heap.size W w') : Below W0.heap.size W0 w' := h.2.2.2.2.2.2.2.trans (hb.mono h.2.2.2.2.2.2.2.size)
theorem last9 {A1 A2 A3 A4 A5 A6 A7 A8 D : Prop} (h : A1 ∧ A2 ∧ A3 ∧ A4 ∧ A5 ∧ A6 ∧ A7 ∧ A8 ∧ D) : D := h.2.2.2.2.2.2.2.2
theorem keep9 {A1 A2 A3 A4 A5 A6 A7 A8 : Prop} {W0 W w' : World} (h : A1 ∧ A2 ∧ A3 ∧ A4 ∧ A5 ∧ A6 ∧ A7 ∧ A8 ∧ Below W0.heap.size W0 W) (hb : Below W.heap.size W w') : Below W0.heap.size W0 w' := h.2.2.2.2.2.2.2.2.trans (hb.mono h.2.2.2.2.2.2.2.2.size)
theorem last10 {A1 A2 A3 A4 A5 A6 A7 A8 A9 D : Prop} (h : A1 ∧ A2 ∧ A3 ∧ A4 ∧ A5 ∧ A6 ∧ A7 ∧ A8 ∧ A9 ∧ D) : D := h.2.2.2.2.2.2.2.2.2
theorem keep10 {A1 A2 A3 A4 A5 A6 A7 A8 A9 : Prop} {W0 W w' : World} (h : A1 ∧ A2 ∧ A3 ∧ A4 ∧ A5 ∧ A6 ∧ A7 ∧ A8 ∧ A9 ∧ Below W0.heap.size W0 W) (hb : Below W.heap.size W w') : Below W0.heap.size W0 w' := h.2.2.2.2.2.2.2.2.2.trans (hb.mono h.2.2.2.2.2.2.2.2.2.size)
theorem last11 {A1 A2 A3 A4 A5 A6 A7 A8 A9 A10 D : Prop} (h : A1 ∧ A2 ∧ A3 ∧ A4 ∧ A5 ∧ A6 ∧ A7 ∧ A8 ∧ A9 ∧ A10 ∧ D) : D := h.2.2.2.2.2.2.2.2.2.2
theorem keep11 {A1 A2 A3 A4 A5 A6 A7 A8 A9 A10 : Prop} {W0 W w' : World} (h : A1 ∧ A2 ∧ A3 ∧ A4 ∧ A5 ∧ A6 ∧ A7 ∧ A8 ∧ A9 ∧ A10 ∧ Below W0.heap.size W0 W) (hb : Below W.heap.size W w') : Below W0.heap.size W0 w' := h.2.2.2.2.2.2.2.2.2.2.trans (hb.mono h.2.2.2.2.2.2.2.2.2.2.size)
theorem last12 {A1 A2 A3 A4 A5 A6 A7 A8 A9 A10 A11 D : Prop} (h : A1 ∧ A2 ∧ A3 ∧ A4 ∧ A5 ∧ A6 ∧ A7 ∧ A8 ∧ A9 ∧ A10 ∧ A11 ∧ D) : D := h.2.2.2.2.2.2.2.2.2.2.2
theorem keep12 {A1 A2 A3 A4 A5 A6 A7 A8 A9 A10 A11 : Prop} {W0 W w' : World} (h : A1 ∧ A2 ∧ A3 ∧ A4 ∧ A5 ∧ A6 ∧ A7 ∧ A8 ∧ A9 ∧ A10 ∧ A11 ∧ Below W0.heap.size W0 W) (hb : Below W.heap.size W w') : Below W0.heap.size W0 w' := h.2.2.2.2.2.2.2.2.2.2.2.trans (hb.mono h.2.2.2.2.2.2.2.2.2.2.2.size)

end Go.Proofs.Ytbbolibkheelmaa
namespace Go.Proofs.Ytbbolibkheelmaa
open Go.RowKit

set_option maxHeartbeats 400000 in
theorem within_any (n lo hi : Int) (w : World) :
    Calls Try.prog 100 #[.int .i64 n, .int .i64 lo, .int .i64 hi] w fun e w' => e = .returned (.bool (withinB n lo hi)) ∧ w = w' := by
  go_enter Try.func100, Try.ntmps100
  go_wp2
  all_goals
    go_ret
    refine ⟨ret_bool ?_, rfl⟩
    unfold withinB
    simp; omega

theorem within_yes {n lo hi : Int} (h1 : lo ≤ n) (h2 : n ≤ hi) (w : World) :
    Calls Try.prog 100 #[.int .i64 n, .int .i64 lo, .int .i64 hi] w fun e w' => e = .returned (.bool true) ∧ w = w' :=
  (within_any n lo hi w).mono fun _ _ ⟨he, hw⟩ => ⟨by rw [he]; exact ret_bool (by simp [withinB, h1, h2]), hw⟩
theorem within_no {n lo hi : Int} (h : n < lo ∨ hi < n) (w : World) :
    Calls Try.prog 100 #[.int .i64 n, .int .i64 lo, .int .i64 hi] w fun e w' => e = .returned (.bool false) ∧ w = w' :=
  (within_any n lo hi w).mono fun _ _ ⟨he, hw⟩ => ⟨by rw [he]; exact ret_bool (by simp [withinB]; omega), hw⟩

set_option maxHeartbeats 400000 in
theorem increasing_any {B : Nat} {a : Option Addr} {xs : List Int} {n c : Nat} {w : World} (hx : IntsAt B w a n xs) :
    Calls Try.prog 71 #[.slice a n c] w fun e w' => e = .returned (.bool (incB xs)) ∧ Quiet w w' := by
  have hx' := Lib.hid hx
  clear hx
  have hL : n ≤ 140737488355328 := hx'.out.small
  go_enter Try.func71, Try.ntmps71
  go_wp2
  go_loopw [3] (fun i wr => ∃ k : Nat, 1 ≤ k ∧ (k ≤ n ∨ k = 1) ∧ i = .int .i64 k ∧ Hid (allB (k - 1) (fun i => decide (gi xs i < gi xs (i + 1))) = true) ∧ Quiet w wr) (fun i _ => n - (intOf i).toNat)
  case atStart => exact ⟨1, by omega, by omega, rfl, rfl, Quiet.refl _⟩
  case round =>
    obtain ⟨k, hk1, hk, rfl, hall, hq⟩ := hrel
    obtain ⟨q, rfl⟩ := hq
    have hq : Quiet w (w.drewN q) := ⟨q, rfl⟩
    by_cases hlt : k < n
    · obtain ⟨b, o, rfl, hb, hc⟩ := hx'.out.get _ hlt
      have hc1 := (hc k hlt).1
      have hc2 := (hc (k - 1) (by omega)).1
      clear hc
      go_wp2
      go_quiet (fail)
      go_wp2
      · have h1 : gi xs k ≤ gi xs (k - 1) := by assumption
        go_ret
        refine ⟨ret_bool ?_, by first | exact hq | exact hq.drewN _⟩
        unfold incB
        rw [allB_false (i := k - 1) (by have := hx'.out.len; omega) (by rw [show k - 1 + 1 = k by omega]; simp; omega)]
      · have h1 : gi xs (k - 1) < gi xs k := by assumption
        go_roundw
        case rel => exact ⟨k + 1, by omega, by omega, by go_num, by rw [show k + 1 - 1 = (k - 1) + 1 by omega]; exact allB_succ hall.out (by rw [show k - 1 + 1 = k by omega]; simp [h1]), ⟨_, rfl⟩⟩
        case measure => simp [intOf]; omega
    · go_wp2
      go_ret
      refine ⟨ret_bool ?_, by first | exact hq | exact hq.drewN _⟩
      unfold incB
      rcases hk with hk | hk
      · obtain rfl : k = n := by omega
        have hl := hx'.out.len
        rw [hl, hall.out]
      · have hl := hx'.out.len
        rw [hl, show n - 1 = 0 by omega]; rfl

theorem cell_alloc_lt {w : World} {b o : Nat} (O : Obj) (h : b < w.heap.size) : (w.alloc O).cell? ⟨b, o, none⟩ = w.cell? ⟨b, o, none⟩ := World.cell?_alloc_lt w O _ h

set_option maxHeartbeats 400000 in
theorem validWood_any {B : Nat} {v : Value} {x : Wood} {w : World} (hB : B ≤ w.heap.size) (hk : KnotsV B w v x) (hl : I64 x.long) :
    Calls Try.prog 101 #[.agg #[.int .i64 x.long, v]] w fun e w' => e = .returned (.bool (woodOk x)) ∧ Below w.heap.size w w' := by
  obtain ⟨a, n, c, rfl, hs⟩ := hk
  have hs' := Lib.hid hs
  have hL := hs.small
  have hlen := Lib.hid hs.len
  clear hs
  unfold I64 at hl
  by_cases h1 : 1 ≤ x.long ∧ x.long ≤ 16
  case neg =>
    go_enter Try.func101, Try.ntmps101
    go_wp2_with (go_at_call 100; refine (within_no (by omega) _).mono ?_; rintro e w' ⟨rfl, rfl⟩)
    go_ret
    exact ⟨ret_bool (by unfold woodOk withinB; simp; omega), (Below.refl _ _).alloc (Nat.le_refl _) _⟩
  obtain ⟨h1, h1'⟩ := h1
  by_cases h2 : n ≤ 3
  case neg =>
    go_enter Try.func101, Try.ntmps101
    go_wp2_with (go_at_call 100; refine (within_yes (by omega) (by omega) _).mono ?_; rintro e w' ⟨rfl, rfl⟩)
    go_ret
    exact ⟨ret_bool (by unfold woodOk; rw [hlen.out]; simp; omega), (Below.refl _ _).alloc (Nat.le_refl _) _⟩
  go_enter Try.func101, Try.ntmps101
  go_wp2_with (go_at_call 100; refine (within_yes (by omega) (by omega) _).mono ?_; rintro e w' ⟨rfl, rfl⟩)
  go_loopw [18] (fun i wr => ∃ k : Nat, k ≤ n ∧ i = .int .i64 k ∧ Hid (allB k (fun i => spanOk x.long (gp x.knots i)) = true) ∧
    Below (w.heap.size + 1) (w.alloc (.cells #[.int .i64 x.long, .slice a n c] 48)) wr) (fun i _ => n - (intOf i).toNat)
  case atStart => exact ⟨0, by omega, rfl, rfl, Below.refl _ _⟩
  case round =>
    obtain ⟨k, hk, rfl, hall, hb⟩ := hrel
    have hbox : wr.cell? ⟨w.heap.size, 0, none⟩ = some (.int .i64 x.long) := by rw [bcells hb _ _ (by omega)]; simp
    have hsz : w.heap.size < wr.heap.size := by have := hb.size; rw [World.size_alloc] at this; omega
    by_cases hlt : k < n
    · obtain ⟨b, o, rfl, hbB, hc⟩ := hs'.out.get _ hlt
      obtain ⟨hc1, hc2, hi1, hi2⟩ := hc k hlt
      clear hc
      rw [← cell_alloc_lt (.cells #[.int .i64 x.long, .slice (some ⟨b, o, none⟩) n c] 48) (by omega), ← bcells hb _ _ (by omega)] at hc1 hc2
      unfold I64 at hi1 hi2
      by_cases c1 : 0 ≤ (gp x.knots k).1 ∧ (gp x.knots k).1 ≤ x.long - 1
      case neg =>
        go_wp2_with (go_at_call 100; refine (within_no (by omega) _).mono ?_; rintro e w' ⟨rfl, rfl⟩)
        go_ret
        exact ⟨ret_bool (woodOk_bad (k := k) (by rw [hlen.out]; exact hlt) (by unfold spanOk withinB; simp; omega)).symm, (((Below.refl _ _).alloc (Nat.le_refl _) _).trans (hb.mono (by omega))).alloc (by omega) _⟩
      obtain ⟨c1, c1'⟩ := c1
      by_cases c2 : (gp x.knots k).1 ≤ (gp x.knots k).2 ∧ (gp x.knots k).2 ≤ x.long - 1
      case neg =>
        go_wp2_with (first | (go_at_call 100; refine (within_yes (by omega) (by omega) _).mono ?_; rintro e w' ⟨rfl, rfl⟩) | (go_at_call 100; refine (within_no (by omega) _).mono ?_; rintro e w' ⟨rfl, rfl⟩))
        go_ret
        exact ⟨ret_bool (woodOk_bad (k := k) (by rw [hlen.out]; exact hlt) (by unfold spanOk withinB; simp; omega)).symm, (((Below.refl _ _).alloc (Nat.le_refl _) _).trans (hb.mono (by omega))).alloc (by omega) _⟩
      obtain ⟨c2, c2'⟩ := c2
      go_wp2_with (go_at_call 100; refine (within_yes (by omega) (by omega) _).mono ?_; rintro e w' ⟨rfl, rfl⟩)
      · have h6 : 6 < (gp x.knots k).2 - (gp x.knots k).1 := by assumption
        go_ret
        exact ⟨ret_bool (woodOk_bad (k := k) (by rw [hlen.out]; exact hlt) (by unfold spanOk withinB; simp; omega)).symm, (((Below.refl _ _).alloc (Nat.le_refl _) _).trans (hb.mono (by omega))).alloc (by omega) _⟩
      · have h6 : (gp x.knots k).2 - (gp x.knots k).1 ≤ 6 := by assumption
        go_roundw
        case rel => exact ⟨k + 1, by omega, by go_num, allB_succ hall.out (by unfold spanOk withinB; simp; omega), hb.alloc (by omega) _⟩
        case measure => simp [intOf]; omega
    · go_wp2
      go_ret
      obtain rfl : k = n := by omega
      have hl := hlen.out
      exact ⟨ret_bool (woodOk_good h1 h1' (by omega) (by rw [hl]; exact hall.out)).symm, ((Below.refl _ _).alloc (Nat.le_refl _) _).trans (hb.mono (by omega))⟩

set_option maxHeartbeats 400000 in
theorem validShape_any {B : Nat} {v : Value} {x : Shape} {w : World} (hB : B ≤ w.heap.size) (hk : JointsV B w v x) (hl : I64 x.long) :
    Calls Try.prog 102 #[.agg #[.int .i64 x.long, v, .bool x.turns]] w fun e w' => e = .returned (.bool (shapeOk x)) ∧ Below w.heap.size w w' := by
  obtain ⟨a, n, c, rfl, hs⟩ := hk
  have hs' := Lib.hid hs
  have hL := hs.small
  have hlen := Lib.hid hs.len
  clear hs
  unfold I64 at hl
  by_cases h1 : 1 ≤ x.long ∧ x.long ≤ 12
  case neg =>
    go_enter Try.func102, Try.ntmps102
    go_wp2_with (go_at_call 100; refine (within_no (by omega) _).mono ?_; rintro e w' ⟨rfl, rfl⟩)
    go_ret
    exact ⟨ret_bool (by unfold shapeOk withinB; simp; omega), (Below.refl _ _).alloc (Nat.le_refl _) _⟩
  obtain ⟨h1, h1'⟩ := h1
  by_cases h2 : n ≤ 3
  case neg =>
    go_enter Try.func102, Try.ntmps102
    go_wp2_with (go_at_call 100; refine (within_yes (by omega) (by omega) _).mono ?_; rintro e w' ⟨rfl, rfl⟩)
    go_ret
    exact ⟨ret_bool (by unfold shapeOk; rw [hlen.out]; simp; omega), (Below.refl _ _).alloc (Nat.le_refl _) _⟩
  go_enter Try.func102, Try.ntmps102
  go_wp2_with (go_at_call 100; refine (within_yes (by omega) (by omega) _).mono ?_; rintro e w' ⟨rfl, rfl⟩)
  go_loop [18] (fun i => ∃ k : Nat, k ≤ n ∧ i = .int .i64 k ∧ Hid (allB k (fun i => withinB (gi x.joints i) 0 (x.long - 1)) = true)) (fun i => n - (intOf i).toNat)
  case atStart => exact ⟨0, by omega, rfl, rfl⟩
  case round =>
    obtain ⟨k, hk, rfl, hall⟩ := hrel
    by_cases hlt : k < n
    · obtain ⟨b, o, rfl, hbB, hc⟩ := hs'.out.get _ hlt
      obtain ⟨hc1, hi1⟩ := hc k hlt
      clear hc
      have hbs : b < w.heap.size := by omega
      unfold I64 at hi1
      by_cases c1 : 0 ≤ gi x.joints k ∧ gi x.joints k ≤ x.long - 1
      case neg =>
        go_wp2_with (go_at_call 100; refine (within_no (by omega) _).mono ?_; rintro e w' ⟨rfl, rfl⟩)
        go_ret
        exact ⟨ret_bool (shapeOk_bad (k := k) (by rw [hlen.out]; exact hlt) (by unfold withinB; simp; omega)).symm, (Below.refl _ _).alloc (Nat.le_refl _) _⟩
      obtain ⟨c1, c1'⟩ := c1
      go_wp2_with (go_at_call 100; refine (within_yes (by omega) (by omega) _).mono ?_; rintro e w' ⟨rfl, rfl⟩)
      go_round
      case rel => exact ⟨k + 1, by omega, by go_num, allB_succ hall.out (by unfold withinB; simp; omega)⟩
      case measure => simp [intOf]; omega
    · have hin := hs'.out.keep (w' := w.alloc (.cells #[.int .i64 x.long, .slice a n c, .bool x.turns] 50)) (Nat.le_refl _) (fun b o hb => cell_alloc_lt _ (by omega))
      go_wp2_with (go_at_call 71; refine (increasing_any hin).mono ?_; rintro e w' ⟨rfl, q, rfl⟩)
      go_ret
      obtain rfl : k = n := by omega
      have hl := hlen.out
      exact ⟨ret_bool (shapeOk_good h1 h1' (by omega) (by rw [hl]; exact hall.out)).symm, below_drewN ((Below.refl _ _).alloc (Nat.le_refl _) _) _⟩

end Go.Proofs.Ytbbolibkheelmaa
