/- Plain mathematics: no program. Small words that the walks and the laws share. What memory holds: slices of ints, of spans, of planks and parts; that these still stand in a later world. The given book, opened: from its reading to the readings that the contracts ask. -/
import Derived.WalkKit
import Derived.WalkSpells
import Derived.WalkLawsBesides
import Derived.Lib.Hide
import Derived.Laws.Rows
import Derived.Laws.Tables
import Derived.Deep.Draws
import Derived.Deep.MidRow
import Derived.Test.YtilbkmogmlcpaaaRows
import Derived.ProofKit
import Derived.OpenShut
import Derived.ChangeOld
import Derived.Below
import Derived.SizedLaws
import Derived.Deep.Slices
import Derived.Deep.Fields
import Derived.ChangeSame
import Derived.Lib.SmallJoins
namespace Go.Proofs.Ytilbkmogmlcpaaa

/-- 'for all i < n'. -/
def allB : Nat → (Nat → Bool) → Bool
  | 0, _ => true
  | n + 1, p => allB n p && p n

theorem allB_iff {n : Nat} {p : Nat → Bool} : allB n p = true ↔ ∀ i, i < n → p i = true := by
  induction n with
  | zero => simp [allB]
  | succ n ih =>
    simp only [allB, Bool.and_eq_true, ih]
    constructor
    · rintro ⟨h, h'⟩ i hi
      rcases Nat.lt_succ_iff_lt_or_eq.1 hi with h1 | rfl
      · exact h i h1
      · exact h'
    · exact fun h => ⟨fun i hi => h i (by omega), h n (by omega)⟩

theorem allB_false {n : Nat} {p : Nat → Bool} {i : Nat} (hi : i < n) (h : p i = false) : allB n p = false := by
  cases hb : allB n p with
  | false => rfl
  | true => rw [allB_iff.1 hb i hi] at h; cases h

theorem allB_succ {n : Nat} {p : Nat → Bool} (h : allB n p = true) (h' : p n = true) : allB (n + 1) p = true := by
  simp [allB, h, h']

theorem allB_congr {n : Nat} {p q : Nat → Bool} (h : ∀ i, i < n → p i = q i) : allB n p = allB n q := by
  induction n with
  | zero => rfl
  | succ n ih => simp only [allB]; rw [ih (fun i hi => h i (by omega)), h n (by omega)]

/-- 'for some i < n'. -/
def anyB : Nat → (Nat → Bool) → Bool
  | 0, _ => false
  | n + 1, p => anyB n p || p n

theorem anyB_iff {n : Nat} {p : Nat → Bool} : anyB n p = true ↔ ∃ i, i < n ∧ p i = true := by
  induction n with
  | zero => simp [anyB]
  | succ n ih =>
    simp only [anyB, Bool.or_eq_true, ih]
    constructor
    · rintro (⟨i, hi, h⟩ | h)
      · exact ⟨i, by omega, h⟩
      · exact ⟨n, by omega, h⟩
    · rintro ⟨i, hi, h⟩
      rcases Nat.lt_succ_iff_lt_or_eq.1 hi with h1 | rfl
      · exact .inl ⟨i, h1, h⟩
      · exact .inr h

theorem anyB_congr {n : Nat} {p q : Nat → Bool} (h : ∀ i, i < n → p i = q i) : anyB n p = anyB n q := by
  induction n with
  | zero => rfl
  | succ n ih => simp only [anyB]; rw [ih (fun i hi => h i (by omega)), h n (by omega)]

/-- An element of a list of ints (0 behind its end). -/
def gi (xs : List Int) (i : Nat) : Int := xs.getD i 0
def gp (xs : List (Int × Int)) (i : Nat) : Int × Int := xs.getD i (0, 0)

def withinB (n lo hi : Int) : Bool := decide (lo ≤ n) && decide (n ≤ hi)
def incB (xs : List Int) : Bool := allB (xs.length - 1) fun i => decide (gi xs i < gi xs (i + 1))

/-- A plank, a part, a book. -/
structure Wood where
  long : Int
  knots : List (Int × Int)
  deriving DecidableEq
structure Shape where
  long : Int
  joints : List Int
  turns : Bool
  deriving DecidableEq
structure Book where
  planks : List Wood
  parts : List Shape
  deriving DecidableEq

def gw (xs : List Wood) (i : Nat) : Wood := xs.getD i ⟨0, []⟩
def gs (xs : List Shape) (i : Nat) : Shape := xs.getD i ⟨0, [], false⟩

def spanOk (long : Int) (k : Int × Int) : Bool := withinB k.1 0 (long - 1) && withinB k.2 k.1 (long - 1) && !decide (6 < k.2 - k.1)
def woodOk (x : Wood) : Bool := withinB x.long 1 16 && decide (x.knots.length ≤ 3) && allB x.knots.length fun i => spanOk x.long (gp x.knots i)
def shapeOk (x : Shape) : Bool := withinB x.long 1 12 && decide (x.joints.length ≤ 3) && (allB x.joints.length fun i => withinB (gi x.joints i) 0 (x.long - 1)) && incB x.joints
def bookOk (b : Book) : Bool :=
  decide (1 ≤ b.planks.length) && decide (b.planks.length ≤ 3) && (decide (1 ≤ b.parts.length) && decide (b.parts.length ≤ 5)) &&
    (allB b.planks.length fun i => woodOk (gw b.planks i)) && allB b.parts.length fun i => shapeOk (gs b.parts i)

theorem woodOk_bad {x : Wood} {k : Nat} (hk : k < x.knots.length) (h : spanOk x.long (gp x.knots k) = false) : woodOk x = false := by
  unfold woodOk; rw [allB_false hk h]; simp
theorem woodOk_good {x : Wood} (h1 : 1 ≤ x.long) (h2 : x.long ≤ 16) (h3 : x.knots.length ≤ 3) (h : allB x.knots.length (fun i => spanOk x.long (gp x.knots i)) = true) : woodOk x = true := by
  unfold woodOk withinB; rw [h]; simp [h1, h2, h3]
theorem shapeOk_bad {x : Shape} {k : Nat} (hk : k < x.joints.length) (h : withinB (gi x.joints k) 0 (x.long - 1) = false) : shapeOk x = false := by
  unfold shapeOk; rw [allB_false hk h]; simp
theorem shapeOk_good {x : Shape} (h1 : 1 ≤ x.long) (h2 : x.long ≤ 12) (h3 : x.joints.length ≤ 3) (h : allB x.joints.length (fun i => withinB (gi x.joints i) 0 (x.long - 1)) = true) : shapeOk x = incB x.joints := by
  unfold shapeOk withinB; unfold withinB at h; rw [h]; simp [h1, h2, h3]
theorem bookOk_bad1 {b : Book} {k : Nat} (hk : k < b.planks.length) (h : woodOk (gw b.planks k) = false) : bookOk b = false := by
  unfold bookOk; rw [allB_false hk h]; simp
theorem bookOk_bad2 {b : Book} {k : Nat} (hk : k < b.parts.length) (h : shapeOk (gs b.parts k) = false) : bookOk b = false := by
  unfold bookOk; rw [allB_false hk h]; simp
theorem bookOk_good {b : Book} (h1 : 1 ≤ b.planks.length) (h2 : b.planks.length ≤ 3) (h3 : 1 ≤ b.parts.length) (h4 : b.parts.length ≤ 5)
    (h : allB b.planks.length (fun i => woodOk (gw b.planks i)) = true) (h' : allB b.parts.length (fun i => shapeOk (gs b.parts i)) = true) : bookOk b = true := by
  unfold bookOk; rw [h, h']; simp [h1, h2, h3, h4]

end Go.Proofs.Ytilbkmogmlcpaaa
namespace Go.Proofs.Ytilbkmogmlcpaaa
open Go.RowKit

def I64 (x : Int) : Prop := -9223372036854775808 ≤ x ∧ x ≤ 9223372036854775807

/-- The slice at a, of length n, in blocks below B, reads as the ints xs. -/
structure IntsAt (B : Nat) (w : World) (a : Option Addr) (n : Nat) (xs : List Int) : Prop where
  len : xs.length = n
  small : n ≤ 140737488355328
  get : ∀ i, i < n → ∃ b o, a = some ⟨b, o, none⟩ ∧ b < B ∧ ∀ i, i < n → w.cell? ⟨b, o + i, none⟩ = some (.int .i64 (gi xs i)) ∧ I64 (gi xs i)

structure SpansAt (B : Nat) (w : World) (a : Option Addr) (n : Nat) (xs : List (Int × Int)) : Prop where
  len : xs.length = n
  small : n ≤ 140737488355328
  get : ∀ i, i < n → ∃ b o, a = some ⟨b, o, none⟩ ∧ b < B ∧ ∀ i, i < n →
    w.cell? ⟨b, o + i * 2, none⟩ = some (.int .i64 (gp xs i).1) ∧ w.cell? ⟨b, o + i * 2 + 1, none⟩ = some (.int .i64 (gp xs i).2) ∧ I64 (gp xs i).1 ∧ I64 (gp xs i).2

/-- The second cell of a plank: its knots. -/
def KnotsV (B : Nat) (w : World) (v : Value) (x : Wood) : Prop := ∃ a n c, v = .slice a n c ∧ SpansAt B w a n x.knots
def JointsV (B : Nat) (w : World) (v : Value) (x : Shape) : Prop := ∃ a n c, v = .slice a n c ∧ IntsAt B w a n x.joints

structure WoodsAt (B : Nat) (w : World) (a : Option Addr) (n : Nat) (xs : List Wood) : Prop where
  len : xs.length = n
  small : n ≤ 140737488355328
  get : ∀ i, i < n → ∃ b o, a = some ⟨b, o, none⟩ ∧ b < B ∧ ∀ i, i < n → ∃ v, KnotsV B w v (gw xs i) ∧
    w.cell? ⟨b, o + i * 2, none⟩ = some (.int .i64 (gw xs i).long) ∧ w.cell? ⟨b, o + i * 2 + 1, none⟩ = some v ∧ I64 (gw xs i).long

structure ShapesAt (B : Nat) (w : World) (a : Option Addr) (n : Nat) (xs : List Shape) : Prop where
  len : xs.length = n
  small : n ≤ 140737488355328
  get : ∀ i, i < n → ∃ b o, a = some ⟨b, o, none⟩ ∧ b < B ∧ ∀ i, i < n → ∃ v, JointsV B w v (gs xs i) ∧
    w.cell? ⟨b, o + i * 3, none⟩ = some (.int .i64 (gs xs i).long) ∧ w.cell? ⟨b, o + i * 3 + 1, none⟩ = some v ∧ w.cell? ⟨b, o + i * 3 + 2, none⟩ = some (.bool (gs xs i).turns) ∧ I64 (gs xs i).long

/-- A book's two slices. -/
structure BookAt (B : Nat) (w : World) (pa : Option Addr) (pn : Nat) (sa : Option Addr) (sn : Nat) (b : Book) : Prop where
  planks : WoodsAt B w pa pn b.planks
  parts : ShapesAt B w sa sn b.parts

section
variable {B B' : Nat} {w w' : World} {a sa : Option Addr} {n sn : Nat}

theorem IntsAt.keep {xs : List Int} (h : IntsAt B w a n xs) (hB : B ≤ B') (hk : ∀ b o, b < B → w'.cell? ⟨b, o, none⟩ = w.cell? ⟨b, o, none⟩) : IntsAt B' w' a n xs :=
  ⟨h.len, h.small, fun i hi => let ⟨b, o, e, hb, hc⟩ := h.get i hi; ⟨b, o, e, by omega, fun j hj => ⟨(hk b _ hb).trans (hc j hj).1, (hc j hj).2⟩⟩⟩
theorem SpansAt.keep {xs : List (Int × Int)} (h : SpansAt B w a n xs) (hB : B ≤ B') (hk : ∀ b o, b < B → w'.cell? ⟨b, o, none⟩ = w.cell? ⟨b, o, none⟩) : SpansAt B' w' a n xs :=
  ⟨h.len, h.small, fun i hi => let ⟨b, o, e, hb, hc⟩ := h.get i hi; ⟨b, o, e, by omega, fun j hj => let ⟨h1, h2, h3⟩ := hc j hj; ⟨(hk b _ hb).trans h1, (hk b _ hb).trans h2, h3⟩⟩⟩
theorem KnotsV.keep {v : Value} {x : Wood} (h : KnotsV B w v x) (hB : B ≤ B') (hk : ∀ b o, b < B → w'.cell? ⟨b, o, none⟩ = w.cell? ⟨b, o, none⟩) : KnotsV B' w' v x :=
  let ⟨a, n, c, e, h⟩ := h; ⟨a, n, c, e, h.keep hB hk⟩
theorem JointsV.keep {v : Value} {x : Shape} (h : JointsV B w v x) (hB : B ≤ B') (hk : ∀ b o, b < B → w'.cell? ⟨b, o, none⟩ = w.cell? ⟨b, o, none⟩) : JointsV B' w' v x :=
  let ⟨a, n, c, e, h⟩ := h; ⟨a, n, c, e, h.keep hB hk⟩
theorem WoodsAt.keep {xs : List Wood} (h : WoodsAt B w a n xs) (hB : B ≤ B') (hk : ∀ b o, b < B → w'.cell? ⟨b, o, none⟩ = w.cell? ⟨b, o, none⟩) : WoodsAt B' w' a n xs :=
  ⟨h.len, h.small, fun i hi => let ⟨b, o, e, hb, hc⟩ := h.get i hi; ⟨b, o, e, by omega, fun j hj => let ⟨v, hv, h1, h2, h3⟩ := hc j hj; ⟨v, hv.keep hB hk, (hk b _ hb).trans h1, (hk b _ hb).trans h2, h3⟩⟩⟩
theorem ShapesAt.keep {xs : List Shape} (h : ShapesAt B w a n xs) (hB : B ≤ B') (hk : ∀ b o, b < B → w'.cell? ⟨b, o, none⟩ = w.cell? ⟨b, o, none⟩) : ShapesAt B' w' a n xs :=
  ⟨h.len, h.small, fun i hi => let ⟨b, o, e, hb, hc⟩ := h.get i hi; ⟨b, o, e, by omega, fun j hj => let ⟨v, hv, h1, h2, h3, h4⟩ := hc j hj; ⟨v, hv.keep hB hk, (hk b _ hb).trans h1, (hk b _ hb).trans h2, (hk b _ hb).trans h3, h4⟩⟩⟩
theorem BookAt.keep {b : Book} (h : BookAt B w a n sa sn b) (hB : B ≤ B') (hk : ∀ b o, b < B → w'.cell? ⟨b, o, none⟩ = w.cell? ⟨b, o, none⟩) : BookAt B' w' a n sa sn b :=
  ⟨h.planks.keep hB hk, h.parts.keep hB hk⟩
end

/-- Cells and marks of old blocks, out of 'Below'. -/
theorem bcells {B : Nat} {w w' : World} (h : Below B w w') : ∀ b o, b < B → w'.cell? ⟨b, o, none⟩ = w.cell? ⟨b, o, none⟩ := fun b o hb => h.cell (p := ⟨b, o, none⟩) hb
theorem bfroz {B : Nat} {w w' : World} (h : Below B w w') : ∀ b o, b < B → w'.frozen? ⟨b, o, none⟩ = w.frozen? ⟨b, o, none⟩ := fun b o hb => h.frozen (p := ⟨b, o, none⟩) hb

theorem ret_bool {a b : Bool} (h : a = b) : Ending.returned (.bool a) = .returned (.bool b) := by rw [h]
theorem ret_int {k : IntKind} {a b : Int} (h : a = b) : Ending.returned (.int k a) = .returned (.int k b) := by rw [h]
theorem below_drewN {B : Nat} {w w' : World} (h : Below B w w') (q : Nat) : Below B w (w'.drewN q) := ⟨h.os, h.tape, h.output, h.size, h.block⟩

/-- The call has only read. -/
def Quiet (w w' : World) : Prop := ∃ q, w' = w.drewN q
theorem Quiet.refl (w : World) : Quiet w w := ⟨0, rfl⟩
theorem Quiet.drewN {w w' : World} (h : Quiet w w') (q : Nat) : Quiet w (w'.drewN q) := by obtain ⟨p, rfl⟩ := h; exact ⟨p + q, World.drewN_drewN ..⟩
theorem Quiet.trans {a b c : World} (h : Quiet a b) (k : Quiet b c) : Quiet a c := by obtain ⟨p, rfl⟩ := k; exact h.drewN p
theorem Quiet.below {w w' : World} (h : Quiet w w') (B : Nat) : Below B w w' := by obtain ⟨p, rfl⟩ := h; exact below_drewN (Below.refl _ _) p

/-- An array of 16 truth values. -/
def encL (m : Nat → Bool) : List Value := (List.range 16).map fun i => Value.bool (m i)
def encIn (m : Nat → Bool) : Array Value := (encL m).toArray
theorem encL_length (m : Nat → Bool) : (encL m).length = 16 := by simp [encL]
def upd (m : Nat → Bool) (i : Nat) (v : Bool) : Nat → Bool := fun j => if j = i then v else m j
theorem encIn_size (m : Nat → Bool) : (encIn m).size = 16 := by simp [encIn, encL]
theorem encIn_get (m : Nat → Bool) {i : Nat} (h : i < 16) : (encIn m)[i]? = some (.bool (m i)) := by simp [encIn, encL, h]
theorem encIn_congr {m n : Nat → Bool} (h : ∀ i, i < 16 → m i = n i) : encIn m = encIn n := by
  unfold encIn encL
  congr 1
  exact List.map_congr_left fun i hi => by rw [h i (List.mem_range.1 hi)]
theorem encIn_set (m : Nat → Bool) {i : Nat} (h : i < 16) (v : Bool) : (encIn m).setIfInBounds i (.bool v) = encIn (upd m i v) := by
  apply Array.ext_getElem?
  intro j
  rw [Array.getElem?_setIfInBounds]
  by_cases hj : j < 16
  · rw [encIn_get (upd m i v) hj]
    by_cases e : i = j
    · subst e; simp [encIn_size, h, upd]
    · rw [if_neg e, encIn_get m hj]; simp [upd, Ne.symm e]
  · have h1 : (encIn (upd m i v))[j]? = none := by rw [Array.getElem?_eq_none]; rw [encIn_size]; omega
    have h2 : (encIn m)[j]? = none := by rw [Array.getElem?_eq_none]; rw [encIn_size]; omega
    rw [h1, h2]
    have : ¬ i = j := by omega
    simp [this]
theorem encIn_inj {m n : Nat → Bool} (h : encIn m = encIn n) : ∀ i, i < 16 → m i = n i := by
  intro i hi
  have := congrArg (fun a : Array Value => a[i]?) h
  simp only [encIn_get _ hi, Option.some.injEq, Value.bool.injEq] at this
  exact this
theorem encIn_one (m : Nat → Bool) : (encIn m).all (·.oneCell') = true := by
  simp [encIn, encL, Value.oneCell']
/-- A block that is such an array. -/
def InBlk (w : World) (b : Nat) (m : Nat → Bool) : Prop := ∃ t, w.heap[b]? = some (.cells (encIn m) t (0, 0))
theorem InBlk.cell {w : World} {b : Nat} {m : Nat → Bool} (h : InBlk w b m) {i : Nat} (hi : i < 16) : w.cell? ⟨b, i, none⟩ = some (.bool (m i)) := by
  obtain ⟨t, h⟩ := h; rw [cell_of_row w b i _ t _ h, encIn_get _ hi]
theorem InBlk.frozen {w : World} {b : Nat} {m : Nat → Bool} (h : InBlk w b m) (i : Nat) : w.frozen? ⟨b, i, none⟩ = false := by
  obtain ⟨t, h⟩ := h; exact frozen_of_row w b i _ t h
theorem InBlk.set {w : World} {b : Nat} {m : Nat → Bool} (h : InBlk w b m) {i : Nat} (hi : i < 16) (v : Bool) : InBlk (w.setCell ⟨b, i, none⟩ (.bool v)) b (upd m i v) := by
  obtain ⟨t, h⟩ := h; exact ⟨t, by rw [heap_setCell_same w b i _ t _ h, encIn_set _ hi]⟩
theorem InBlk.other {w : World} {b : Nat} {m : Nat → Bool} (h : InBlk w b m) {a : Addr} (ha : b ≠ a.block) (v : Value) : InBlk (w.setCell a v) b m := by
  obtain ⟨t, h⟩ := h; exact ⟨t, by rw [heap_setCell_other w a b v ha]; exact h⟩
theorem InBlk.lt {w : World} {b : Nat} {m : Nat → Bool} (h : InBlk w b m) : b < w.heap.size := by
  obtain ⟨t, h⟩ := h; exact lt_of_block h
theorem InBlk.alloc {w : World} {b : Nat} {m : Nat → Bool} (h : InBlk w b m) (o : Obj) : InBlk (w.alloc o) b m := by
  have hl := h.lt
  obtain ⟨t, h⟩ := h; exact ⟨t, by rw [heap_alloc_old w o hl]; exact h⟩
theorem InBlk.new (w : World) (m : Nat → Bool) (t : TypeId) : InBlk (w.alloc (.cells (encIn m) t)) w.heap.size m := ⟨t, heap_alloc_new w _⟩
theorem InBlk.keep {w w' : World} {B b : Nat} {m : Nat → Bool} (h : InBlk w b m) (hb : Below B w w') (hlt : b < B) : InBlk w' b m := by
  obtain ⟨t, h⟩ := h; exact ⟨t, by rw [hb.block b hlt]; exact h⟩
theorem InBlk.congr {w : World} {b : Nat} {m n : Nat → Bool} (h : InBlk w b m) (e : ∀ i, i < 16 → m i = n i) : InBlk w b n := by
  obtain ⟨t, h⟩ := h; exact ⟨t, by rw [← encIn_congr e]; exact h⟩
theorem below_row {B : Nat} {a w : World} (h : Below B a w) {b : Nat} (hb : B ≤ b) (cs : Array Value) : Below B a (w.setRow b cs) :=
  h.trans ⟨rfl, rfl, rfl, by simp, fun k hk => by simp only [World.setRow, Array.getElem?_modify]; rw [if_neg (by omega)]⟩

/-! ### Whole rows (arrays by value) -/
/-- The cells of a block. -/
def rowOf (w : World) (b : Nat) : Array Value := match w.heap[b]? with | some (.cells c _ (0, 0)) => c | _ => #[]
/-- A pointer to a block's head, and its block. -/
def ptr0 : Value → Bool | .pointer (some ⟨_, 0, none⟩) => true | _ => false
def blkOf : Value → Nat | .pointer (some a) => a.block | _ => 0
theorem ptr0_mk' (b : Nat) : ptr0 (.pointer (some ⟨b, 0, none⟩)) = true := rfl
@[simp] theorem ptr0_mk (b : Nat) : ptr0 (.pointer (some ⟨b, 0, none⟩)) = true := (ptr0_mk' b).trans rfl
theorem blkOf_mk' (b o : Nat) (s : Option Nat) : blkOf (.pointer (some ⟨b, o, s⟩)) = b := rfl
@[simp] theorem blkOf_mk (b o : Nat) (s : Option Nat) : blkOf (.pointer (some ⟨b, o, s⟩)) = b := (blkOf_mk' b o s).trans rfl
theorem rowOf_of {w : World} {b : Nat} {c : Array Value} {t : TypeId} (h : w.heap[b]? = some (.cells c t (0, 0))) : rowOf w b = c := by simp [rowOf, h]
theorem rowOf_inv {w : World} {b n : Nat} (h : (rowOf w b).size = n + 1) : ∃ t, w.heap[b]? = some (.cells (rowOf w b) t (0, 0)) := by
  unfold rowOf at *
  split at h
  · rename_i c t hc; exact ⟨t, by rw [hc]⟩
  · simp at h
@[go_sem] theorem rowOf_new (w : World) (c : Array Value) (t : TypeId) : rowOf (w.alloc (.cells c t)) w.heap.size = c := rowOf_of (heap_alloc_new w _)
@[go_sem] theorem rowOf_at (w : World) (c : Array Value) (t : TypeId) (b : Nat) (h : b = w.heap.size) : rowOf (w.alloc (.cells c t)) b = c := by subst h; exact rowOf_new w c t
@[go_sem] theorem rowOf_old (w : World) (o : Obj) (b : Nat) (h : b < w.heap.size) : rowOf (w.alloc o) b = rowOf w b := by unfold rowOf; rw [heap_alloc_old w o h]
@[go_sem] theorem rowOf_drew (w : World) (b : Nat) : rowOf w.drew b = rowOf w b := (show rowOf w.drew b = rowOf w b from rfl).trans rfl
@[go_sem] theorem rowOf_drewN (w : World) (b n : Nat) : rowOf (w.drewN n) b = rowOf w b := (show rowOf (w.drewN n) b = rowOf w b from rfl).trans rfl
theorem rowOf_keep {w w' : World} {B : Nat} (h : Below B w w') {b : Nat} (hb : b < B) : rowOf w' b = rowOf w b := by unfold rowOf; rw [h.block b hb]
@[go_sem] theorem size_encIn (m : Nat → Bool) : (encIn m).size = 16 := encIn_size m
@[go_sem] theorem rowOf_setRow (w : World) (b : Nat) (c : Array Value) (h : rowOf w b ≠ #[]) : rowOf (w.setRow b c) b = c := by
  unfold rowOf at h
  split at h
  · rename_i c0 t hc; exact rowOf_of (setRow_heap w b c0 c t _ hc)
  · exact absurd rfl h
theorem rowOf_setRow_other (w : World) (b b' : Nat) (c : Array Value) (h : b' ≠ b) : rowOf (w.setRow b c) b' = rowOf w b' := by
  unfold rowOf; rw [setRow_other w b b' c h]
theorem InBlk.range {w : World} {b : Nat} {m : Nat → Bool} (h : InBlk w b m) : w.rangeAt b 0 (encL m) := fun j v hv => by
  have hj : j < 16 := by have := (List.getElem?_eq_some_iff.1 hv).1; rwa [encL_length] at this
  rw [Nat.zero_add, h.cell hj]
  simpa [encL, hj] using hv
theorem InBlk.row_eq {w : World} {b : Nat} {m : Nat → Bool} (h : InBlk w b m) : rowOf w b = encIn m := by obtain ⟨t, h⟩ := h; exact rowOf_of h
theorem InBlk.of_row {w : World} {b : Nat} {m : Nat → Bool} (h : rowOf w b = encIn m) : InBlk w b m := by
  obtain ⟨t, ht⟩ := rowOf_inv (n := 15) (by rw [h, encIn_size])
  exact ⟨t, by rw [ht, h]⟩
/-- A whole array (of n + 1 cells) out of a block. -/
theorem run_loadAt_row {P : Program} {ty : TypeId} {n k : Nat} {e : TypeId} (hu : P.underlying ty = some (.array k e)) (hi : (P.info? ty).map (·.size) = some (n + 1)) (p : Value) (w : World)
    (hp : ptr0 p = true) (hs : (rowOf w (blkOf p)).size = n + 1) : Sem.run P (Instr.loadAt ty p) w = .ok (.agg (rowOf w (blkOf p))) w := by
  unfold ptr0 at hp
  split at hp
  · obtain ⟨t, ht⟩ := rowOf_inv hs
    rw [blkOf_mk] at ht hs ⊢
    simp only [Instr.loadAt, Instr.sureAddr, Sem.run_bind, Sem.run_pure, Result.andThen_ok]
    rw [run_loadVar_row w _ t ty _ (0, 0) _ ht hu rfl (by rw [hs]; exact hi)]
  · cases hp
def isAgg (n : Nat) : Value → Bool | .agg cs => cs.size == n && cs.all (·.oneCell') | _ => false
theorem run_storeAt_row {P : Program} {ty : TypeId} {n : Nat} (hi : (P.info? ty).map (·.size) = some (n + 1)) (p v : Value) (w : World)
    (hp : ptr0 p = true) (hs : (rowOf w (blkOf p)).size = n + 1) (hv : isAgg (n + 1) v = true) : Sem.run P (Instr.storeAt ty p v) w = .ok () (w.setRow (blkOf p) v.cells) := by
  unfold ptr0 at hp
  split at hp
  · obtain ⟨t, ht⟩ := rowOf_inv hs
    rw [blkOf_mk] at ht hs ⊢
    cases v with
    | agg cs =>
      simp only [isAgg, Bool.and_eq_true, beq_iff_eq] at hv
      simp only [Instr.storeAt, Instr.sureAddr, Sem.run_bind, Sem.run_pure, Result.andThen_ok]
      exact run_storeVar_row w _ t ty _ cs ht (by rw [hv.1]; exact hi) (by rw [hs, hv.1]) hv.2
    | _ => simp [isAgg] at hv
  · cases hp
@[simp] theorem isAgg_encIn (m : Nat → Bool) : isAgg 16 (.agg (encIn m)) = true := by
  show ((encIn m).size == 16 && (encIn m).all (·.oneCell')) = true
  rw [encIn_one, encIn_size]; rfl

/-! ### The last limb of a conjunction; 'Below' handed on over a call -/
theorem last2 {A1 D : Prop} (h : A1 ∧ D) : D := h.2
theorem keep2 {A1 : Prop} {W0 W w' : World} (h : A1 ∧ Below W0.heap.size W0 W) (hb : Below W.heap.size W w') : Below W0.heap.size W0 w' := h.2.trans (hb.mono h.2.size)
theorem last3 {A1 A2 D : Prop} (h : A1 ∧ A2 ∧ D) : D := h.2.2
theorem keep3 {A1 A2 : Prop} {W0 W w' : World} (h : A1 ∧ A2 ∧ Below W0.heap.size W0 W) (hb : Below W.heap.size W w') : Below W0.heap.size W0 w' := h.2.2.trans (hb.mono h.2.2.size)
theorem last4 {A1 A2 A3 D : Prop} (h : A1 ∧ A2 ∧ A3 ∧ D) : D := h.2.2.2
theorem keep4 {A1 A2 A3 : Prop} {W0 W w' : World} (h : A1 ∧ A2 ∧ A3 ∧ Below W0.heap.size W0 W) (hb : Below W.heap.size W w') : Below W0.heap.size W0 w' := h.2.2.2.trans (hb.mono h.2.2.2.size)
theorem last5 {A1 A2 A3 A4 D : Prop} (h : A1 ∧ A2 ∧ A3 ∧ A4 ∧ D) : D := h.2.2.2.2
theorem keep5 {A1 A2 A3 A4 : Prop} {W0 W w' : World} (h : A1 ∧ A2 ∧ A3 ∧ A4 ∧ Below W0.heap.size W0 W) (hb : Below W.heap.size W w') : Below W0.heap.size W0 w' := h.2.2.2.2.trans (hb.mono h.2.2.2.2.size)
theorem last6 {A1 A2 A3 A4 A5 D : Prop} (h : A1 ∧ A2 ∧ A3 ∧ A4 ∧ A5 ∧ D) : D := h.2.2.2.2.2
theorem keep6 {A1 A2 A3 A4 A5 : Prop} {W0 W w' : World} (h : A1 ∧ A2 ∧ A3 ∧ A4 ∧ A5 ∧ Below W0.heap.size W0 W) (hb : Below W.heap.size W w') : Below W0.heap.size W0 w' := h.2.2.2.2.2.trans (hb.mono h.2.2.2.2.2.size)
theorem last7 {A1 A2 A3 A4 A5 A6 D : Prop} (h : A1 ∧ A2 ∧ A3 ∧ A4 ∧ A5 ∧ A6 ∧ D) : D := h.2.2.2.2.2.2
theorem keep7 {A1 A2 A3 A4 A5 A6 : Prop} {W0 W w' : World} (h : A1 ∧ A2 ∧ A3 ∧ A4 ∧ A5 ∧ A6 ∧ Below W0.heap.size W0 W) (hb : Below W.heap.size W w') : Below W0.heap.size W0 w' := h.2.2.2.2.2.2.trans (hb.mono h.2.2.2.2.2.2.size)
theorem last8 {A1 A2 A3 A4 A5 A6 A7 D : Prop} (h : A1 ∧ A2 ∧ A3 ∧ A4 ∧ A5 ∧ A6 ∧ A7 ∧ D) : D := h.2.2.2.2.2.2.2
theorem keep8 {A1 A2 A3 A4 A5 A6 A7 : Prop} {W0 W w' : World} (h : A1 ∧ A2 ∧ A3 ∧ A4 ∧ A5 ∧ A6 ∧ A7 ∧ Below W0.heap.size W0 W) (hb : Below W.heap.size W w') : Below W0.heap.size W0 w' := h.2.2.2.2.2.2.2.trans (hb.mono h.2.2.2.2.2.2.2.size)
theorem last9 {A1 A2 A3 A4 A5 A6 A7 A8 D : Prop} (h : A1 ∧ A2 ∧ A3 ∧ A4 ∧ A5 ∧ A6 ∧ A7 ∧ A8 ∧ D) : D := h.2.2.2.2.2.2.2.2
theorem keep9 {A1 A2 A3 A4 A5 A6 A7 A8 : Prop} {W0 W w' : World} (h : A1 ∧ A2 ∧ A3 ∧ A4 ∧ A5 ∧ A6 ∧ A7 ∧ A8 ∧ Below W0.heap.size W0 W) (hb : Below W.heap.size W w') : Below W0.heap.size W0 w' := h.2.2.2.2.2.2.2.2.trans (hb.mono h.2.2.2.2.2.2.2.2.size)
theorem last10 {A1 A2 A3 A4 A5 A6 A7 A8 A9 D : Prop} (h : A1 ∧ A2 ∧ A3 ∧ A4 ∧ A5 ∧ A6 ∧ A7 ∧ A8 ∧ A9 ∧ D) : D := h.2.2.2.2.2.2.2.2.2
theorem keep10 {A1 A2 A3 A4 A5 A6 A7 A8 A9 : Prop} {W0 W w' : World} (h : A1 ∧ A2 ∧ A3 ∧ A4 ∧ A5 ∧ A6 ∧ A7 ∧ A8 ∧ A9 ∧ Below W0.heap.size W0 W) (hb : Below W.heap.size W w') : Below W0.heap.size W0 w' := h.2.2.2.2.2.2.2.2.2.trans (hb.mono h.2.2.2.2.2.2.2.2.2.size)
theorem last11 {A1 A2 A3 A4 A5 A6 A7 A8 A9 A10 D : Prop} (h : A1 ∧ A2 ∧ A3 ∧ A4 ∧ A5 ∧ A6 ∧ A7 ∧ A8 ∧ A9 ∧ A10 ∧ D) : D := h.2.2.2.2.2.2.2.2.2.2
theorem keep11 {A1 A2 A3 A4 A5 A6 A7 A8 A9 A10 : Prop} {W0 W w' : World} (h : A1 ∧ A2 ∧ A3 ∧ A4 ∧ A5 ∧ A6 ∧ A7 ∧ A8 ∧ A9 ∧ A10 ∧ Below W0.heap.size W0 W) (hb : Below W.heap.size W w') : Below W0.heap.size W0 w' := h.2.2.2.2.2.2.2.2.2.2.trans (hb.mono h.2.2.2.2.2.2.2.2.2.2.size)
theorem last12 {A1 A2 A3 A4 A5 A6 A7 A8 A9 A10 A11 D : Prop} (h : A1 ∧ A2 ∧ A3 ∧ A4 ∧ A5 ∧ A6 ∧ A7 ∧ A8 ∧ A9 ∧ A10 ∧ A11 ∧ D) : D := h.2.2.2.2.2.2.2.2.2.2.2
theorem keep12 {A1 A2 A3 A4 A5 A6 A7 A8 A9 A10 A11 : Prop} {W0 W w' : World} (h : A1 ∧ A2 ∧ A3 ∧ A4 ∧ A5 ∧ A6 ∧ A7 ∧ A8 ∧ A9 ∧ A10 ∧ A11 ∧ Below W0.heap.size W0 W) (hb : Below W.heap.size W w') : Below W0.heap.size W0 w' := h.2.2.2.2.2.2.2.2.2.2.2.trans (hb.mono h.2.2.2.2.2.2.2.2.2.2.2.size)

end Go.Proofs.Ytilbkmogmlcpaaa
namespace Go.Proofs.Ytilbkmogmlcpaaa
open Go.RowKit Go.ChangeShapes Go.WideShapes Go.Deep

/-- All weights of a datum are within the form's reach. -/
def Sized {H : Type} (t : TypeId) (d : DataW H) : Prop := ∀ n ∈ d.weights Try.prog t, n ≤ reachBytes

section
variable {H : Type}
theorem sized_agg {t : TypeId} {fs : Array Field} {ds : List (DataW H)} (hu : Try.prog.underlying t = some (.struct fs)) (h : Sized t (.agg ds)) {j : Nat} {f : Field} {d : DataW H} (hf : fs[j]? = some f) (hd : ds[j]? = some d) : Sized f.type d := by
  intro n hn
  refine h n ?_
  simp only [DataW.weights, hu]
  exact DataW.weights_mem_each (by simp [hf]) hd n hn
theorem sized_all {e : TypeId} : ∀ {ds : List (DataW H)} {d : DataW H}, d ∈ ds → ∀ n ∈ d.weights Try.prog e, n ∈ DataW.weightsAll Try.prog e ds
  | d0 :: ds, d, hd, n, hn => by
    simp only [DataW.weightsAll, List.mem_append]
    rcases List.mem_cons.1 hd with rfl | hd
    · exact .inl hn
    · exact .inr (sized_all hd n hn)
theorem sized_elem {t e : TypeId} {es sp : List (DataW H)} (hu : Try.prog.underlying t = some (.slice e)) (h : Sized t (.slice es sp)) {d : DataW H} (hd : d ∈ es) : Sized e d := by
  intro n hn
  refine h n ?_
  simp only [DataW.weights, hu, List.mem_cons, List.mem_append]
  exact .inr (.inl (sized_all hd n hn))
theorem sized_len {t e : TypeId} {es sp : List (DataW H)} (hu : Try.prog.underlying t = some (.slice e)) (h : Sized t (.slice es sp)) : (es.length + sp.length) * Try.prog.bytesOf e ≤ reachBytes := by
  refine h _ ?_
  simp only [DataW.weights, hu, List.mem_cons, true_or]
theorem sized_each {ts : List TypeId} {ds : List (DataW H)} (h : (DataW.weightsEach Try.prog ts ds).all (· ≤ reachBytes) = true) {j : Nat} {t : TypeId} {d : DataW H} (ht : ts[j]? = some t) (hd : ds[j]? = some d) : Sized t d := fun n hn => by
  have := List.all_eq_true.1 h n (DataW.weights_mem_each ht hd n hn)
  simpa using this

variable {enc : TypeId × Value → H} {w : World} {base : Nat} {spare : Nat → Bool} {held : Bool}
theorem open_slice_fields {P : Program} {t e : TypeId} {fs : Array Field} {fuel : Nat} {cs : List Value} {x : DataW H × List MemPlace} (ht : P.underlying t = some (.slice e)) (he : P.underlying e = some (.struct fs))
    (hone : oneCellFields P fs = true) (hC : P.cellsOf e = fs.size) (h : DataW.trod enc P w base spare held fuel t cs = some x) :
    (cs = [.slice none 0 0] ∧ x = (.nil, [])) ∨
    ∃ (a : Addr) (len cap m : Nat) (D : Nat → DataW H) (Pl : Nat → List MemPlace), cs = [.slice (some a) len cap] ∧ base ≤ a.block ∧ len ≤ cap ∧ cap ≤ maxLen ∧ m = (if spare a.block then cap else len) ∧
      x = (.slice ((List.range len).map D) ((List.range (m - len)).map fun j => D (len + j)), MemPlace.row a (m * fs.size) ++ (List.range m).flatMap Pl) ∧
      ∀ i, i < m → ∃ (ys : List (DataW H × List MemPlace)) (n : Nat), D i = .agg (ys.map (·.1)) ∧ Pl i = ys.flatMap (·.2) ∧ ys.length = fs.size ∧
        ∀ (j : Nat) (f : Field), fs[j]? = some f → ∃ (v : Value) (y : DataW H × List MemPlace), w.cell? (a.add (i * fs.size + j)) = some v ∧ ys[j]? = some y ∧ DataW.trod enc P w base spare held n f.type [v] = some y := by
  rcases open_slice ht h with h0 | ⟨a, len, cap, m, n, D, Pl, hcs, hb, hl, hm, hmm, hx, hi⟩
  · exact .inl h0
  · refine .inr ⟨a, len, cap, m, D, Pl, hcs, hb, hl, hm, hmm, by rw [hC] at hx; exact hx, fun i him => ?_⟩
    obtain ⟨cs', hc, ht'⟩ := hi i him
    rw [hC] at hc
    obtain ⟨ys, n', hn', hy, hlen, hyl, hf⟩ := DataW.trod_struct he ht'
    obtain ⟨_, hcl, hat⟩ := World.cells?_some hc
    simp only [Prod.mk.injEq] at hy
    refine ⟨ys, n', hy.1, hy.2, hyl, fun j f hj => ?_⟩
    obtain ⟨ho, hk⟩ := hone_of hone j f hj
    have hjl : j < fs.size := (Array.getElem?_eq_some_iff.1 hj).1
    have hcell := hat j hjl
    have hv : cs'[j]? = some (cs'[j]'(by omega)) := List.getElem?_eq_getElem (by omega)
    have h1 := hf j f hj
    rw [ho, hk] at h1
    have hone' : (cs'.drop j).take 1 = [cs'[j]'(by omega)] := by
      rw [List.drop_eq_getElem_cons (by omega)]
      rfl
    rw [hone'] at h1
    have hys : ys[j]? = some (ys[j]'(by omega)) := List.getElem?_eq_getElem (by omega)
    refine ⟨_, _, ?_, hys, h1.trans hys⟩
    rw [← Go.Deep.add_add, hcell, hv]

theorem wf_i64 {n : Int} (h : (Lit.int .i64 n).wf = true) : I64 n := by
  exact bounds_i64 h
theorem add_plain (b o i : Nat) : (⟨b, o, none⟩ : Addr).add i = ⟨b, o + i, none⟩ := by
  unfold Addr.add
  split
  · rename_i h; rw [h]; rfl
  · rfl

theorem ints_open {fuel : Nat} {v : Value} {y : DataW H × List MemPlace} (h : DataW.trod enc Try.prog w base spare held fuel 31 [v] = some y) (hz : Sized 31 y.1) :
    ∃ a n c xs, v = .slice a n c ∧ IntsAt w.heap.size w a n xs := by
  rcases open_ints Try.underlying31 Try.underlying3 (by kernel_rfl) h with ⟨hcs, _⟩ | ⟨⟨b, o, s⟩, l, c, zs, hcs, _, hl, hm, hzl, hy, hcell, hwf⟩
  · simp only [List.cons.injEq, and_true] at hcs
    subst hcs
    exact ⟨_, _, _, [], rfl, rfl, by omega, fun i hi => absurd hi (by omega)⟩
  · simp only [List.cons.injEq, and_true] at hcs
    subst hcs
    have hlen : l ≤ zs.length := by rw [hzl]; split <;> omega
    have hsz : l ≤ 140737488355328 := by
      have := sized_len Try.underlying31 (es := lits .i64 (zs.take l)) (sp := lits .i64 (zs.drop l)) (by rw [hy] at hz; exact hz)
      rw [show Try.prog.bytesOf 3 = 8 by kernel_rfl] at this
      simp only [lits, List.length_map, List.length_take, List.length_drop, reachBytes] at this
      omega
    refine ⟨some ⟨b, o, s⟩, l, c, zs.take l, rfl, by simp; omega, hsz, fun i hi => ?_⟩
    have h0 := hcell 0 (by omega)
    have hs : s = none := by simpa [Addr.add] using World.cell?_spot h0
    subst hs
    refine ⟨b, o, rfl, World.block_lt_of_cell? _ _ h0, fun i hi => ⟨?_, ?_⟩⟩
    · have := hcell i (by omega)
      rw [add_plain] at this
      rw [this]
      simp [gi, hi]
    · have hmem : gi (zs.take l) i ∈ zs := by
        rw [show gi (zs.take l) i = zs[i]'(by omega) by simp [gi, hi, List.getElem?_eq_getElem (show i < zs.length by omega)]]
        exact List.getElem_mem _
      exact wf_i64 (hwf _ hmem)

/-- Elements that are chosen one by one. -/
theorem list_of {α : Type} {p : Nat → α → Prop} {n : Nat} (h : ∀ i, i < n → ∃ x, p i x) : ∃ xs : List α, xs.length = n ∧ ∀ i (d : α), i < n → p i (xs.getD i d) := by
  induction n with
  | zero => exact ⟨[], rfl, fun i _ hi => absurd hi (by omega)⟩
  | succ n ih =>
    obtain ⟨xs, hl, hx⟩ := ih (fun i hi => h i (by omega))
    obtain ⟨x, hp⟩ := h n (by omega)
    refine ⟨xs ++ [x], by simp [hl], fun i d hi => ?_⟩
    by_cases e : i < n
    · have := hx i d e
      rw [List.getD_eq_getElem?_getD] at this ⊢
      rw [List.getElem?_append_left (by omega)]; exact this
    · obtain rfl : i = n := by omega
      rw [List.getD_eq_getElem?_getD, List.getElem?_append_right (by omega), hl]
      simpa using hp

theorem spans_open {fuel : Nat} {v : Value} {y : DataW H × List MemPlace} (h : DataW.trod enc Try.prog w base spare held fuel 46 [v] = some y) (hz : Sized 46 y.1) :
    ∃ a n c xs, v = .slice a n c ∧ SpansAt w.heap.size w a n xs := by
  rcases open_slice_fields Try.underlying46 Try.underlying60 (by kernel_rfl) (by kernel_rfl) h with ⟨hcs, _⟩ | ⟨⟨b, o, s⟩, l, c, m, D, Pl, hcs, _, hl, hm, hmm, hy, hi⟩
  · simp only [List.cons.injEq, and_true] at hcs
    subst hcs
    exact ⟨_, _, _, [], rfl, rfl, by omega, fun i hi => absurd hi (by omega)⟩
  · simp only [List.cons.injEq, and_true] at hcs
    subst hcs
    have hlm : l ≤ m := by rw [hmm]; split <;> omega
    have hsz : l ≤ 140737488355328 := by
      have := sized_len Try.underlying46 (by rw [hy] at hz; exact hz)
      rw [show Try.prog.bytesOf 60 = 16 by kernel_rfl] at this
      simp only [List.length_map, List.length_range, reachBytes] at this
      omega
    by_cases hl0 : l = 0
    · exact ⟨_, l, c, [], rfl, by simp [hl0], hsz, fun i hil => absurd hil (by omega)⟩
    obtain ⟨rfl, hb⟩ : s = none ∧ b < w.heap.size := by
      obtain ⟨ys, n, _, _, _, hf⟩ := hi 0 (by omega)
      obtain ⟨v0, y0, c0, _, _⟩ := hf 0 _ rfl
      exact ⟨by simpa [Addr.add] using World.cell?_spot c0, World.block_lt_of_cell? _ _ c0⟩
    simp only [add_plain] at hi
    obtain ⟨xs, hxl, hx⟩ := list_of (α := Int × Int) (n := l) (p := fun i k => w.cell? ⟨b, o + i * 2, none⟩ = some (.int .i64 k.1) ∧ w.cell? ⟨b, o + i * 2 + 1, none⟩ = some (.int .i64 k.2) ∧ I64 k.1 ∧ I64 k.2) (fun i hil => by
      obtain ⟨ys, n, _, _, _, hf⟩ := hi i (by omega)
      obtain ⟨v0, y0, c0, _, t0⟩ := hf 0 _ rfl
      obtain ⟨v1, y1, c1, _, t1⟩ := hf 1 _ rfl
      obtain ⟨k0, e0, _, w0⟩ := DataW.trod_int Try.underlying3 t0
      obtain ⟨k1, e1, _, w1⟩ := DataW.trod_int Try.underlying3 t1
      simp only [List.cons.injEq, and_true] at e0 e1
      subst e0 e1
      exact ⟨(k0, k1), c0, c1, wf_i64 w0, wf_i64 w1⟩)
    exact ⟨_, l, c, xs, rfl, hxl, hsz, fun i _ => ⟨b, o, rfl, hb, fun j hj => hx j (0, 0) hj⟩⟩

theorem woods_open {fuel : Nat} {v : Value} {y : DataW H × List MemPlace} (h : DataW.trod enc Try.prog w base spare held fuel 22 [v] = some y) (hz : Sized 22 y.1) :
    ∃ a n c xs, v = .slice a n c ∧ WoodsAt w.heap.size w a n xs := by
  rcases open_slice_fields Try.underlying22 Try.underlying48 (by kernel_rfl) (by kernel_rfl) h with ⟨hcs, _⟩ | ⟨⟨b, o, s⟩, l, c, m, D, Pl, hcs, _, hl, hm, hmm, hy, hi⟩
  · simp only [List.cons.injEq, and_true] at hcs
    subst hcs
    exact ⟨_, _, _, [], rfl, rfl, by omega, fun i hi => absurd hi (by omega)⟩
  · simp only [List.cons.injEq, and_true] at hcs
    subst hcs
    have hlm : l ≤ m := by rw [hmm]; split <;> omega
    have hz' : Sized 22 (.slice ((List.range l).map D) ((List.range (m - l)).map fun j => D (l + j))) := by rw [hy] at hz; exact hz
    have hsz : l ≤ 140737488355328 := by
      have := sized_len Try.underlying22 hz'
      rw [show Try.prog.bytesOf 48 = 32 by kernel_rfl] at this
      simp only [List.length_map, List.length_range, reachBytes] at this
      omega
    by_cases hl0 : l = 0
    · exact ⟨_, l, c, [], rfl, by simp [hl0], hsz, fun i hil => absurd hil (by omega)⟩
    obtain ⟨rfl, hb⟩ : s = none ∧ b < w.heap.size := by
      obtain ⟨ys, n, _, _, _, hf⟩ := hi 0 (by omega)
      obtain ⟨v0, y0, c0, _, _⟩ := hf 0 _ rfl
      exact ⟨by simpa [Addr.add] using World.cell?_spot c0, World.block_lt_of_cell? _ _ c0⟩
    simp only [add_plain] at hi
    obtain ⟨xs, hxl, hx⟩ := list_of (α := Wood) (n := l) (p := fun i x => ∃ v, KnotsV w.heap.size w v x ∧ w.cell? ⟨b, o + i * 2, none⟩ = some (.int .i64 x.long) ∧ w.cell? ⟨b, o + i * 2 + 1, none⟩ = some v ∧ I64 x.long) (fun i hil => by
      obtain ⟨ys, n, hD, _, _, hf⟩ := hi i (by omega)
      obtain ⟨v0, y0, c0, _, t0⟩ := hf 0 _ rfl
      obtain ⟨v1, y1, c1, hy1, t1⟩ := hf 1 _ rfl
      obtain ⟨k0, e0, _, w0⟩ := DataW.trod_int Try.underlying3 t0
      simp only [List.cons.injEq, and_true] at e0
      subst e0
      have hzi : Sized 48 (.agg (ys.map (·.1))) := by rw [← hD]; exact sized_elem Try.underlying22 hz' (List.mem_map.2 ⟨i, by simp; omega, rfl⟩)
      have hz1 : Sized 46 y1.1 := sized_agg Try.underlying48 hzi (j := 1) rfl (by rw [List.getElem?_map, hy1]; rfl)
      obtain ⟨ka, kn, kc, ks, rfl, hks⟩ := spans_open t1 hz1
      exact ⟨⟨k0, ks⟩, _, ⟨ka, kn, kc, rfl, hks⟩, c0, c1, wf_i64 w0⟩)
    exact ⟨_, l, c, xs, rfl, hxl, hsz, fun i _ => ⟨b, o, rfl, hb, fun j hj => hx j ⟨0, []⟩ hj⟩⟩

theorem shapes_open {fuel : Nat} {v : Value} {y : DataW H × List MemPlace} (h : DataW.trod enc Try.prog w base spare held fuel 23 [v] = some y) (hz : Sized 23 y.1) :
    ∃ a n c xs, v = .slice a n c ∧ ShapesAt w.heap.size w a n xs := by
  rcases open_slice_fields Try.underlying23 Try.underlying50 (by kernel_rfl) (by kernel_rfl) h with ⟨hcs, _⟩ | ⟨⟨b, o, s⟩, l, c, m, D, Pl, hcs, _, hl, hm, hmm, hy, hi⟩
  · simp only [List.cons.injEq, and_true] at hcs
    subst hcs
    exact ⟨_, _, _, [], rfl, rfl, by omega, fun i hi => absurd hi (by omega)⟩
  · simp only [List.cons.injEq, and_true] at hcs
    subst hcs
    have hlm : l ≤ m := by rw [hmm]; split <;> omega
    have hz' : Sized 23 (.slice ((List.range l).map D) ((List.range (m - l)).map fun j => D (l + j))) := by rw [hy] at hz; exact hz
    have hsz : l ≤ 140737488355328 := by
      have := sized_len Try.underlying23 hz'
      rw [show Try.prog.bytesOf 50 = 40 by kernel_rfl] at this
      simp only [List.length_map, List.length_range, reachBytes] at this
      omega
    by_cases hl0 : l = 0
    · exact ⟨_, l, c, [], rfl, by simp [hl0], hsz, fun i hil => absurd hil (by omega)⟩
    obtain ⟨rfl, hb⟩ : s = none ∧ b < w.heap.size := by
      obtain ⟨ys, n, _, _, _, hf⟩ := hi 0 (by omega)
      obtain ⟨v0, y0, c0, _, _⟩ := hf 0 _ rfl
      exact ⟨by simpa [Addr.add] using World.cell?_spot c0, World.block_lt_of_cell? _ _ c0⟩
    simp only [add_plain] at hi
    obtain ⟨xs, hxl, hx⟩ := list_of (α := Shape) (n := l) (p := fun i x => ∃ v, JointsV w.heap.size w v x ∧ w.cell? ⟨b, o + i * 3, none⟩ = some (.int .i64 x.long) ∧ w.cell? ⟨b, o + i * 3 + 1, none⟩ = some v ∧ w.cell? ⟨b, o + i * 3 + 2, none⟩ = some (.bool x.turns) ∧ I64 x.long) (fun i hil => by
      obtain ⟨ys, n, hD, _, _, hf⟩ := hi i (by omega)
      obtain ⟨v0, y0, c0, _, t0⟩ := hf 0 _ rfl
      obtain ⟨v1, y1, c1, hy1, t1⟩ := hf 1 _ rfl
      obtain ⟨v2, y2, c2, _, t2⟩ := hf 2 _ rfl
      obtain ⟨k0, e0, _, w0⟩ := DataW.trod_int Try.underlying3 t0
      obtain ⟨k2, e2, _⟩ := DataW.trod_bool Try.underlying4 t2
      simp only [List.cons.injEq, and_true] at e0 e2
      subst e0 e2
      have hzi : Sized 50 (.agg (ys.map (·.1))) := by rw [← hD]; exact sized_elem Try.underlying23 hz' (List.mem_map.2 ⟨i, by simp; omega, rfl⟩)
      have hz1 : Sized 31 y1.1 := sized_agg Try.underlying50 hzi (j := 1) rfl (by rw [List.getElem?_map, hy1]; rfl)
      obtain ⟨ka, kn, kc, ks, rfl, hks⟩ := ints_open t1 hz1
      exact ⟨⟨k0, ks, k2⟩, _, ⟨ka, kn, kc, rfl, hks⟩, c0, c1, c2, wf_i64 w0⟩)
    exact ⟨_, l, c, xs, rfl, hxl, hsz, fun i _ => ⟨b, o, rfl, hb, fun j hj => hx j ⟨0, [], false⟩ hj⟩⟩

set_option maxRecDepth 100000 in
/-- A book that came in. -/
theorem book_open {r : Reach} {b0 : Nat} {v : Value} {d : DataW H} {p : List MemPlace} (hv : Value.okWide Try.prog w r b0 25 v) (h : DataW.Trod enc Try.prog w base spare held 25 v d p) (hz : Sized 25 d) :
    ∃ pa pn pc sa sn sc x, v = .agg #[.slice pa pn pc, .slice sa sn sc] ∧ BookAt w.heap.size w pa pn sa sn x := by
  obtain ⟨v0, v1, y0, y1, n, rfl, rfl, _, t0, t1⟩ := Go.Joins.open_agg2 Try.underlying25 (by kernel_rfl) (by kernel_rfl) hv h
  obtain ⟨pa, pn, pc, ps, rfl, hps⟩ := woods_open t0 (sized_agg Try.underlying25 hz (j := 0) rfl rfl)
  obtain ⟨sa, sn, sc, ss, rfl, hss⟩ := shapes_open t1 (sized_agg Try.underlying25 hz (j := 1) rfl rfl)
  exact ⟨pa, pn, pc, sa, sn, sc, ⟨ps, ss⟩, rfl, ⟨hps, hss⟩⟩
end
end Go.Proofs.Ytilbkmogmlcpaaa
