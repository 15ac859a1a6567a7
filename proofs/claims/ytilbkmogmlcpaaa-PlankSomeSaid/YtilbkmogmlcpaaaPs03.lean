/- Walks: a board, and where a part's joints and inches are. Walks: the iterators over the places of a part. What a round of a range over a function keeps: all blocks but those of a set M. A region that draws its order, reads first and ends in one forced order: within a fence that lets all in (a round of a range over a function). -/
import Derived.Test.YtilbkmogmlcpaaaPs02
import Derived.StillTailTactics
import Derived.RangeFuncNested
import Derived.RangeFuncBound
import Derived.RangeFuncCalls
import Derived.RangeFuncLeaves
import Derived.Shelf.Abstract
import Derived.OwnWalkIn
import Derived.TacticsInMore
import Derived.LoopNIn
import Derived.LoopIn
import Derived.Test.YtilbkmogmlcpaaaPs01
import Derived.StillTail
import Derived.StillTactics
import Derived.OrdersIn
import Derived.TacticsIn
namespace Go.Proofs.Ytilbkmogmlcpaaa
open Go.RowKit

/-- What is known of a board's value, its answers apart. -/
structure BoardV (B : Nat) (w : World) (kv : Value) (sa : Option Addr) (sn : Nat) (x : Wood) (ps : List Shape) : Prop where
  knots : KnotsV B w kv x
  parts : ShapesAt B w sa sn ps

theorem InBlk.there {w : World} {b : Nat} {m : Nat → Bool} (h : InBlk w b m) : w.there b 0 16 := fun j hj => by
  rw [Nat.zero_add]; exact ⟨by rw [h.cell hj]; rfl, h.frozen j⟩

set_option maxRecDepth 10000 in
set_option maxHeartbeats 1000000 in
theorem under_any {B : Nat} {long : Int} {kv av : Value} {sa : Option Addr} {sn sc : Nat} {ps : List Shape} {p : Nat} {t : Int} {w : World} (hB : B ≤ w.heap.size) (hs : ShapesAt B w sa sn ps)
    (hp : p < sn) (h1 : 0 ≤ t) (h2 : 1 ≤ (gs ps p).long) (h3 : t + (gs ps p).long ≤ 16) :
    Calls Try.prog 107 #[.agg #[.int .i64 long, kv, .slice sa sn sc, av], .agg #[.int .i64 p, .int .i64 t]] w
      fun e w' => e = .returned (.agg (encIn (betM t (t + (gs ps p).long - 1)))) ∧ Below w.heap.size w w' := by
  obtain ⟨b, o, rfl, hbB, hc⟩ := hs.get _ hp
  obtain ⟨v, _, hc1, _, _, hi1⟩ := hc p hp
  clear hc hs
  go_enter Try.func107, Try.ntmps107
  go_wp2
  obtain ⟨W0, hW0⟩ : ∃ W0, W0 = ((w.alloc (.cells #[.int .i64 long, kv, .slice (some ⟨b, o, none⟩) sn sc, av] 86)).alloc (.cells #[.int .i64 p, .int .i64 t] 89)).alloc (.cells (encIn fun _ => false) 142) := ⟨_, rfl⟩
  have hb0 : Below w.heap.size w W0 := by rw [hW0]; exact (((Below.refl _ _).alloc (Nat.le_refl _) _).alloc (by simp) _).alloc (by simp; omega) _
  have hin : InBlk W0 (w.heap.size + 1 + 1) (fun _ => false) := by rw [hW0]; exact .of_row (rowOf_at _ _ _ _ (by simp))
  have hc2 : W0.cell? ⟨w.heap.size, 2, none⟩ = some (.slice (some ⟨b, o, none⟩) sn sc) := by rw [hW0]; go_simp
  have hp0 : W0.cell? ⟨w.heap.size + 1, 0, none⟩ = some (.int .i64 p) := by rw [hW0]; go_simp
  have hp1 : W0.cell? ⟨w.heap.size + 1, 1, none⟩ = some (.int .i64 t) := by rw [hW0]; go_simp
  have hc1' : W0.cell? ⟨b, o + p * 3, none⟩ = some (.int .i64 (gs ps p).long) := by rw [bcells hb0 _ _ (by omega)]; exact hc1
  have hsz : w.heap.size + 1 + 1 < W0.heap.size := by rw [hW0]; simp
  rw [zeroIn] at hW0
  rw [← hW0]
  clear hW0 hc1
  have hu := inUnder0
  have hi := inInfo
  unfold I64 at hi1
  have e1 : IntKind.i64.wrap (t + (gs ps p).long) = t + (gs ps p).long := IntWalk.i64_in _ (by omega)
  have e2 : IntKind.i64.wrap (t + (gs ps p).long - 1) = t + (gs ps p).long - 1 := IntWalk.i64_in _ (by omega)
  have hrow : ∀ w1, Below W0.heap.size W0 w1 → rowOf w1 (w.heap.size + 1 + 1) = encIn (fun _ => false) := fun w1 h => (hin.keep h hsz).row_eq
  go_still_tail 13, (by kernel_rfl)
  change wpList _ _ _ _ _ W0.drew
  go_wp2_with (go_at_call 120; refine (between_any (by omega) (by omega) (by omega) (by omega)).mono ?_; rintro e w' ⟨rfl, hb⟩; have hb' : Below W0.heap.size W0 w' := ⟨hb.os, hb.tape, hb.output, hb.size, hb.block⟩)
  exact bodyPost_ret (v := .agg (encIn (betM t (t + (gs ps p).long - 1)))) (results_in rfl _ _ _ _ rfl ((hin.keep hb' hsz).row _)) rfl ⟨rfl, below_row (hb0.trans (hb'.mono (by omega))) (by omega) _⟩

/-- Where the joints of a part are, as it lies at t; turned. -/
def jointsM (x : Shape) (n : Nat) (t : Int) : Nat → Bool := fun i => anyB n fun k => decide ((i : Int) = t + gi x.joints k)
def turnedM (x : Shape) (n : Nat) (t : Int) : Nat → Bool := fun i => anyB n fun k => decide ((i : Int) = t + x.long - 1 - gi x.joints k)

/-- The joints are in the part. -/
def JointsIn (x : Shape) : Prop := ∀ k, k < x.joints.length → 0 ≤ gi x.joints k ∧ gi x.joints k < x.long

theorem upd_any {p : Nat → Nat → Bool} {n j : Nat} (h : ∀ i, p n i = decide (i = j)) (i : Nat) :
    upd (fun i => anyB n fun k => p k i) j true i = anyB (n + 1) fun k => p k i := by
  unfold upd
  simp only [anyB]
  by_cases e : i = j
  · rw [if_pos e, h, decide_eq_true e, Bool.or_true]
  · rw [if_neg e, h, decide_eq_false e, Bool.or_false]

set_option maxRecDepth 10000 in
set_option maxHeartbeats 1000000 in
theorem joints_any {B : Nat} {long : Int} {kv av : Value} {sa : Option Addr} {sn sc : Nat} {ps : List Shape} {p : Nat} {t : Nat} {w : World} (hB : B ≤ w.heap.size) (hs : ShapesAt B w sa sn ps)
    (hp : p < sn) (hJ : JointsIn (gs ps p)) (h3 : t + (gs ps p).long ≤ 16) :
    Calls Try.prog 130 #[.agg #[.int .i64 long, kv, .slice sa sn sc, av], .agg #[.int .i64 p, .int .i64 t]] w
      fun e w' => e = .returned (.agg (encIn (jointsM (gs ps p) (gs ps p).joints.length t))) ∧ Below w.heap.size w w' := by
  obtain ⟨b, o, rfl, hbB, hc⟩ := hs.get _ hp
  obtain ⟨v, hv, hc1, hc2, hc3, hi1⟩ := hc p hp
  obtain ⟨ja, n, jc, rfl, hj⟩ := hv
  have hj' := Lib.hid hj
  have hlen := Lib.hid hj.len
  have hL := hj.small
  clear hc hs hj
  generalize gs ps p = x at *
  have hbs : b < w.heap.size := by omega
  have hbs1 : b < w.heap.size + 1 := by omega
  have hbs2 : b < w.heap.size + 1 + 1 := by omega
  have hbs3 : b < w.heap.size + 1 + 1 + 1 := by omega
  go_enter Try.func130, Try.ntmps130
  go_wp2
  clear hbs hbs1 hbs2 hbs3
  obtain ⟨W0, hW0⟩ : ∃ W0, W0 = (((w.alloc (.cells #[.int .i64 long, kv, .slice (some ⟨b, o, none⟩) sn sc, av] 86)).alloc (.cells #[.int .i64 p, .int .i64 t] 89)).alloc (.cells (encIn fun _ => false) 142)).alloc (.cells (encIn fun _ => false) 142) := ⟨_, rfl⟩
  have hb0 : Below w.heap.size w W0 := by rw [hW0]; exact ((((Below.refl _ _).alloc (Nat.le_refl _) _).alloc (by simp) _).alloc (by simp; omega) _).alloc (by simp; omega) _
  have hres : InBlk W0 (w.heap.size + 1 + 1) (fun _ => false) := by rw [hW0]; exact InBlk.alloc (.of_row (rowOf_at _ _ _ _ (by simp))) _
  have hm : InBlk W0 (w.heap.size + 1 + 1 + 1) (fun _ => false) := by rw [hW0]; exact .of_row (rowOf_at _ _ _ _ (by simp))
  have hp1 : W0.cell? ⟨w.heap.size + 1, 1, none⟩ = some (.int .i64 t) := by rw [hW0]; go_simp
  have hsz : w.heap.size + 1 + 1 + 1 < W0.heap.size := by rw [hW0]; simp
  rw [zeroIn] at hW0
  rw [← hW0]
  clear hW0
  go_loopw [16] (fun i wr => ∃ k : Nat, k ≤ n ∧ i = .int .i64 k ∧ InBlk wr (w.heap.size + 1 + 1 + 1) (jointsM x k t) ∧ InBlk wr (w.heap.size + 1 + 1) (fun _ => false) ∧ Below (w.heap.size + 1 + 1) W0 wr) (fun i _ => n - (intOf i).toNat)
  case atStart => exact ⟨0, by omega, rfl, hm, hres, Below.refl _ _⟩
  case round =>
    obtain ⟨k, hk, rfl, hA, hC, hb⟩ := hrel
    by_cases hlt : k < n
    · obtain ⟨b2, o2, rfl, hbB2, hcc⟩ := hj'.out.get _ hlt
      obtain ⟨hcj, hij⟩ := hcc k hlt
      clear hcc
      have hJk := hJ k (by rw [hlen.out]; exact hlt)
      unfold I64 at hij hi1
      rw [← bcells hb0 _ _ (by omega), ← bcells hb _ _ (by omega)] at hcj
      have hp1' : wr.cell? ⟨w.heap.size + 1, 1, none⟩ = some (.int .i64 t) := (bcells hb _ _ (by omega)).trans hp1
      have hcell := hA.cell (i := (t + gi x.joints k).toNat) (by omega)
      have hfr := hA.frozen (t + gi x.joints k).toNat
      go_wp2
      go_roundw
      case rel =>
        exact ⟨k + 1, by omega, by go_num, (hA.set (by omega) true).congr (fun i _ => upd_any (p := fun k i => decide ((i : Int) = t + gi x.joints k)) (fun i => decide_eq_decide.2 (by omega)) i), hC.other (by simp) _, hb.setCell (by simp) _⟩
      case measure => simp [intOf]; omega
    · obtain rfl : k = n := by omega
      have hrA := hA.row_eq
      have hrC := hC.row_eq
      go_wp2
      rw [hlen.out]
      exact bodyPost_ret (v := .agg (encIn (jointsM x k t))) (results_in rfl _ _ _ _ rfl (hC.row _)) rfl ⟨rfl, below_row (hb0.trans (hb.mono (by omega))) (by omega) _⟩

set_option maxRecDepth 10000 in
set_option maxHeartbeats 1000000 in
theorem turnedJoints_any {B : Nat} {long : Int} {kv av : Value} {sa : Option Addr} {sn sc : Nat} {ps : List Shape} {p : Nat} {t : Nat} {w : World} (hB : B ≤ w.heap.size) (hs : ShapesAt B w sa sn ps)
    (hp : p < sn) (hJ : JointsIn (gs ps p)) (h3 : t + (gs ps p).long ≤ 16) :
    Calls Try.prog 131 #[.agg #[.int .i64 long, kv, .slice sa sn sc, av], .agg #[.int .i64 p, .int .i64 t]] w
      fun e w' => e = .returned (.agg (encIn (turnedM (gs ps p) (gs ps p).joints.length t))) ∧ Below w.heap.size w w' := by
  obtain ⟨b, o, rfl, hbB, hc⟩ := hs.get _ hp
  obtain ⟨v, hv, hc1, hc2, hc3, hi1⟩ := hc p hp
  obtain ⟨ja, n, jc, rfl, hj⟩ := hv
  have hj' := Lib.hid hj
  have hlen := Lib.hid hj.len
  have hL := hj.small
  clear hc hs hj
  generalize gs ps p = x at *
  have hbs : b < w.heap.size := by omega
  have hbs1 : b < w.heap.size + 1 := by omega
  have hbs2 : b < w.heap.size + 1 + 1 := by omega
  have hbs3 : b < w.heap.size + 1 + 1 + 1 := by omega
  go_enter Try.func131, Try.ntmps131
  go_wp2
  clear hbs hbs1 hbs2 hbs3
  obtain ⟨W0, hW0⟩ : ∃ W0, W0 = ((((w.alloc (.cells #[.int .i64 long, kv, .slice (some ⟨b, o, none⟩) sn sc, av] 86)).alloc (.cells #[.int .i64 p, .int .i64 t] 89)).alloc (.cells (encIn fun _ => false) 142)).alloc (.cells #[.int .i64 x.long, .slice ja n jc, .bool x.turns] 50)).alloc (.cells (encIn fun _ => false) 142) := ⟨_, rfl⟩
  have hb0 : Below w.heap.size w W0 := by rw [hW0]; exact (((((Below.refl _ _).alloc (Nat.le_refl _) _).alloc (by simp) _).alloc (by simp; omega) _).alloc (by simp; omega) _).alloc (by simp; omega) _
  have hres : InBlk W0 (w.heap.size + 1 + 1) (fun _ => false) := by rw [hW0]; exact InBlk.alloc (InBlk.alloc (.of_row (rowOf_at _ _ _ _ (by simp))) _) _
  have hm : InBlk W0 (w.heap.size + 1 + 1 + 1 + 1) (fun _ => false) := by rw [hW0]; exact .of_row (rowOf_at _ _ _ _ (by simp))
  have hp1 : W0.cell? ⟨w.heap.size + 1, 1, none⟩ = some (.int .i64 t) := by rw [hW0]; go_simp
  have hs0 : W0.cell? ⟨w.heap.size + 1 + 1 + 1, 0, none⟩ = some (.int .i64 x.long) := by rw [hW0]; go_simp
  have hsz : w.heap.size + 1 + 1 + 1 + 1 < W0.heap.size := by rw [hW0]; simp
  rw [zeroIn] at hW0
  rw [← hW0]
  clear hW0
  go_loopw [18] (fun i wr => ∃ k : Nat, k ≤ n ∧ i = .int .i64 k ∧ InBlk wr (w.heap.size + 1 + 1 + 1 + 1) (turnedM x k t) ∧ InBlk wr (w.heap.size + 1 + 1) (fun _ => false) ∧ (wr.cell? ⟨w.heap.size + 1, 1, none⟩ = some (.int .i64 t) ∧ wr.cell? ⟨w.heap.size + 1 + 1 + 1, 0, none⟩ = some (.int .i64 x.long)) ∧ Below (w.heap.size + 1 + 1) W0 wr) (fun i _ => n - (intOf i).toNat)
  case atStart => exact ⟨0, by omega, rfl, hm, hres, ⟨hp1, hs0⟩, Below.refl _ _⟩
  case round =>
    obtain ⟨k, hk, rfl, hA, hC, ⟨hp1', hs0'⟩, hb⟩ := hrel
    by_cases hlt : k < n
    · obtain ⟨b2, o2, rfl, hbB2, hcc⟩ := hj'.out.get _ hlt
      obtain ⟨hcj, hij⟩ := hcc k hlt
      clear hcc
      have hJk := hJ k (by rw [hlen.out]; exact hlt)
      unfold I64 at hij hi1
      rw [← bcells hb0 _ _ (by omega), ← bcells hb _ _ (by omega)] at hcj
      have hcell := hA.cell (i := (t + x.long - 1 - gi x.joints k).toNat) (by omega)
      have hfr := hA.frozen (t + x.long - 1 - gi x.joints k).toNat
      go_wp2
      go_roundw
      case rel =>
        exact ⟨k + 1, by omega, by go_num, (hA.set (by omega) true).congr (fun i _ => upd_any (p := fun k i => decide ((i : Int) = t + x.long - 1 - gi x.joints k)) (fun i => decide_eq_decide.2 (by omega)) i), hC.other (by simp) _, ⟨by rw [World.cell?_setCell_other _ _ _ _ (by simp)]; exact hp1', by rw [World.cell?_setCell_other _ _ _ _ (by simp)]; exact hs0'⟩, hb.setCell (by simp) _⟩
      case measure => simp [intOf]; omega
    · obtain rfl : k = n := by omega
      have hrA := hA.row_eq
      have hrC := hC.row_eq
      go_wp2
      rw [hlen.out]
      exact bodyPost_ret (v := .agg (encIn (turnedM x k t))) (results_in rfl _ _ _ _ rfl (hC.row _)) rfl ⟨rfl, below_row (hb0.trans (hb.mono (by omega))) (by omega) _⟩

end Go.Proofs.Ytilbkmogmlcpaaa
namespace Go.Proofs.Ytilbkmogmlcpaaa
open Go.RowKit Go.Shelf

attribute [local go_sem] Oper.semAt_some

/-- How many places a part has on a plank. -/
def many (long plong : Int) : Nat := (long - plong + 1).toNat

set_option maxRecDepth 10000 in
set_option maxHeartbeats 1000000 in
theorem places_any {B : Nat} {long : Int} {kv av : Value} {sa : Option Addr} {sn sc : Nat} {ps : List Shape} {p : Nat} {w : World} (hB : B ≤ w.heap.size) (hs : ShapesAt B w sa sn ps)
    (hp : p < sn) (h1 : 0 ≤ long) (h2 : long ≤ 16) (h3 : 0 ≤ (gs ps p).long) (h4 : (gs ps p).long ≤ 12) :
    Calls Try.prog 69 #[.agg #[.int .i64 long, kv, .slice sa sn sc, av], .int .i64 p] w
      fun e w' => e = .returned (.func (.func 103) #[] #[.pointer (some ⟨w.heap.size + 1, 0, none⟩), .pointer (some ⟨w.heap.size + 2, 0, none⟩)]) ∧
        w' = (((w.alloc (.cells #[.int .i64 long, kv, .slice sa sn sc, av] 86)).alloc (.cells #[.int .i64 p] 3)).alloc (.cells #[.int .i64 p, .int .i64 (many long (gs ps p).long)] 89)).drew := by
  obtain ⟨b, o, rfl, hbB, hc⟩ := hs.get _ hp
  obtain ⟨v, _, hc1, _, _, hi1⟩ := hc p hp
  clear hc hs
  have hL := hp
  generalize (gs ps p).long = pl at *
  have hbs : b < w.heap.size := by omega
  have hbs1 : b < w.heap.size + 1 := by omega
  have hbs2 : b < w.heap.size + 1 + 1 := by omega
  unfold I64 at hi1
  by_cases hneg : long - pl + 1 < 0
  all_goals
    go_enter Try.func69, Try.ntmps69
    go_wp2
    have e1 : IntKind.i64.wrap (long - pl) = long - pl := IntWalk.i64_in _ (by omega)
    have e2 : IntKind.i64.wrap (long - pl + 1) = long - pl + 1 := IntWalk.i64_in _ (by omega)
    go_region
    go_wp2
    all_goals
      go_ret
      refine ⟨rfl, ?_⟩
      first
        | rw [show ((many long pl : Nat) : Int) = 0 by unfold many; omega]
        | rw [show ((many long pl : Nat) : Int) = long - pl + 1 by unfold many; omega]

end Go.Proofs.Ytilbkmogmlcpaaa
namespace Go.Proofs.Ytilbkmogmlcpaaa
open Go.RowKit

/-- All blocks of W but those of M lie in W' as they lay. -/
structure SameBut (M : Nat → Prop) (W W' : World) : Prop where
  os : W'.os = W.os
  tape : W'.tape = W.tape
  output : W'.output = W.output
  size : W.heap.size ≤ W'.heap.size
  block : ∀ k, k < W.heap.size → ¬ M k → W'.heap[k]? = W.heap[k]?

section
variable {M : Nat → Prop} {W W' W1 : World}
theorem SameBut.refl (M : Nat → Prop) (W : World) : SameBut M W W := ⟨rfl, rfl, rfl, Nat.le_refl _, fun _ _ _ => rfl⟩
theorem SameBut.trans (h : SameBut M W W') (k : SameBut M W' W1) : SameBut M W W1 :=
  ⟨k.os.trans h.os, k.tape.trans h.tape, k.output.trans h.output, Nat.le_trans h.size k.size, fun i hi hm => (k.block i (Nat.lt_of_lt_of_le hi h.size) hm).trans (h.block i hi hm)⟩
theorem SameBut.alloc (h : SameBut M W W') (o : Obj) : SameBut M W (W'.alloc o) :=
  h.trans ⟨rfl, rfl, rfl, by simp, fun k hk _ => Below.heap_alloc W' o k hk⟩
theorem SameBut.drew (h : SameBut M W W') : SameBut M W W'.drew := ⟨h.os, h.tape, h.output, h.size, h.block⟩
theorem SameBut.drewN (h : SameBut M W W') (n : Nat) : SameBut M W (W'.drewN n) := ⟨h.os, h.tape, h.output, h.size, h.block⟩
theorem SameBut.below (h : SameBut M W W') (hb : Below W'.heap.size W' W1) : SameBut M W W1 :=
  h.trans ⟨hb.os, hb.tape, hb.output, hb.size, fun k hk _ => hb.block k hk⟩
theorem SameBut.setCell (h : SameBut M W W') {a : Addr} (ha : M a.block ∨ W.heap.size ≤ a.block) (v : Value) : SameBut M W (W'.setCell a v) :=
  ⟨h.os, h.tape, h.output, by rw [World.size_setCell]; exact h.size, fun k hk hm => by
    rw [heap_setCell_other W' a k v (fun e => by rcases ha with ha | ha; exact hm (e ▸ ha); omega)]; exact h.block k hk hm⟩
theorem SameBut.setRow (h : SameBut M W W') {b : Nat} (ha : M b ∨ W.heap.size ≤ b) (cs : Array Value) : SameBut M W (W'.setRow b cs) :=
  ⟨h.os, h.tape, h.output, by rw [size_setRow]; exact h.size, fun k hk hm => by
    rw [setRow_other W' b k cs (fun e => by rcases ha with ha | ha; exact hm (e ▸ ha); omega)]; exact h.block k hk hm⟩
theorem SameBut.of_below {B : Nat} (h : Below B W W') (hB : W.heap.size ≤ B) : SameBut M W W' := ⟨h.os, h.tape, h.output, h.size, fun k hk _ => h.block k (by omega)⟩
theorem SameBut.mono {M' : Nat → Prop} (h : SameBut M W W') (hm : ∀ k, M k → M' k) : SameBut M' W W' := ⟨h.os, h.tape, h.output, h.size, fun k hk hn => h.block k hk (fun e => hn (hm k e))⟩
theorem SameBut.toBelow (h : SameBut M W W') {B : Nat} (hB : B ≤ W.heap.size) (hM : ∀ k, M k → B ≤ k) : Below B W W' :=
  ⟨h.os, h.tape, h.output, h.size, fun k hk => h.block k (by omega) (fun e => by have := hM k e; omega)⟩
theorem SameBut.keepsFrom (h : SameBut M W W') {B : Nat} (hM : ∀ k, M k → k < B) : KeepsFrom B W W' :=
  ⟨h.size, fun k o hk ho _ => by
    have hl := (Array.getElem?_eq_some_iff.1 ho).1
    rw [h.block k hl (fun e => by have := hM k e; omega)]; exact ho⟩
theorem SameBut.cell (h : SameBut M W W') {b o : Nat} (hb : b < W.heap.size) (hm : ¬ M b) : W'.cell? ⟨b, o, none⟩ = W.cell? ⟨b, o, none⟩ := World.cell?_of_block (w := W) (a := ⟨b, o, none⟩) (h.block b hb hm)
end

/-- What a round keeps that goes on: all blocks but those of M, if they lay before the loop (below n) or hold cells. -/
structure Keeps (M : Nat → Prop) (n : Nat) (W W' : World) : Prop where
  os : W'.os = W.os
  tape : W'.tape = W.tape
  output : W'.output = W.output
  size : W.heap.size ≤ W'.heap.size
  block : ∀ k o, W.heap[k]? = some o → ¬ M k → (k < n ∨ o.isCells = true) → W'.heap[k]? = some o

section
variable {M : Nat → Prop} {n : Nat} {W W' W1 : World}
theorem Keeps.refl (M : Nat → Prop) (n : Nat) (W : World) : Keeps M n W W := ⟨rfl, rfl, rfl, Nat.le_refl _, fun _ _ h _ _ => h⟩
theorem Keeps.trans (h : Keeps M n W W') (k : Keeps M n W' W1) : Keeps M n W W1 :=
  ⟨k.os.trans h.os, k.tape.trans h.tape, k.output.trans h.output, Nat.le_trans h.size k.size, fun i o ho hm hc => k.block i o (h.block i o ho hm hc) hm hc⟩
theorem SameBut.keeps (h : SameBut M W W') (n : Nat) : Keeps M n W W' :=
  ⟨h.os, h.tape, h.output, h.size, fun k o ho hm _ => by rw [h.block k (Array.getElem?_eq_some_iff.1 ho).1 hm]; exact ho⟩
theorem keeps_b {w : World} (M : Nat → Prop) (W : World) (l : Nat) (o o' : Obj) (hl : w.heap.size ≤ l) (h : W.heap[l]? = some o) (hc : o.isCells = false) (_ : o.isWalk = false) : Keeps M w.heap.size W (W.putObj l o') := by
  have hg := grownBy_putObj' W l o'
  refine ⟨hg.os, hg.tape, hg.output, hg.size, fun k x hx _ hk => ?_⟩
  have hlt := (Array.getElem?_eq_some_iff.1 hx).1
  by_cases e : k = l
  · subst e
    rw [h] at hx; cases hx
    rcases hk with hk | hk
    · omega
    · rw [hc] at hk; cases hk
  · rw [hg.block k hlt (by simp [e])]; exact hx
theorem Keeps.below (h : Keeps M n W W') {B : Nat} (hB : B ≤ n) (hS : B ≤ W.heap.size) (hM : ∀ k, M k → B ≤ k) : Below B W W' :=
  ⟨h.os, h.tape, h.output, h.size, fun k hk => by
    have hl : k < W.heap.size := by omega
    rw [Array.getElem?_eq_getElem hl]
    exact h.block k _ (Array.getElem?_eq_getElem hl) (fun e => by have := hM k e; omega) (.inl (by omega))⟩
theorem Keeps.cells (h : Keeps M n W W') {b : Nat} {c : Array Value} {t : TypeId} {f : Nat × Nat} (hb : W.heap[b]? = some (.cells c t f)) (hm : ¬ M b) : W'.heap[b]? = some (.cells c t f) :=
  h.block b _ hb hm (.inr rfl)
theorem Keeps.cell (h : Keeps M n W W') {b o : Nat} (hb : b < W.heap.size) (hn : b < n) (hm : ¬ M b) : W'.cell? ⟨b, o, none⟩ = W.cell? ⟨b, o, none⟩ :=
  World.cell?_of_block (w := W) (a := ⟨b, o, none⟩) (by
    show W'.heap[b]? = W.heap[b]?
    rw [Array.getElem?_eq_getElem hb]
    exact h.block b _ (Array.getElem?_eq_getElem hb) hm (.inl hn))
end

end Go.Proofs.Ytilbkmogmlcpaaa
namespace Go.Proofs.Ytilbkmogmlcpaaa

/-- A fence that lets all in. -/
structure Open (F : Fence) : Prop where
  fn : ∀ f, F.fn f
  depth : F.depth = none
  calls : ∀ {n : Nat} {P : Program} {f : FuncId} {args : Array Value} {w : World} {R : Ending → World → Prop}, Calls P f args w R → CallsIn F n P f args w R

theorem open_wide : Open Fence.wide := ⟨fun _ => trivial, rfl, fun h => callsIn_wide.2 h⟩
theorem Open.inRound {F : Fence} (h : Open F) (l : Nat) : Open (F.inRound l) := ⟨h.fn, h.depth, fun hc => CallsIn.inRound l (h.calls hc)⟩

section
variable {F : Fence} {n : Nat} {P : Program} {ops : Array Oper} {md : Region.Mode} {w : World}

theorem semAt_of {ro : Option Nat} {ρ : Operand → Value} {o : Oper} (h : ∀ c, o.op ≠ .defer c) : Oper.semAt ro ρ o = execOp ρ o := by
  unfold Oper.semAt
  split
  · rename_i l c hc; exact absurd hc (h c)
  · rfl

theorem not_defer_of_still {o : Oper} {a : Act} {K : Act → Prop} (h : o.still P a w K) : ∀ c, o.op ≠ .defer c := by
  intro c hc
  unfold Oper.still execOp at h
  rw [hc] at h
  simp only [Sem.run_bind] at h
  generalize (resolve a.eval c o.type).run P w = r at h
  cases r with
  | ok d w' => simp [Result.andThen, Oper.stillUpon] at h
  | halt x w' => simp [Result.andThen, Oper.stillUpon] at h

theorem wpIn_of_still (hF : Open F) {o : Oper} {a : Act} {K : Act → Prop} {K' : Act → World → Prop} {Q' : Exit → Act → World → Prop} (h : ∀ a, K a → K' a w) (hh : o.still P a w K) : o.wpIn F n P a w K' Q' := by
  refine ⟨fun f _ => hF.fn f, ?_⟩
  rw [semAt_of (not_defer_of_still hh)]
  unfold Oper.still at hh
  generalize (execOp a.eval o).run P w = r at *
  cases r with
  | ok x w' =>
    cases x <;> simp only [Oper.stillUpon] at hh <;> simp only [Oper.uponIn]
    case enter f args =>
      obtain ⟨rfl, v, hc, hn⟩ := hh
      exact ⟨fun hd => by rw [hF.depth] at hd; simp at hd, hF.calls (hc.mono fun e w'' ⟨he, hw⟩ => by subst he; subst hw; exact h _ hn)⟩
    all_goals (obtain ⟨rfl, h2⟩ := hh; exact h _ h2)
  | halt x w' => simp only [Oper.stillUpon] at hh

theorem wpOpIn_of_stOp (hF : Open F) {i : Nat} {a : Act} {K : Act → Prop} {K' : Act → World → Prop} {Q' : Exit → Act → World → Prop} (h : ∀ a, K a → K' a w) (hh : stOp P ops w i K a) : wpOpIn F n P ops Q' i K' a w := by
  unfold stOp at hh
  unfold wpOpIn
  split
  · rename_i ho; simp only [ho] at hh; exact h _ hh
  · rename_i o ho
    simp only [ho] at hh
    split
    · rename_i hw; simp only [hw, if_true] at hh; exact wpIn_of_still hF h hh
    · rename_i hw; simp only [hw] at hh; exact ⟨fun f _ => hF.fn f, h _ hh⟩

theorem wpAnyIn_of_head (hF : Open F) {m g : Nat} {L : Array Bool → Act → Prop} {Q' : Exit → Act → World → Prop} (hL : ∀ listed a, L listed a → wpAnyIn F n P md ops Q' g listed a w) :
    ∀ (f : Nat) (listed : Array Bool) (a : Act), wpAnyL P md ops w m L f listed a → wpAnyIn F n P md ops Q' (f + g) listed a w
  | 0, listed, a, h => by rw [Nat.zero_add]; exact hL _ _ h
  | f + 1, listed, a, h => by
    rw [show f + 1 + g = (f + g) + 1 by omega]
    exact ⟨fun h0 => absurd h0 h.1, fun i hi => wpOpIn_of_stOp hF (fun a' h' => wpAnyIn_of_head hF hL f _ a' h') (h.2 i hi).2⟩

theorem wpAnyIn_of_seq {Q' : Exit → Act → World → Prop} : ∀ (l : List Oper) (k : Nat) (listed : Array Bool) (a : Act) (w : World), (∀ j, l[j]? = ops[k + j]?) →
    Region.seqB md ops l.length k listed = true → wpListIn F n P ops Q' l a w → wpAnyIn F n P md ops Q' l.length listed a w
  | [], _, _, _, _, _, hB, h => ⟨by simpa [Region.seqB] using hB, h⟩
  | o :: l, k, listed, a, w, hl, hB, h => by
    have h0 : ops[k]? = some o := by simpa using (hl 0).symm
    simp only [List.length_cons, Region.seqB, Bool.and_eq_true, decide_eq_true_eq] at hB
    refine ⟨fun h1 => (by rw [hB.1] at h1; cases h1), fun i hi => ?_⟩
    rw [hB.1] at hi
    have hik : i = k := by simpa using hi
    subst hik
    have hw : wpOpIn F n P ops Q' i (wpListIn F n P ops Q' l) a w := by unfold wpOpIn; simp only [h0]; exact h
    exact wpOpIn_mono (fun a' w' h' => wpAnyIn_of_seq l (i + 1) _ a' w' (fun j => by have := hl (j + 1); simpa [Nat.add_assoc, Nat.add_comm 1 j] using this) hB.2 h') hw

/-- The law. -/
theorem wpIn_region_still_tail (hF : Open F) {id : Nat} {Q : Exit → Act → World → Prop} {a : Act} {w : World} {l : List Oper} (m : Nat) (hm : P.follows .mixedOrders = true) (hB : Region.lexTailB .any l.toArray m = true)
    (h : wpStill P l.toArray { w with drawn := w.drawn + 1 } (fun a' => wpListIn F n P l.toArray Q (l.drop m) a' { w with drawn := w.drawn + 1 }) (l.take m) a) : (Code.region id l.toArray true).wpIn F n P Q a w := by
  simp only [Region.lexTailB, Bool.and_eq_true, decide_eq_true_eq] at hB
  obtain ⟨⟨⟨⟨hsel, hn⟩, hs⟩, hc⟩, hlex⟩ := hB
  have hn' : m < l.length := by simpa using hn
  have htl : (l.take m).length = m := by simp; omega
  have hdl : (l.drop m).length = l.toArray.size - m := by simp
  have inv0 : HeadInv .any l.toArray m (Array.replicate l.toArray.size false) :=
    ⟨by simp, fun j oj _ hl => (by rw [getD_replicate_false] at hl; cases hl), fun t _ ht => getD_in (by simpa using ht) (getD_replicate_false _ _)⟩
  have H := wpAnyL_lex (md := .any) (g := l.toArray.size - m) hsel hs hc hn (l.take m) 0 _ a (fun j hj => by
    have hj' : j < m := by rw [htl] at hj; exact hj
    simp [hj']) (by simpa using htl) inv0 (by rw [htl]; exact hlex) h
  refine wpIn_region_any hm ?_
  have := wpAnyIn_of_head (n := n) hF (Q' := Q) (g := l.toArray.size - m) (fun listed a' hL => by
    have := wpAnyIn_of_seq (F := F) (n := n) (md := .any) (Q' := Q) (l.drop m) m listed a' { w with drawn := w.drawn + 1 } (fun j => by simp [List.getElem?_drop]) (by rw [hdl]; exact hL.1) hL.2
    rwa [hdl] at this) _ _ _ H
  rw [htl, show m + (l.toArray.size - m) = l.toArray.size by omega] at this
  exact this
end
end Go.Proofs.Ytilbkmogmlcpaaa
