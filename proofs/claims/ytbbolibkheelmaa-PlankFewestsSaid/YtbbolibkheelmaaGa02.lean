/- Walks: sets of inches of a plank ([16]bool). Walks: what a knot can, or must, hit. Walks: the check of a whole book, and of a question's numbers. Walks: a board, and where a part's joints and inches are. Walks: the iterators over the places of a part. -/
import Derived.Test.YtbbolibkheelmaaGa01
import Derived.Laws.Rows
import Derived.Laws.Tables
import Derived.Deep.RegionHeld3
import Derived.RegionTactic
import Derived.Deep.RegionWith
import Derived.ChangeKeysEq
import Derived.StillTailTactics
import Derived.RangeFuncNested
import Derived.RangeFuncBound
import Derived.RangeFuncCalls
import Derived.RangeFuncLeaves
import Derived.Shelf.Abstract
import Derived.OwnWalkIn
import Derived.TacticsInMore
import Derived.LoopNIn
import Derived.LoopIn
namespace Go.Proofs.Ytbbolibkheelmaa
open Go.RowKit

theorem inInfo : (Try.prog.info? 142).map (·.size) = some 16 := by kernel_rfl
theorem inUnder0 : Try.prog.underlying 142 = some (.array 16 4) := by kernel_rfl
theorem inUnder : ∃ e, Try.prog.underlying 142 = some (.array 16 e) := ⟨_, inUnder0⟩

/-- A load, a store of the whole array: kept shut till the world is at hand. -/
def loadIn (p : Value) : Sem Value := Instr.loadAt 142 p
def storeIn (p v : Value) : Sem Unit := Instr.storeAt 142 p v
@[go_sem ↓] theorem loadAt_in (p : Value) : Instr.loadAt 142 p = loadIn p := rfl
@[go_sem ↓] theorem storeAt_in (p v : Value) : Instr.storeAt 142 p v = storeIn p v := rfl
@[go_sem] theorem run_load_in (p : Value) (w : World) (hp : ptr0 p = true) (hs : (rowOf w (blkOf p)).size = 16) : Sem.run Try.prog (loadIn p) w = .ok (.agg (rowOf w (blkOf p))) w :=
  run_loadAt_row inUnder0 inInfo p w hp hs
@[go_sem] theorem run_store_in (p v : Value) (w : World) (hp : ptr0 p = true) (hs : (rowOf w (blkOf p)).size = 16) (hv : isAgg 16 v = true) : Sem.run Try.prog (storeIn p v) w = .ok () (w.setRow (blkOf p) v.cells) :=
  run_storeAt_row inInfo p v w hp hs hv

theorem wpList_load_in {ops : Array Oper} {rest : List Oper} {a : Act} {w : World} {Q : Exit → Act → World → Prop} {dst : Option Tmp} {x : Operand} {ty : TypeId} {pos : String} {after : Array Edge}
    (b : Nat) (m : Nat → Bool) (hx : a.eval x = .pointer (some ⟨b, 0, none⟩)) (h : InBlk w b m) (hk : wpList Try.prog ops Q rest (a.put dst (.agg (encIn m))) w) :
    wpList Try.prog ops Q ({ dst, op := .load 142 x, type := ty, pos, after, guard := none } :: rest) a w := by
  obtain ⟨t, h⟩ := h
  obtain ⟨e, he⟩ := inUnder
  exact wpList_load_row rfl 142 x rfl b hx t (encIn m) (0, 0) _ h he rfl (by rw [encIn_size]; exact inInfo) hk

theorem InBlk.row {w : World} {b : Nat} {m : Nat → Bool} (h : InBlk w b m) (m' : Nat → Bool) : InBlk (w.setRow b (encIn m')) b m' := by
  obtain ⟨t, h⟩ := h; exact ⟨t, setRow_heap w b _ _ t _ h⟩
theorem InBlk.row_other {w : World} {b : Nat} {m : Nat → Bool} (h : InBlk w b m) {b' : Nat} (hb : b ≠ b') (cs : Array Value) : InBlk (w.setRow b' cs) b m := by
  obtain ⟨t, h⟩ := h; exact ⟨t, by rw [setRow_other w b' b cs hb]; exact h⟩

theorem wpList_store_in {ops : Array Oper} {rest : List Oper} {a : Act} {w : World} {Q : Exit → Act → World → Prop} {dst : Option Tmp} {x y : Operand} {ty : TypeId} {pos : String} {after : Array Edge}
    (b : Nat) (m m0 : Nat → Bool) (hx : a.eval x = .pointer (some ⟨b, 0, none⟩)) (hy : a.eval y = .agg (encIn m)) (h : InBlk w b m0) (hk : wpList Try.prog ops Q rest (a.put dst undef) (w.setRow b (encIn m))) :
    wpList Try.prog ops Q ({ dst, op := .store 142 x y, type := ty, pos, after, guard := none } :: rest) a w := by
  obtain ⟨t, h⟩ := h
  refine wpList_plain rfl fun K hK => ?_
  unfold Oper.wp execOp
  have hst := run_storeVar_row (P := Try.prog) w b t 142 (encIn m0) (encIn m) h (by rw [encIn_size]; exact inInfo) (by rw [encIn_size, encIn_size]) (encIn_one m)
  simp only [hx, hy, Instr.storeAt, Instr.sureAddr, Sem.run_bind, Sem.run_pure, Result.andThen_ok, hst]
  exact hK _ _ hk

theorem results_in {fn : Func} {p : Tmp} (hf : fn.results = #[.cell p 142]) (tmps : Array Value) (w : World) (b : Nat) (m : Nat → Bool) (hp : tmps.getD p undef = .pointer (some ⟨b, 0, none⟩)) (h : InBlk w b m) :
    (results fn tmps).run Try.prog w = .ok (.agg (encIn m)) w := by
  obtain ⟨t, h⟩ := h
  obtain ⟨e, he⟩ := inUnder
  exact results_cell_row hf tmps w b t (encIn m) (0, 0) _ hp h he rfl (by rw [encIn_size]; exact inInfo)

theorem zeroIn : encIn (fun _ => false) = #[.bool false, .bool false, .bool false, .bool false, .bool false, .bool false, .bool false, .bool false, .bool false, .bool false, .bool false, .bool false, .bool false, .bool false, .bool false, .bool false] := rfl

def andM (m n : Nat → Bool) : Nat → Bool := fun i => m i && n i
def orM (m n : Nat → Bool) : Nat → Bool := fun i => m i || n i
def betM (lo hi : Int) : Nat → Bool := fun i => decide (lo ≤ i ∧ i ≤ hi)

theorem betM_step {l k : Nat} (h : l ≤ k) (i : Nat) : upd (betM l ((k : Int) - 1)) k true i = betM l (((k + 1 : Nat) : Int) - 1) i := by
  unfold upd betM
  by_cases e : i = k
  · subst e; rw [if_pos rfl]; symm; exact decide_eq_true (by omega)
  · rw [if_neg e]; exact decide_eq_decide.2 (by omega)

set_option maxRecDepth 10000 in
set_option maxHeartbeats 400000 in
theorem between_any {lo hi : Int} {w : World} (h1 : 0 ≤ lo) (h2 : lo ≤ 100) (h3 : hi ≤ 15) (h4 : -100 ≤ hi) :
    Calls Try.prog 120 #[.int .i64 lo, .int .i64 hi] w fun e w' => e = .returned (.agg (encIn (betM lo hi))) ∧ Below w.heap.size w w' := by
  obtain ⟨l, rfl⟩ := Int.eq_ofNat_of_zero_le h1
  go_enter Try.func120, Try.ntmps120
  go_wp2
  go_loopw [6] (fun i wr => ∃ k : Nat, l ≤ k ∧ (k ≤ hi + 1 ∨ k = l) ∧ i = .int .i64 k ∧ InBlk wr w.heap.size (fun _ => false) ∧ InBlk wr (w.heap.size + 1) (betM l (k - 1)) ∧ Below w.heap.size w wr) (fun i _ => (hi + 1 - intOf i).toNat)
  case atStart =>
    refine ⟨l, by omega, by omega, rfl, ?_, ?_, ((Below.refl _ _).alloc (Nat.le_refl _) _).alloc (by simp) _⟩
    · exact InBlk.alloc (InBlk.new w (fun _ => false) _) _
    · have := InBlk.new (w.alloc (.cells (encIn (fun _ => false)) 142)) (fun _ => false) 142
      rw [World.size_alloc] at this
      exact this.congr (fun i _ => by simp [betM]; omega)
  case round =>
    obtain ⟨k, hk1, hk, rfl, hA, hB, hb⟩ := hrel
    by_cases hlt : (k : Int) ≤ hi
    · have hc := hB.cell (i := k) (by omega)
      have hf := hB.frozen k
      go_wp2
      go_roundw
      case rel =>
        exact ⟨k + 1, by omega, by omega, by go_num, hA.other (by simp) _, (hB.set (by omega) true).congr (fun i _ => betM_step hk1 i), hb.setCell (by simp) _⟩
      case measure => simp [intOf]; omega
    · go_wp2_with (first | (refine wpList_load_in _ _ rfl hB ?_) | (refine wpList_store_in _ _ _ rfl rfl hA ?_))
      refine bodyPost_ret (v := .agg (encIn (betM l (k - 1)))) (results_in rfl _ _ _ _ rfl (hA.row _)) rfl ⟨?_, below_row hb (Nat.le_refl _) _⟩
      congr 2
      exact encIn_congr (fun i _ => by unfold betM; exact decide_eq_decide.2 (by omega))

def mixM (k : Nat) (f g : Nat → Bool) : Nat → Bool := fun i => if i < k then f i else g i
theorem mixM_zero (f g : Nat → Bool) (i : Nat) : mixM 0 f g i = g i := by simp [mixM]
theorem mixM_at (f g : Nat → Bool) (k : Nat) : mixM k f g k = g k := by simp [mixM]
theorem mixM_full {f g : Nat → Bool} {k i : Nat} (h : i < k) : mixM k f g i = f i := by simp [mixM, h]
theorem mixM_step {f g : Nat → Bool} {k : Nat} {v : Bool} (hv : v = f k) (i : Nat) : upd (mixM k f g) k v i = mixM (k + 1) f g i := by
  unfold upd mixM
  by_cases e : i = k
  · subst e; simp [hv]
  · rw [if_neg e]
    by_cases h : i < k
    · rw [if_pos h, if_pos (by omega)]
    · rw [if_neg h, if_neg (by omega)]

set_option maxRecDepth 10000 in
set_option maxHeartbeats 400000 in
theorem and_any {m n : Nat → Bool} {w : World} :
    Calls Try.prog 119 #[.agg (encIn m), .agg (encIn n)] w fun e w' => e = .returned (.agg (encIn (andM m n))) ∧ Below w.heap.size w w' := by
  go_enter Try.func119, Try.ntmps119
  go_wp2
  go_loopw [6] (fun i wr => ∃ k : Nat, k ≤ 16 ∧ i = .int .i64 k ∧ InBlk wr w.heap.size (mixM k (andM m n) m) ∧ InBlk wr (w.heap.size + 1) n ∧ InBlk wr (w.heap.size + 1 + 1) (fun _ => false) ∧ Below w.heap.size w wr) (fun i _ => (16 - intOf i).toNat)
  case atStart =>
    refine ⟨0, by omega, rfl, ?_, ?_, ?_, (((Below.refl _ _).alloc (Nat.le_refl _) _).alloc (by simp) _).alloc (by simp; omega) _⟩
    · exact (((InBlk.new w m _).alloc _).alloc _).congr (fun i _ => (mixM_zero _ _ i).symm)
    · have := (InBlk.new (w.alloc (.cells (encIn m) 142)) n 142).alloc (.cells (encIn (fun _ => false)) 142)
      rw [World.size_alloc] at this
      exact this
    · have := InBlk.new ((w.alloc (.cells (encIn m) 142)).alloc (.cells (encIn n) 142)) (fun _ => false) 142
      simp only [World.size_alloc] at this
      exact this
  case round =>
    obtain ⟨k, hk, rfl, hA, hB, hC, hb⟩ := hrel
    by_cases hlt : k < 16
    · have hc := hA.cell (i := k) (by omega)
      rw [mixM_at] at hc
      have hf := hA.frozen k
      have hc2 := hB.cell (i := k) (by omega)
      cases hm : m k
      all_goals
        rw [hm] at hc
        have hm' := Lib.hid hm
        clear hm
        go_wp2
        go_roundw
        case rel =>
          exact ⟨k + 1, by omega, by go_num, (hA.set hlt _).congr (fun i _ => mixM_step (by simp [andM, hm'.out]) i), hB.other (by simp) _, hC.other (by simp; omega) _, hb.setCell (by simp) _⟩
        case measure => simp [intOf]; omega
    · go_wp2_with (first | (refine wpList_load_in _ _ rfl hA ?_) | (refine wpList_store_in _ _ _ rfl rfl hC ?_))
      obtain rfl : k = 16 := by omega
      refine bodyPost_ret (v := .agg (encIn (mixM 16 (andM m n) m))) (results_in rfl _ _ _ _ rfl (hC.row _)) rfl ⟨?_, below_row hb (by omega) _⟩
      rw [encIn_congr (fun i hi => mixM_full hi)]

set_option maxRecDepth 10000 in
set_option maxHeartbeats 400000 in
theorem or_any {m n : Nat → Bool} {w : World} :
    Calls Try.prog 106 #[.agg (encIn m), .agg (encIn n)] w fun e w' => e = .returned (.agg (encIn (orM m n))) ∧ Below w.heap.size w w' := by
  go_enter Try.func106, Try.ntmps106
  go_wp2
  go_loopw [6] (fun i wr => ∃ k : Nat, k ≤ 16 ∧ i = .int .i64 k ∧ InBlk wr w.heap.size (mixM k (orM m n) m) ∧ InBlk wr (w.heap.size + 1) n ∧ InBlk wr (w.heap.size + 1 + 1) (fun _ => false) ∧ Below w.heap.size w wr) (fun i _ => (16 - intOf i).toNat)
  case atStart =>
    refine ⟨0, by omega, rfl, ?_, ?_, ?_, (((Below.refl _ _).alloc (Nat.le_refl _) _).alloc (by simp) _).alloc (by simp; omega) _⟩
    · exact (((InBlk.new w m _).alloc _).alloc _).congr (fun i _ => (mixM_zero _ _ i).symm)
    · have := (InBlk.new (w.alloc (.cells (encIn m) 142)) n 142).alloc (.cells (encIn (fun _ => false)) 142)
      rw [World.size_alloc] at this
      exact this
    · have := InBlk.new ((w.alloc (.cells (encIn m) 142)).alloc (.cells (encIn n) 142)) (fun _ => false) 142
      simp only [World.size_alloc] at this
      exact this
  case round =>
    obtain ⟨k, hk, rfl, hA, hB, hC, hb⟩ := hrel
    by_cases hlt : k < 16
    · have hc := hA.cell (i := k) (by omega)
      rw [mixM_at] at hc
      have hf := hA.frozen k
      have hc2 := hB.cell (i := k) (by omega)
      cases hm : m k
      all_goals
        rw [hm] at hc
        have hm' := Lib.hid hm
        clear hm
        go_wp2
        go_roundw
        case rel =>
          exact ⟨k + 1, by omega, by go_num, (hA.set hlt _).congr (fun i _ => mixM_step (by simp [orM, hm'.out]) i), hB.other (by simp) _, hC.other (by simp; omega) _, hb.setCell (by simp) _⟩
        case measure => simp [intOf]; omega
    · go_wp2_with (first | (refine wpList_load_in _ _ rfl hA ?_) | (refine wpList_store_in _ _ _ rfl rfl hC ?_))
      obtain rfl : k = 16 := by omega
      refine bodyPost_ret (v := .agg (encIn (mixM 16 (orM m n) m))) (results_in rfl _ _ _ _ rfl (hC.row _)) rfl ⟨?_, below_row hb (by omega) _⟩
      rw [encIn_congr (fun i hi => mixM_full hi)]

end Go.Proofs.Ytbbolibkheelmaa
namespace Go.Proofs.Ytbbolibkheelmaa
open Go.RowKit

def Knot (k : Int × Int) : Prop := 0 ≤ k.1 ∧ k.1 ≤ k.2 ∧ k.2 ≤ 15
def knotM (k : Int × Int) : Nat → Bool := betM k.1 k.2

set_option maxRecDepth 10000 in
set_option maxHeartbeats 400000 in
theorem kinches_any {k : Int × Int} {w : World} (hk : Knot k) :
    Calls Try.prog 128 #[.agg #[.int .i64 k.1, .int .i64 k.2]] w fun e w' => e = .returned (.agg (encIn (knotM k))) ∧ Below w.heap.size w w' := by
  obtain ⟨h1, h2, h3⟩ := hk
  go_enter Try.func128, Try.ntmps128
  have hC := InBlk.new (w.alloc (.cells #[.int .i64 k.1, .int .i64 k.2] 156)) (fun _ => false) 142
  rw [World.size_alloc] at hC
  go_wp2_with (first | (go_at_call 120; refine (between_any (by omega) (by omega) (by omega) (by omega)).mono ?_; rintro e w' ⟨rfl, hb⟩; have hC' := hC.keep hb (by simp)) | (refine wpList_store_in _ _ _ rfl rfl hC' ?_))
  have hb' : Below w.heap.size w w' := (((Below.refl _ _).alloc (Nat.le_refl _) _).alloc (by simp) _).trans (hb.mono (by simp; omega))
  exact bodyPost_ret (v := .agg (encIn (knotM k))) (results_in rfl _ _ _ _ rfl (hC'.row _)) rfl ⟨rfl, below_row hb' (by omega) _⟩

theorem boolInfo : (Try.prog.info? 4).map (·.size) = some 1 := by kernel_rfl
theorem boolCells : Try.prog.cellsOf 4 = 1 := by kernel_rfl
theorem boolUnder : Try.prog.underlying 4 = some .bool := by kernel_rfl

def eqIn (m n : Nat → Bool) : Bool := allB 16 fun i => m i == n i

theorem boolPlain : Try.prog.plainKey 4 = true := by kernel_rfl
theorem run_partIn (m : Nat → Bool) {i : Nat} (hi : i < 16) (w : World) : (part 4 (encIn m) (i * 1)).run Try.prog w = .ok (.bool (m i)) w :=
  run_part_plain w boolPlain (by rw [Nat.mul_one]; exact encIn_get m hi)

theorem run_eqItems_in (d : Nat) (m n : Nat → Bool) (w : World) : ∀ is : List Nat, (∀ i ∈ is, i < 16) →
    (Op.eqItems (d + 1) 4 1 (encIn m) (encIn n) is).run Try.prog w = .ok (is.all fun i => m i == n i) w
  | [], _ => by simp [Op.eqItems]
  | i :: is, h => by
    have hi := h i (by simp)
    have ih := run_eqItems_in d m n w is (fun j hj => h j (by simp [hj]))
    simp only [Op.eqItems, Sem.run_bind, run_partIn _ hi, Result.andThen_ok, run_equalIn_bool w d 4 _ _ boolUnder]
    cases hm : (m i == n i)
    · simp [hm]
    · simp [hm, ih]

theorem range_all (p : Nat → Bool) (n : Nat) : (List.range n).all p = allB n p := by
  induction n with
  | zero => rfl
  | succ n ih => rw [List.range_succ, List.all_append, ih]; simp [allB]

@[go_sem] theorem run_equalIn_in (m n : Nat → Bool) (w : World) : (Op.equalIn 10000 142 (.agg (encIn m)) (.agg (encIn n))).run Try.prog w = .ok (eqIn m n) w := by
  cases hb : Try.prog.info? 4 with
  | none => have := boolInfo; rw [hb] at this; cases this
  | some i =>
    rw [run_equalIn_array w 9999 (encIn m) (encIn n) inUnder0 hb, boolCells, run_eqItems_in 9998 m n w _ (fun i hi => List.mem_range.1 hi), range_all]
    rfl
@[go_sem] theorem run_equalIn_zero (m : Nat → Bool) (w : World) : (Op.equalIn 10000 142 (.agg (encIn m)) (.agg #[.bool false, .bool false, .bool false, .bool false, .bool false, .bool false, .bool false, .bool false, .bool false, .bool false, .bool false, .bool false, .bool false, .bool false, .bool false, .bool false])).run Try.prog w = .ok (eqIn m fun _ => false) w :=
  run_equalIn_in m (fun _ => false) w

theorem eqIn_zero (m : Nat → Bool) : eqIn m (fun _ => false) = !anyB 16 m := by
  have h : ∀ n, (allB n fun i => m i == false) = !anyB n m := by
    intro n
    induction n with
    | zero => rfl
    | succ n ih => simp only [allB, anyB, ih]; cases anyB n m <;> cases m n <;> rfl
  exact h 16

set_option maxRecDepth 10000 in
set_option maxHeartbeats 1000000 in
theorem canHit_any {k : Int × Int} {m : Nat → Bool} {w : World} (hk : Knot k) :
    Calls Try.prog 117 #[.agg #[.int .i64 k.1, .int .i64 k.2], .agg (encIn m)] w fun e w' => e = .returned (.bool (anyB 16 (andM m (knotM k)))) ∧ Below w.heap.size w w' := by
  go_enter Try.func117, Try.ntmps117
  go_wp2
  obtain ⟨W0, hW0⟩ : ∃ W0, W0 = (w.alloc (.cells #[.int .i64 k.1, .int .i64 k.2] 156)).alloc (.cells (encIn m) 142) := ⟨_, rfl⟩
  have hb0 : Below w.heap.size w W0 := by rw [hW0]; exact ((Below.refl _ _).alloc (Nat.le_refl _) _).alloc (by simp) _
  have hin : InBlk W0 (w.heap.size + 1) m := by rw [hW0]; exact .of_row (rowOf_at _ _ _ _ (by simp))
  have hc0 : W0.cell? ⟨w.heap.size, 0, none⟩ = some (.int .i64 k.1) := by rw [hW0]; simp [World.cell?_alloc_old]
  have hc1 : W0.cell? ⟨w.heap.size, 1, none⟩ = some (.int .i64 k.2) := by rw [hW0]; simp [World.cell?_alloc_old]
  have hsz : w.heap.size + 1 < W0.heap.size := by rw [hW0]; simp
  rw [← hW0]
  clear hW0
  have hrg := hin.range
  have hrg1 : ∀ w1, Below W0.heap.size W0 w1 → w1.rangeAt (w.heap.size + 1) 0 (encL m) := fun w1 h => (hin.keep h hsz).range
  have hu := inUnder0
  have hi : (Try.prog.info? 142).map (·.size) = some (encL m).length := by rw [encL_length]; exact inInfo
  go_region_held3 (fun w' => w'.rangeAt (w.heap.size + 1) 0 (encL m) ∧ w'.cell? ⟨w.heap.size, 0, none⟩ = some (.int .i64 k.1) ∧ w'.cell? ⟨w.heap.size, 1, none⟩ = some (.int .i64 k.2) ∧ Below W0.heap.size W0 w')
    (first | exact ⟨hrg, hc0, hc1, Below.refl _ _⟩ | exact ⟨hrg, hc0, hc1, (Below.refl _ _).drew⟩ | (have hby : Below W0.heap.size W0 w' := keep4 (by assumption) hb; exact ⟨hrg1 _ hby, (bcells hby _ _ (by omega)).trans hc0, (bcells hby _ _ (by omega)).trans hc1, hby⟩))
    (first | (go_at_call 128; refine (kinches_any hk).mono ?_; rintro e w' ⟨rfl, hb⟩) | (go_at_call 119; refine and_any.mono ?_; rintro e w' ⟨rfl, hb⟩))
  go_wp2
  go_ret
  have hby : Below W0.heap.size W0 w' := last4 (by assumption)
  exact ⟨ret_bool (by rw [eqIn_zero, Bool.not_not]), hb0.trans (hby.mono (by omega))⟩

set_option maxRecDepth 10000 in
set_option maxHeartbeats 1000000 in
theorem mustHit_any {k : Int × Int} {m : Nat → Bool} {w : World} (hk : Knot k) :
    Calls Try.prog 116 #[.agg #[.int .i64 k.1, .int .i64 k.2], .agg (encIn m)] w fun e w' => e = .returned (.bool (eqIn (andM m (knotM k)) (knotM k))) ∧ Below w.heap.size w w' := by
  go_enter Try.func116, Try.ntmps116
  go_wp2
  obtain ⟨W0, hW0⟩ : ∃ W0, W0 = (w.alloc (.cells #[.int .i64 k.1, .int .i64 k.2] 156)).alloc (.cells (encIn m) 142) := ⟨_, rfl⟩
  have hb0 : Below w.heap.size w W0 := by rw [hW0]; exact ((Below.refl _ _).alloc (Nat.le_refl _) _).alloc (by simp) _
  have hin : InBlk W0 (w.heap.size + 1) m := by rw [hW0]; exact .of_row (rowOf_at _ _ _ _ (by simp))
  have hc0 : W0.cell? ⟨w.heap.size, 0, none⟩ = some (.int .i64 k.1) := by rw [hW0]; simp [World.cell?_alloc_old]
  have hc1 : W0.cell? ⟨w.heap.size, 1, none⟩ = some (.int .i64 k.2) := by rw [hW0]; simp [World.cell?_alloc_old]
  have hsz : w.heap.size + 1 < W0.heap.size := by rw [hW0]; simp
  rw [← hW0]
  clear hW0
  have hrg := hin.range
  have hrg1 : ∀ w1, Below W0.heap.size W0 w1 → w1.rangeAt (w.heap.size + 1) 0 (encL m) := fun w1 h => (hin.keep h hsz).range
  have hu := inUnder0
  have hi : (Try.prog.info? 142).map (·.size) = some (encL m).length := by rw [encL_length]; exact inInfo
  go_region_held3 (fun w' => w'.rangeAt (w.heap.size + 1) 0 (encL m) ∧ w'.cell? ⟨w.heap.size, 0, none⟩ = some (.int .i64 k.1) ∧ w'.cell? ⟨w.heap.size, 1, none⟩ = some (.int .i64 k.2) ∧ Below W0.heap.size W0 w')
    (first | exact ⟨hrg, hc0, hc1, Below.refl _ _⟩ | exact ⟨hrg, hc0, hc1, (Below.refl _ _).drew⟩ | (have hby : Below W0.heap.size W0 w' := keep4 (by assumption) hb; exact ⟨hrg1 _ hby, (bcells hby _ _ (by omega)).trans hc0, (bcells hby _ _ (by omega)).trans hc1, hby⟩))
    (first | (go_at_call 128; refine (kinches_any hk).mono ?_; rintro e w' ⟨rfl, hb⟩) | (go_at_call 119; refine and_any.mono ?_; rintro e w' ⟨rfl, hb⟩))
  go_wp2
  go_ret
  have hby : Below W0.heap.size W0 w' := last4 (by assumption)
  exact ⟨rfl, hb0.trans (hby.mono (by omega))⟩

end Go.Proofs.Ytbbolibkheelmaa
namespace Go.Proofs.Ytbbolibkheelmaa
open Go.RowKit

set_option maxHeartbeats 1000000 in
theorem validBook_any {B : Nat} {pa sa : Option Addr} {pn pc sn sc : Nat} {x : Book} {w : World} (hB : B ≤ w.heap.size) (hx : BookAt B w pa pn sa sn x) :
    Calls Try.prog 67 #[.agg #[.slice pa pn pc, .slice sa sn sc]] w fun e w' => e = .returned (.bool (bookOk x)) ∧ Below w.heap.size w w' := by
  have hx' := Lib.hid hx
  have hL1 := hx.planks.small
  have hL2 := hx.parts.small
  have hlen1 := Lib.hid hx.planks.len
  have hlen2 := Lib.hid hx.parts.len
  clear hx
  by_cases h1 : 1 ≤ pn ∧ pn ≤ 3
  case neg =>
    go_enter Try.func67, Try.ntmps67
    go_wp2_with (go_at_call 100; refine (within_no (by omega) _).mono ?_; rintro e w' ⟨rfl, rfl⟩)
    go_ret
    exact ⟨ret_bool (by unfold bookOk; rw [hlen1.out]; simp; omega), (Below.refl _ _).alloc (Nat.le_refl _) _⟩
  obtain ⟨h1, h1'⟩ := h1
  by_cases h2 : 1 ≤ sn ∧ sn ≤ 5
  case neg =>
    go_enter Try.func67, Try.ntmps67
    go_wp2_with (first | (go_at_call 100; refine (within_yes (by omega) (by omega) _).mono ?_; rintro e w' ⟨rfl, rfl⟩) | (go_at_call 100; refine (within_no (by omega) _).mono ?_; rintro e w' ⟨rfl, rfl⟩))
    go_ret
    exact ⟨ret_bool (by unfold bookOk; rw [hlen2.out]; simp; omega), (Below.refl _ _).alloc (Nat.le_refl _) _⟩
  obtain ⟨h2, h2'⟩ := h2
  go_enter Try.func67, Try.ntmps67
  go_wp2_with (go_at_call 100; refine (within_yes (by omega) (by omega) _).mono ?_; rintro e w' ⟨rfl, rfl⟩)
  obtain ⟨W0, hW0⟩ : ∃ W0, W0 = w.alloc (.cells #[.slice pa pn pc, .slice sa sn sc] 25) := ⟨_, rfl⟩
  have hb0 : Below w.heap.size w W0 := by rw [hW0]; exact (Below.refl _ _).alloc (Nat.le_refl _) _
  have hsz0 : W0.heap.size = w.heap.size + 1 := by rw [hW0]; simp
  have hbox1 : W0.cell? ⟨w.heap.size, 1, none⟩ = some (.slice sa sn sc) := by rw [hW0]; simp
  have hsz0' := Lib.hid hsz0
  clear hsz0
  rw [← hW0]
  clear hW0
  go_loopw [22] (fun i wr => ∃ k : Nat, k ≤ pn ∧ i = .int .i64 k ∧ Hid (allB k (fun i => woodOk (gw x.planks i)) = true) ∧ Below W0.heap.size W0 wr) (fun i _ => pn - (intOf i).toNat)
  case atStart => exact ⟨0, by omega, rfl, rfl, Below.refl _ _⟩
  case round =>
    obtain ⟨k, hk, rfl, hall, hb⟩ := hrel
    have hsz : w.heap.size < wr.heap.size := by have := hb.size; rw [hsz0'.out] at this; omega
    have hbox : wr.cell? ⟨w.heap.size, 1, none⟩ = some (.slice sa sn sc) := by rw [bcells hb _ _ (by rw [hsz0'.out]; omega)]; exact hbox1
    have hB0 : Below w.heap.size w wr := hb0.trans (hb.mono (by rw [hsz0'.out]; omega))
    have hkeep : ∀ b o, b < B → wr.cell? ⟨b, o, none⟩ = w.cell? ⟨b, o, none⟩ := fun b o h => bcells hB0 b o (by omega)
    by_cases hlt : k < pn
    · obtain ⟨b, o, rfl, hbB, hc⟩ := hx'.out.planks.get _ hlt
      obtain ⟨v, hv, hc1, hc2, hi1⟩ := hc k hlt
      clear hc
      rw [← hkeep _ _ hbB] at hc1 hc2
      have hv' := hv.keep (Nat.le_refl _) hkeep
      obtain ⟨ka, kn, kc, rfl, _⟩ := hv
      clear hkeep
      go_wp2_with (go_at_call 101; refine (validWood_any (B := B) (by simp; omega) (hv'.keep (Nat.le_refl _) (fun b o h => cell_alloc_lt _ (by omega))) hi1).mono ?_; rintro e w' ⟨rfl, hb1⟩)
      · have hbad : woodOk (gw x.planks k) = false := by simpa using (show (!woodOk (gw x.planks k)) = true by assumption)
        go_ret
        exact ⟨ret_bool (bookOk_bad1 (by rw [hlen1.out]; exact hlt) hbad).symm, hB0.trans (((Below.refl _ _).alloc (Nat.le_refl _) _).trans (hb1.mono (by simp)) |>.mono (by omega))⟩
      · have hgood : woodOk (gw x.planks k) = true := by simpa using (show (!woodOk (gw x.planks k)) = false by assumption)
        have hb2 : Below W0.heap.size W0 w' := hb.trans ((((Below.refl _ _).alloc (Nat.le_refl _) _).trans (hb1.mono (by simp))).mono hb.size)
        go_roundw
        case rel => exact ⟨k + 1, by omega, by go_num, allB_succ hall.out hgood, hb2⟩
        case measure => simp [intOf]; omega
    · obtain rfl : k = pn := by omega
      go_wp2
      obtain ⟨W1, rfl⟩ : ∃ W1 : World, W1 = wr := ⟨_, rfl⟩
      go_loopw [33] (fun i wr => ∃ k : Nat, k ≤ sn ∧ i = .int .i64 k ∧ Hid (allB k (fun i => shapeOk (gs x.parts i)) = true) ∧ Below W1.heap.size W1 wr) (fun i _ => sn - (intOf i).toNat)
      case atStart => exact ⟨0, by omega, rfl, rfl, Below.refl _ _⟩
      case round =>
        obtain ⟨j, hj, rfl, hall2, hb'⟩ := hrel
        have hB1 : Below w.heap.size w wr := hB0.trans (hb'.mono (by omega))
        have hszr : w.heap.size < wr.heap.size := by have := hb'.size; omega
        have hkeep : ∀ b o, b < B → wr.cell? ⟨b, o, none⟩ = w.cell? ⟨b, o, none⟩ := fun b o h => bcells hB1 b o (by omega)
        by_cases hlt2 : j < sn
        · obtain ⟨b, o, rfl, hbB, hc⟩ := hx'.out.parts.get _ hlt2
          obtain ⟨v, hv, hc1, hc2, hc3, hi1⟩ := hc j hlt2
          clear hc
          rw [← hkeep _ _ hbB] at hc1 hc2 hc3
          have hv' := hv.keep (Nat.le_refl _) hkeep
          obtain ⟨ka, kn, kc, rfl, _⟩ := hv
          clear hkeep
          go_wp2_with (go_at_call 102; refine (validShape_any (B := B) (by simp; omega) (hv'.keep (Nat.le_refl _) (fun b o h => cell_alloc_lt _ (by omega))) hi1).mono ?_; rintro e w' ⟨rfl, hb1⟩)
          · have hbad : shapeOk (gs x.parts j) = false := by simpa using (show (!shapeOk (gs x.parts j)) = true by assumption)
            go_ret
            exact ⟨ret_bool (bookOk_bad2 (by rw [hlen2.out]; exact hlt2) hbad).symm, hB1.trans (((Below.refl _ _).alloc (Nat.le_refl _) _).trans (hb1.mono (by simp)) |>.mono (by omega))⟩
          · have hgood : shapeOk (gs x.parts j) = true := by simpa using (show (!shapeOk (gs x.parts j)) = false by assumption)
            have hb2 : Below W1.heap.size W1 w' := hb'.trans ((((Below.refl _ _).alloc (Nat.le_refl _) _).trans (hb1.mono (by simp))).mono hb'.size)
            go_roundw
            case rel => exact ⟨j + 1, by omega, by go_num, allB_succ hall2.out hgood, hb2⟩
            case measure => simp [intOf]; omega
        · obtain rfl : j = sn := by omega
          go_wp2
          go_ret
          have e1 := hlen1.out
          have e2 := hlen2.out
          exact ⟨ret_bool (bookOk_good (by omega) (by omega) (by omega) (by omega) (by rw [e1]; exact hall.out) (by rw [e2]; exact hall2.out)).symm, hB1⟩

def errOf (ok : Bool) : Int := if ok then 0 else 10

set_option maxHeartbeats 400000 in
theorem Check_any {B : Nat} {pa sa : Option Addr} {pn pc sn sc : Nat} {x : Book} {w : World} (hB : B ≤ w.heap.size) (hx : BookAt B w pa pn sa sn x) :
    Calls Try.prog 18 #[.agg #[.slice pa pn pc, .slice sa sn sc]] w fun e w' => e = .returned (.int .i64 (errOf (bookOk x))) ∧ Below w.heap.size w w' := by
  go_enter Try.func18, Try.ntmps18
  have hx' := Lib.hid (hx.keep (w' := w.alloc (.cells #[.slice pa pn pc, .slice sa sn sc] 25)) (Nat.le_refl _) (fun b o h => cell_alloc_lt _ (by omega)))
  clear hx
  go_wp2_with (go_at_call 67; refine (validBook_any (B := B) (by simp; omega) hx'.out).mono ?_; rintro e w' ⟨rfl, hb1⟩)
  all_goals
    go_ret
    refine ⟨ret_int ?_, ((Below.refl _ _).alloc (Nat.le_refl _) _).trans (hb1.mono (by simp))⟩
    simp_all [errOf]

set_option maxHeartbeats 400000 in
theorem isWood_any {a : Option Addr} {n c : Nat} (i : Int) (w : World) (_hn : n ≤ 140737488355328) :
    Calls Try.prog 93 #[.slice a n c, .int .i64 i] w fun e w' => e = .returned (.bool (decide (0 ≤ i ∧ i < n))) ∧ w = w' := by
  go_enter Try.func93, Try.ntmps93
  go_wp2
  all_goals
    go_ret
    exact ⟨ret_bool (by simp; omega), rfl⟩
set_option maxHeartbeats 400000 in
theorem isShape_any {a : Option Addr} {n c : Nat} (i : Int) (w : World) (_hn : n ≤ 140737488355328) :
    Calls Try.prog 94 #[.slice a n c, .int .i64 i] w fun e w' => e = .returned (.bool (decide (0 ≤ i ∧ i < n))) ∧ w = w' := by
  go_enter Try.func94, Try.ntmps94
  go_wp2
  all_goals
    go_ret
    exact ⟨ret_bool (by simp; omega), rfl⟩

end Go.Proofs.Ytbbolibkheelmaa
namespace Go.Proofs.Ytbbolibkheelmaa
open Go.RowKit

/-- What is known of a board's value, its answers apart. -/
structure BoardV (B : Nat) (w : World) (kv : Value) (sa : Option Addr) (sn : Nat) (x : Wood) (ps : List Shape) : Prop where
  knots : KnotsV B w kv x
  parts : ShapesAt B w sa sn ps

theorem InBlk.there {w : World} {b : Nat} {m : Nat → Bool} (h : InBlk w b m) : w.there b 0 16 := fun j hj => by
  rw [Nat.zero_add]; exact ⟨by rw [h.cell hj]; rfl, h.frozen j⟩

set_option maxRecDepth 10000 in
set_option maxHeartbeats 1000000 in
theorem under_any {B : Nat} {long : Int} {kv av : Value} {sa : Option Addr} {sn sc : Nat} {ps : List Shape} {p : Nat} {t : Int} {w : World} (hB : B ≤ w.heap.size) (hs : ShapesAt B w sa sn ps)
    (hp : p < sn) (h1 : 0 ≤ t) (h2 : 1 ≤ (gs ps p).long) (h3 : t + (gs ps p).long ≤ 16) :
    Calls Try.prog 107 #[.agg #[.int .i64 long, kv, .slice sa sn sc, av], .agg #[.int .i64 p, .int .i64 t]] w
      fun e w' => e = .returned (.agg (encIn (betM t (t + (gs ps p).long - 1)))) ∧ Below w.heap.size w w' := by
  obtain ⟨b, o, rfl, hbB, hc⟩ := hs.get _ hp
  obtain ⟨v, _, hc1, _, _, hi1⟩ := hc p hp
  clear hc hs
  go_enter Try.func107, Try.ntmps107
  go_wp2
  obtain ⟨W0, hW0⟩ : ∃ W0, W0 = ((w.alloc (.cells #[.int .i64 long, kv, .slice (some ⟨b, o, none⟩) sn sc, av] 86)).alloc (.cells #[.int .i64 p, .int .i64 t] 89)).alloc (.cells (encIn fun _ => false) 142) := ⟨_, rfl⟩
  have hb0 : Below w.heap.size w W0 := by rw [hW0]; exact (((Below.refl _ _).alloc (Nat.le_refl _) _).alloc (by simp) _).alloc (by simp; omega) _
  have hin : InBlk W0 (w.heap.size + 1 + 1) (fun _ => false) := by rw [hW0]; exact .of_row (rowOf_at _ _ _ _ (by simp))
  have hc2 : W0.cell? ⟨w.heap.size, 2, none⟩ = some (.slice (some ⟨b, o, none⟩) sn sc) := by rw [hW0]; go_simp
  have hp0 : W0.cell? ⟨w.heap.size + 1, 0, none⟩ = some (.int .i64 p) := by rw [hW0]; go_simp
  have hp1 : W0.cell? ⟨w.heap.size + 1, 1, none⟩ = some (.int .i64 t) := by rw [hW0]; go_simp
  have hc1' : W0.cell? ⟨b, o + p * 3, none⟩ = some (.int .i64 (gs ps p).long) := by rw [bcells hb0 _ _ (by omega)]; exact hc1
  have hsz : w.heap.size + 1 + 1 < W0.heap.size := by rw [hW0]; simp
  rw [zeroIn] at hW0
  rw [← hW0]
  clear hW0 hc1
  have hu := inUnder0
  have hi := inInfo
  unfold I64 at hi1
  have e1 : IntKind.i64.wrap (t + (gs ps p).long) = t + (gs ps p).long := IntWalk.i64_in _ (by omega)
  have e2 : IntKind.i64.wrap (t + (gs ps p).long - 1) = t + (gs ps p).long - 1 := IntWalk.i64_in _ (by omega)
  have hrow : ∀ w1, Below W0.heap.size W0 w1 → rowOf w1 (w.heap.size + 1 + 1) = encIn (fun _ => false) := fun w1 h => (hin.keep h hsz).row_eq
  go_still_tail 13, (by kernel_rfl)
  change wpList _ _ _ _ _ W0.drew
  go_wp2_with (go_at_call 120; refine (between_any (by omega) (by omega) (by omega) (by omega)).mono ?_; rintro e w' ⟨rfl, hb⟩; have hb' : Below W0.heap.size W0 w' := ⟨hb.os, hb.tape, hb.output, hb.size, hb.block⟩)
  exact bodyPost_ret (v := .agg (encIn (betM t (t + (gs ps p).long - 1)))) (results_in rfl _ _ _ _ rfl ((hin.keep hb' hsz).row _)) rfl ⟨rfl, below_row (hb0.trans (hb'.mono (by omega))) (by omega) _⟩

/-- Where the joints of a part are, as it lies at t; turned. -/
def jointsM (x : Shape) (n : Nat) (t : Int) : Nat → Bool := fun i => anyB n fun k => decide ((i : Int) = t + gi x.joints k)
def turnedM (x : Shape) (n : Nat) (t : Int) : Nat → Bool := fun i => anyB n fun k => decide ((i : Int) = t + x.long - 1 - gi x.joints k)

/-- The joints are in the part. -/
def JointsIn (x : Shape) : Prop := ∀ k, k < x.joints.length → 0 ≤ gi x.joints k ∧ gi x.joints k < x.long

theorem upd_any {p : Nat → Nat → Bool} {n j : Nat} (h : ∀ i, p n i = decide (i = j)) (i : Nat) :
    upd (fun i => anyB n fun k => p k i) j true i = anyB (n + 1) fun k => p k i := by
  unfold upd
  simp only [anyB]
  by_cases e : i = j
  · rw [if_pos e, h, decide_eq_true e, Bool.or_true]
  · rw [if_neg e, h, decide_eq_false e, Bool.or_false]

set_option maxRecDepth 10000 in
set_option maxHeartbeats 1000000 in
theorem joints_any {B : Nat} {long : Int} {kv av : Value} {sa : Option Addr} {sn sc : Nat} {ps : List Shape} {p : Nat} {t : Nat} {w : World} (hB : B ≤ w.heap.size) (hs : ShapesAt B w sa sn ps)
    (hp : p < sn) (hJ : JointsIn (gs ps p)) (h3 : t + (gs ps p).long ≤ 16) :
    Calls Try.prog 130 #[.agg #[.int .i64 long, kv, .slice sa sn sc, av], .agg #[.int .i64 p, .int .i64 t]] w
      fun e w' => e = .returned (.agg (encIn (jointsM (gs ps p) (gs ps p).joints.length t))) ∧ Below w.heap.size w w' := by
  obtain ⟨b, o, rfl, hbB, hc⟩ := hs.get _ hp
  obtain ⟨v, hv, hc1, hc2, hc3, hi1⟩ := hc p hp
  obtain ⟨ja, n, jc, rfl, hj⟩ := hv
  have hj' := Lib.hid hj
  have hlen := Lib.hid hj.len
  have hL := hj.small
  clear hc hs hj
  generalize gs ps p = x at *
  have hbs : b < w.heap.size := by omega
  have hbs1 : b < w.heap.size + 1 := by omega
  have hbs2 : b < w.heap.size + 1 + 1 := by omega
  have hbs3 : b < w.heap.size + 1 + 1 + 1 := by omega
  go_enter Try.func130, Try.ntmps130
  go_wp2
  clear hbs hbs1 hbs2 hbs3
  obtain ⟨W0, hW0⟩ : ∃ W0, W0 = (((w.alloc (.cells #[.int .i64 long, kv, .slice (some ⟨b, o, none⟩) sn sc, av] 86)).alloc (.cells #[.int .i64 p, .int .i64 t] 89)).alloc (.cells (encIn fun _ => false) 142)).alloc (.cells (encIn fun _ => false) 142) := ⟨_, rfl⟩
  have hb0 : Below w.heap.size w W0 := by rw [hW0]; exact ((((Below.refl _ _).alloc (Nat.le_refl _) _).alloc (by simp) _).alloc (by simp; omega) _).alloc (by simp; omega) _
  have hres : InBlk W0 (w.heap.size + 1 + 1) (fun _ => false) := by rw [hW0]; exact InBlk.alloc (.of_row (rowOf_at _ _ _ _ (by simp))) _
  have hm : InBlk W0 (w.heap.size + 1 + 1 + 1) (fun _ => false) := by rw [hW0]; exact .of_row (rowOf_at _ _ _ _ (by simp))
  have hp1 : W0.cell? ⟨w.heap.size + 1, 1, none⟩ = some (.int .i64 t) := by rw [hW0]; go_simp
  have hsz : w.heap.size + 1 + 1 + 1 < W0.heap.size := by rw [hW0]; simp
  rw [zeroIn] at hW0
  rw [← hW0]
  clear hW0
  go_loopw [16] (fun i wr => ∃ k : Nat, k ≤ n ∧ i = .int .i64 k ∧ InBlk wr (w.heap.size + 1 + 1 + 1) (jointsM x k t) ∧ InBlk wr (w.heap.size + 1 + 1) (fun _ => false) ∧ Below (w.heap.size + 1 + 1) W0 wr) (fun i _ => n - (intOf i).toNat)
  case atStart => exact ⟨0, by omega, rfl, hm, hres, Below.refl _ _⟩
  case round =>
    obtain ⟨k, hk, rfl, hA, hC, hb⟩ := hrel
    by_cases hlt : k < n
    · obtain ⟨b2, o2, rfl, hbB2, hcc⟩ := hj'.out.get _ hlt
      obtain ⟨hcj, hij⟩ := hcc k hlt
      clear hcc
      have hJk := hJ k (by rw [hlen.out]; exact hlt)
      unfold I64 at hij hi1
      rw [← bcells hb0 _ _ (by omega), ← bcells hb _ _ (by omega)] at hcj
      have hp1' : wr.cell? ⟨w.heap.size + 1, 1, none⟩ = some (.int .i64 t) := (bcells hb _ _ (by omega)).trans hp1
      have hcell := hA.cell (i := (t + gi x.joints k).toNat) (by omega)
      have hfr := hA.frozen (t + gi x.joints k).toNat
      go_wp2
      go_roundw
      case rel =>
        exact ⟨k + 1, by omega, by go_num, (hA.set (by omega) true).congr (fun i _ => upd_any (p := fun k i => decide ((i : Int) = t + gi x.joints k)) (fun i => decide_eq_decide.2 (by omega)) i), hC.other (by simp) _, hb.setCell (by simp) _⟩
      case measure => simp [intOf]; omega
    · obtain rfl : k = n := by omega
      have hrA := hA.row_eq
      have hrC := hC.row_eq
      go_wp2
      rw [hlen.out]
      exact bodyPost_ret (v := .agg (encIn (jointsM x k t))) (results_in rfl _ _ _ _ rfl (hC.row _)) rfl ⟨rfl, below_row (hb0.trans (hb.mono (by omega))) (by omega) _⟩

set_option maxRecDepth 10000 in
set_option maxHeartbeats 1000000 in
theorem turnedJoints_any {B : Nat} {long : Int} {kv av : Value} {sa : Option Addr} {sn sc : Nat} {ps : List Shape} {p : Nat} {t : Nat} {w : World} (hB : B ≤ w.heap.size) (hs : ShapesAt B w sa sn ps)
    (hp : p < sn) (hJ : JointsIn (gs ps p)) (h3 : t + (gs ps p).long ≤ 16) :
    Calls Try.prog 131 #[.agg #[.int .i64 long, kv, .slice sa sn sc, av], .agg #[.int .i64 p, .int .i64 t]] w
      fun e w' => e = .returned (.agg (encIn (turnedM (gs ps p) (gs ps p).joints.length t))) ∧ Below w.heap.size w w' := by
  obtain ⟨b, o, rfl, hbB, hc⟩ := hs.get _ hp
  obtain ⟨v, hv, hc1, hc2, hc3, hi1⟩ := hc p hp
  obtain ⟨ja, n, jc, rfl, hj⟩ := hv
  have hj' := Lib.hid hj
  have hlen := Lib.hid hj.len
  have hL := hj.small
  clear hc hs hj
  generalize gs ps p = x at *
  have hbs : b < w.heap.size := by omega
  have hbs1 : b < w.heap.size + 1 := by omega
  have hbs2 : b < w.heap.size + 1 + 1 := by omega
  have hbs3 : b < w.heap.size + 1 + 1 + 1 := by omega
  go_enter Try.func131, Try.ntmps131
  go_wp2
  clear hbs hbs1 hbs2 hbs3
  obtain ⟨W0, hW0⟩ : ∃ W0, W0 = ((((w.alloc (.cells #[.int .i64 long, kv, .slice (some ⟨b, o, none⟩) sn sc, av] 86)).alloc (.cells #[.int .i64 p, .int .i64 t] 89)).alloc (.cells (encIn fun _ => false) 142)).alloc (.cells #[.int .i64 x.long, .slice ja n jc, .bool x.turns] 50)).alloc (.cells (encIn fun _ => false) 142) := ⟨_, rfl⟩
  have hb0 : Below w.heap.size w W0 := by rw [hW0]; exact (((((Below.refl _ _).alloc (Nat.le_refl _) _).alloc (by simp) _).alloc (by simp; omega) _).alloc (by simp; omega) _).alloc (by simp; omega) _
  have hres : InBlk W0 (w.heap.size + 1 + 1) (fun _ => false) := by rw [hW0]; exact InBlk.alloc (InBlk.alloc (.of_row (rowOf_at _ _ _ _ (by simp))) _) _
  have hm : InBlk W0 (w.heap.size + 1 + 1 + 1 + 1) (fun _ => false) := by rw [hW0]; exact .of_row (rowOf_at _ _ _ _ (by simp))
  have hp1 : W0.cell? ⟨w.heap.size + 1, 1, none⟩ = some (.int .i64 t) := by rw [hW0]; go_simp
  have hs0 : W0.cell? ⟨w.heap.size + 1 + 1 + 1, 0, none⟩ = some (.int .i64 x.long) := by rw [hW0]; go_simp
  have hsz : w.heap.size + 1 + 1 + 1 + 1 < W0.heap.size := by rw [hW0]; simp
  rw [zeroIn] at hW0
  rw [← hW0]
  clear hW0
  go_loopw [18] (fun i wr => ∃ k : Nat, k ≤ n ∧ i = .int .i64 k ∧ InBlk wr (w.heap.size + 1 + 1 + 1 + 1) (turnedM x k t) ∧ InBlk wr (w.heap.size + 1 + 1) (fun _ => false) ∧ (wr.cell? ⟨w.heap.size + 1, 1, none⟩ = some (.int .i64 t) ∧ wr.cell? ⟨w.heap.size + 1 + 1 + 1, 0, none⟩ = some (.int .i64 x.long)) ∧ Below (w.heap.size + 1 + 1) W0 wr) (fun i _ => n - (intOf i).toNat)
  case atStart => exact ⟨0, by omega, rfl, hm, hres, ⟨hp1, hs0⟩, Below.refl _ _⟩
  case round =>
    obtain ⟨k, hk, rfl, hA, hC, ⟨hp1', hs0'⟩, hb⟩ := hrel
    by_cases hlt : k < n
    · obtain ⟨b2, o2, rfl, hbB2, hcc⟩ := hj'.out.get _ hlt
      obtain ⟨hcj, hij⟩ := hcc k hlt
      clear hcc
      have hJk := hJ k (by rw [hlen.out]; exact hlt)
      unfold I64 at hij hi1
      rw [← bcells hb0 _ _ (by omega), ← bcells hb _ _ (by omega)] at hcj
      have hcell := hA.cell (i := (t + x.long - 1 - gi x.joints k).toNat) (by omega)
      have hfr := hA.frozen (t + x.long - 1 - gi x.joints k).toNat
      go_wp2
      go_roundw
      case rel =>
        exact ⟨k + 1, by omega, by go_num, (hA.set (by omega) true).congr (fun i _ => upd_any (p := fun k i => decide ((i : Int) = t + x.long - 1 - gi x.joints k)) (fun i => decide_eq_decide.2 (by omega)) i), hC.other (by simp) _, ⟨by rw [World.cell?_setCell_other _ _ _ _ (by simp)]; exact hp1', by rw [World.cell?_setCell_other _ _ _ _ (by simp)]; exact hs0'⟩, hb.setCell (by simp) _⟩
      case measure => simp [intOf]; omega
    · obtain rfl : k = n := by omega
      have hrA := hA.row_eq
      have hrC := hC.row_eq
      go_wp2
      rw [hlen.out]
      exact bodyPost_ret (v := .agg (encIn (turnedM x k t))) (results_in rfl _ _ _ _ rfl (hC.row _)) rfl ⟨rfl, below_row (hb0.trans (hb.mono (by omega))) (by omega) _⟩

end Go.Proofs.Ytbbolibkheelmaa
namespace Go.Proofs.Ytbbolibkheelmaa
open Go.RowKit Go.Shelf

attribute [local go_sem] Oper.semAt_some

/-- How many places a part has on a plank. -/
def many (long plong : Int) : Nat := (long - plong + 1).toNat

set_option maxRecDepth 10000 in
set_option maxHeartbeats 1000000 in
theorem places_any {B : Nat} {long : Int} {kv av : Value} {sa : Option Addr} {sn sc : Nat} {ps : List Shape} {p : Nat} {w : World} (hB : B ≤ w.heap.size) (hs : ShapesAt B w sa sn ps)
    (hp : p < sn) (h1 : 0 ≤ long) (h2 : long ≤ 16) (h3 : 0 ≤ (gs ps p).long) (h4 : (gs ps p).long ≤ 12) :
    Calls Try.prog 69 #[.agg #[.int .i64 long, kv, .slice sa sn sc, av], .int .i64 p] w
      fun e w' => e = .returned (.func (.func 103) #[] #[.pointer (some ⟨w.heap.size + 1, 0, none⟩), .pointer (some ⟨w.heap.size + 2, 0, none⟩)]) ∧
        w' = (((w.alloc (.cells #[.int .i64 long, kv, .slice sa sn sc, av] 86)).alloc (.cells #[.int .i64 p] 3)).alloc (.cells #[.int .i64 p, .int .i64 (many long (gs ps p).long)] 89)).drew := by
  obtain ⟨b, o, rfl, hbB, hc⟩ := hs.get _ hp
  obtain ⟨v, _, hc1, _, _, hi1⟩ := hc p hp
  clear hc hs
  have hL := hp
  generalize (gs ps p).long = pl at *
  have hbs : b < w.heap.size := by omega
  have hbs1 : b < w.heap.size + 1 := by omega
  have hbs2 : b < w.heap.size + 1 + 1 := by omega
  unfold I64 at hi1
  by_cases hneg : long - pl + 1 < 0
  all_goals
    go_enter Try.func69, Try.ntmps69
    go_wp2
    have e1 : IntKind.i64.wrap (long - pl) = long - pl := IntWalk.i64_in _ (by omega)
    have e2 : IntKind.i64.wrap (long - pl + 1) = long - pl + 1 := IntWalk.i64_in _ (by omega)
    go_region
    go_wp2
    all_goals
      go_ret
      refine ⟨rfl, ?_⟩
      first
        | rw [show ((many long pl : Nat) : Int) = 0 by unfold many; omega]
        | rw [show ((many long pl : Nat) : Int) = long - pl + 1 by unfold many; omega]

end Go.Proofs.Ytbbolibkheelmaa
