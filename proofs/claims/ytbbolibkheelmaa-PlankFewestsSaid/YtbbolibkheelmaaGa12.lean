/- Walks: two stocks of wood, one beside the other. Walks: stocks. Walks: which of two lists comes first. Walks: the better of two choices. Walks: choices. -/
import Derived.Test.YtbbolibkheelmaaGa11
namespace Go.Proofs.Ytbbolibkheelmaa
open Go.RowKit Go.Shelf

def besideB (c d : Nat → Bool) (s a b : Nat) : Bool := c a && d b && (a &&& b == 0) && (a ||| b == s)
/-- What can be cut if one set is cut from one stock, and another one from the other. -/
def besideM (c d : Nat → Bool) : Nat → Bool := fun s => anyB 32 fun a => anyB 32 fun b => besideB c d s a b
def besideU (c d : Nat → Bool) (i j : Nat) : Nat → Bool := fun s => anyB i (fun a => anyB 32 fun b => besideB c d s a b) || anyB j (fun b => besideB c d s i b)
theorem besideU_zero (c d : Nat → Bool) (s : Nat) : besideU c d 0 0 s = false := rfl
theorem besideU_next (c d : Nat → Bool) (i s : Nat) : besideU c d (i + 1) 0 s = besideU c d i 32 s := by
  unfold besideU
  simp only [anyB, Bool.or_false]
theorem besideU_step (c d : Nat → Bool) (i j s : Nat) : besideU c d i (j + 1) s = (besideU c d i j s || besideB c d s i j) := by
  unfold besideU
  simp only [anyB, Bool.or_assoc]
theorem besideU_full (c d : Nat → Bool) (s : Nat) : besideU c d 32 0 s = besideM c d s := by unfold besideU besideM; simp only [anyB, Bool.or_false]
theorem besideU_hit {c d : Nat → Bool} {i j : Nat} (h : (c i && d j && (i &&& j == 0)) = true) (s : Nat) : upd (besideU c d i j) (i ||| j) true s = besideU c d i (j + 1) s := by
  rw [besideU_step]
  unfold upd besideB
  rw [h]
  by_cases e : s = i ||| j
  · subst e; simp
  · rw [if_neg e]
    have : (i ||| j == s) = false := by simpa using fun h => e h.symm
    simp [this]
theorem besideU_miss {c d : Nat → Bool} {i j : Nat} (h : (c i && d j && (i &&& j == 0)) = false) (s : Nat) : besideU c d i j s = besideU c d i (j + 1) s := by
  rw [besideU_step]
  unfold besideB
  rw [h]
  simp
theorem or_all : (List.range 32).all (fun (i : Nat) => (List.range 32).all fun (j : Nat) => (bits BinOp.or IntKind.i64 (i : Int) (j : Int) == ((i ||| j : Nat) : Int)) && ((bits BinOp.and IntKind.i64 (i : Int) (j : Int) == 0) == (i &&& j == 0)) && decide (i ||| j < 32)) = true := by kernel_rfl
theorem or_bit {i j : Nat} (hi : i < 32) (hj : j < 32) : bits BinOp.or IntKind.i64 (i : Int) (j : Int) = ((i ||| j : Nat) : Int) ∧ (bits BinOp.and IntKind.i64 (i : Int) (j : Int) == 0) = (i &&& j == 0) ∧ i ||| j < 32 := by
  have := or_all
  rw [List.all_eq_true] at this
  have := this i (List.mem_range.2 hi)
  rw [List.all_eq_true] at this
  have := this j (List.mem_range.2 hj)
  rw [Bool.and_eq_true, Bool.and_eq_true, decide_eq_true_eq, beq_iff_eq, beq_iff_eq] at this
  exact ⟨this.1.1, this.1.2, this.2⟩

set_option maxRecDepth 100000 in
set_option maxHeartbeats 2000000 in
theorem beside_any {c d : Nat → Bool} {w : World} :
    Calls Try.prog 112 #[.agg (encC c), .agg (encC d)] w fun e w' => e = .returned (.agg (encC (besideM c d))) ∧ Below w.heap.size w w' := by
  go_enter Try.func112, Try.ntmps112
  have hA0 : CutBlk ((((w.alloc (.cells (encC c) 109)).alloc (.cells (encC d) 109)).alloc (.cells #[.bool false, .bool false, .bool false, .bool false, .bool false, .bool false, .bool false, .bool false, .bool false, .bool false, .bool false, .bool false, .bool false, .bool false, .bool false, .bool false, .bool false, .bool false, .bool false, .bool false, .bool false, .bool false, .bool false, .bool false, .bool false, .bool false, .bool false, .bool false, .bool false, .bool false, .bool false, .bool false] 109)).alloc (.cells #[.bool false, .bool false, .bool false, .bool false, .bool false, .bool false, .bool false, .bool false, .bool false, .bool false, .bool false, .bool false, .bool false, .bool false, .bool false, .bool false, .bool false, .bool false, .bool false, .bool false, .bool false, .bool false, .bool false, .bool false, .bool false, .bool false, .bool false, .bool false, .bool false, .bool false, .bool false, .bool false] 109)) w.heap.size c := (((CutBlk.new w c _).alloc _).alloc _).alloc _
  have hB0 : CutBlk ((((w.alloc (.cells (encC c) 109)).alloc (.cells (encC d) 109)).alloc (.cells #[.bool false, .bool false, .bool false, .bool false, .bool false, .bool false, .bool false, .bool false, .bool false, .bool false, .bool false, .bool false, .bool false, .bool false, .bool false, .bool false, .bool false, .bool false, .bool false, .bool false, .bool false, .bool false, .bool false, .bool false, .bool false, .bool false, .bool false, .bool false, .bool false, .bool false, .bool false, .bool false] 109)).alloc (.cells #[.bool false, .bool false, .bool false, .bool false, .bool false, .bool false, .bool false, .bool false, .bool false, .bool false, .bool false, .bool false, .bool false, .bool false, .bool false, .bool false, .bool false, .bool false, .bool false, .bool false, .bool false, .bool false, .bool false, .bool false, .bool false, .bool false, .bool false, .bool false, .bool false, .bool false, .bool false, .bool false] 109)) (w.heap.size + 1) d := by
    have := ((CutBlk.new (w.alloc (.cells (encC c) 109)) d 109).alloc (.cells #[.bool false, .bool false, .bool false, .bool false, .bool false, .bool false, .bool false, .bool false, .bool false, .bool false, .bool false, .bool false, .bool false, .bool false, .bool false, .bool false, .bool false, .bool false, .bool false, .bool false, .bool false, .bool false, .bool false, .bool false, .bool false, .bool false, .bool false, .bool false, .bool false, .bool false, .bool false, .bool false] 109)).alloc (.cells #[.bool false, .bool false, .bool false, .bool false, .bool false, .bool false, .bool false, .bool false, .bool false, .bool false, .bool false, .bool false, .bool false, .bool false, .bool false, .bool false, .bool false, .bool false, .bool false, .bool false, .bool false, .bool false, .bool false, .bool false, .bool false, .bool false, .bool false, .bool false, .bool false, .bool false, .bool false, .bool false] 109)
    simp only [World.size_alloc] at this
    exact this
  have hC0 : CutBlk ((((w.alloc (.cells (encC c) 109)).alloc (.cells (encC d) 109)).alloc (.cells #[.bool false, .bool false, .bool false, .bool false, .bool false, .bool false, .bool false, .bool false, .bool false, .bool false, .bool false, .bool false, .bool false, .bool false, .bool false, .bool false, .bool false, .bool false, .bool false, .bool false, .bool false, .bool false, .bool false, .bool false, .bool false, .bool false, .bool false, .bool false, .bool false, .bool false, .bool false, .bool false] 109)).alloc (.cells #[.bool false, .bool false, .bool false, .bool false, .bool false, .bool false, .bool false, .bool false, .bool false, .bool false, .bool false, .bool false, .bool false, .bool false, .bool false, .bool false, .bool false, .bool false, .bool false, .bool false, .bool false, .bool false, .bool false, .bool false, .bool false, .bool false, .bool false, .bool false, .bool false, .bool false, .bool false, .bool false] 109)) (w.heap.size + 1 + 1) (fun _ => false) := by
    have := (CutBlk.new ((w.alloc (.cells (encC c) 109)).alloc (.cells (encC d) 109)) (fun _ => false) 109).alloc (.cells #[.bool false, .bool false, .bool false, .bool false, .bool false, .bool false, .bool false, .bool false, .bool false, .bool false, .bool false, .bool false, .bool false, .bool false, .bool false, .bool false, .bool false, .bool false, .bool false, .bool false, .bool false, .bool false, .bool false, .bool false, .bool false, .bool false, .bool false, .bool false, .bool false, .bool false, .bool false, .bool false] 109)
    simp only [World.size_alloc, zeroCut] at this
    exact this
  have hD0 : CutBlk ((((w.alloc (.cells (encC c) 109)).alloc (.cells (encC d) 109)).alloc (.cells #[.bool false, .bool false, .bool false, .bool false, .bool false, .bool false, .bool false, .bool false, .bool false, .bool false, .bool false, .bool false, .bool false, .bool false, .bool false, .bool false, .bool false, .bool false, .bool false, .bool false, .bool false, .bool false, .bool false, .bool false, .bool false, .bool false, .bool false, .bool false, .bool false, .bool false, .bool false, .bool false] 109)).alloc (.cells #[.bool false, .bool false, .bool false, .bool false, .bool false, .bool false, .bool false, .bool false, .bool false, .bool false, .bool false, .bool false, .bool false, .bool false, .bool false, .bool false, .bool false, .bool false, .bool false, .bool false, .bool false, .bool false, .bool false, .bool false, .bool false, .bool false, .bool false, .bool false, .bool false, .bool false, .bool false, .bool false] 109)) (w.heap.size + 1 + 1 + 1) (fun _ => false) := by
    have := CutBlk.new (((w.alloc (.cells (encC c) 109)).alloc (.cells (encC d) 109)).alloc (.cells #[.bool false, .bool false, .bool false, .bool false, .bool false, .bool false, .bool false, .bool false, .bool false, .bool false, .bool false, .bool false, .bool false, .bool false, .bool false, .bool false, .bool false, .bool false, .bool false, .bool false, .bool false, .bool false, .bool false, .bool false, .bool false, .bool false, .bool false, .bool false, .bool false, .bool false, .bool false, .bool false] 109)) (fun _ => false) 109
    simp only [World.size_alloc, zeroCut] at this
    exact this
  have hb0 : Below w.heap.size w ((((w.alloc (.cells (encC c) 109)).alloc (.cells (encC d) 109)).alloc (.cells #[.bool false, .bool false, .bool false, .bool false, .bool false, .bool false, .bool false, .bool false, .bool false, .bool false, .bool false, .bool false, .bool false, .bool false, .bool false, .bool false, .bool false, .bool false, .bool false, .bool false, .bool false, .bool false, .bool false, .bool false, .bool false, .bool false, .bool false, .bool false, .bool false, .bool false, .bool false, .bool false] 109)).alloc (.cells #[.bool false, .bool false, .bool false, .bool false, .bool false, .bool false, .bool false, .bool false, .bool false, .bool false, .bool false, .bool false, .bool false, .bool false, .bool false, .bool false, .bool false, .bool false, .bool false, .bool false, .bool false, .bool false, .bool false, .bool false, .bool false, .bool false, .bool false, .bool false, .bool false, .bool false, .bool false, .bool false] 109)) := ((((Below.refl _ _).alloc (Nat.le_refl _) _).alloc (by simp) _).alloc (by simp; omega) _).alloc (by simp; omega) _
  have h' := Lib.hid (And.intro hA0 (And.intro hB0 (And.intro hC0 (And.intro hD0 hb0))))
  clear hA0 hB0 hC0 hD0 hb0
  go_wp2_with (refine wpList_load_cut _ _ rfl h'.out.1 ?_)
  obtain ⟨hA0, hB0, hC0, hD0, hb0⟩ := h'.out
  clear h'
  go_loopw [11] (fun i wr => ∃ k : Nat, k ≤ 32 ∧ i = .int .i64 k ∧ CutBlk wr (w.heap.size + 1) d ∧ CutBlk wr (w.heap.size + 1 + 1) (fun _ => false) ∧ CutBlk wr (w.heap.size + 1 + 1 + 1) (besideU c d k 0) ∧ Below w.heap.size w wr) (fun i _ => (32 - intOf i).toNat)
  case atStart => exact ⟨0, by omega, rfl, hB0, hC0, hD0.congr (fun i _ => (besideU_zero c d i).symm), hb0⟩
  case round =>
    obtain ⟨k, hk, rfl, hB, hC, hD, hb⟩ := hrel
    clear hA0 hB0 hC0 hD0 hb0
    by_cases hlt : k < 32
    · have hg := fun w => run_index_cut c hlt w
      rcases Bool.eq_false_or_eq_true (c k) with hc | hc
      · have hc' := Lib.hid hc
        rw [hc] at hg
        clear hc
        go_wp2_with (refine wpList_load_cut _ _ rfl hB ?_)
        obtain ⟨wo, hwo⟩ : ∃ wo : World, wo = wr := ⟨_, rfl⟩
        clear hwo
        go_loopw [16] (fun i wr => ∃ j : Nat, j ≤ 32 ∧ i = .int .i64 j ∧ CutBlk wr (w.heap.size + 1) d ∧ CutBlk wr (w.heap.size + 1 + 1) (fun _ => false) ∧ CutBlk wr (w.heap.size + 1 + 1 + 1) (besideU c d k j) ∧ Below w.heap.size w wr) (fun i _ => (32 - intOf i).toNat)
        case atStart => exact ⟨0, by omega, rfl, hB, hC, hD, hb⟩
        case round =>
          obtain ⟨j, hj, rfl, hB, hC, hD, hb⟩ := hrel
          by_cases hjl : j < 32
          · have hg2 := fun w => run_index_cut d hjl w
            obtain ⟨ho1, ho2, ho3⟩ := or_bit hlt hjl
            have dc := hD.cell ho3
            have df := hD.frozen (k ||| j)
            rcases Bool.eq_false_or_eq_true (d j) with hd' | hd'
            · rcases Bool.eq_false_or_eq_true (k &&& j == 0) with he | he
              · rw [hd'] at hg2
                rw [he] at ho2
                have hD2 := Lib.hid ((hD.set ho3 true).congr (fun s _ => besideU_hit (i := k) (j := j) (by rw [hc'.out, hd', he]; rfl) s))
                clear hD hd' he
                generalize k ||| j = z at *
                go_wp2
                go_roundw
                case rel => exact ⟨j + 1, by omega, by go_num, hB.other (by simp) _, hC.other (by simp) _, hD2.out, hb.setCell (by simp; omega) _⟩
                case measure => simp [intOf]; omega
              · rw [hd'] at hg2
                rw [he] at ho2
                have hD2 := Lib.hid (hD.congr (fun s _ => besideU_miss (i := k) (j := j) (by rw [hc'.out, hd', he]; rfl) s))
                clear hD hd' he dc df
                go_wp2
                go_roundw
                case rel => exact ⟨j + 1, by omega, by go_num, hB, hC, hD2.out, hb⟩
                case measure => simp [intOf]; omega
            · rw [hd'] at hg2
              have hD2 := Lib.hid (hD.congr (fun s _ => besideU_miss (i := k) (j := j) (by rw [hc'.out, hd']; rfl) s))
              clear hD hd' dc df ho2
              go_wp2
              go_roundw
              case rel => exact ⟨j + 1, by omega, by go_num, hB, hC, hD2.out, hb⟩
              case measure => simp [intOf]; omega
          · obtain rfl : j = 32 := by omega
            go_wp2
            go_roundw
            case rel => exact ⟨k + 1, by omega, rfl, hB, hC, hD.congr (fun s _ => (besideU_next c d k s).symm), hb⟩
            case measure => simp [intOf]; omega
      · have hc' := Lib.hid hc
        rw [hc] at hg
        clear hc
        go_wp2_with (refine wpList_load_cut _ _ rfl hB ?_)
        obtain ⟨wo, hwo⟩ : ∃ wo : World, wo = wr := ⟨_, rfl⟩
        clear hwo
        go_loopw [16] (fun i wr => ∃ j : Nat, j ≤ 32 ∧ i = .int .i64 j ∧ CutBlk wr (w.heap.size + 1) d ∧ CutBlk wr (w.heap.size + 1 + 1) (fun _ => false) ∧ CutBlk wr (w.heap.size + 1 + 1 + 1) (besideU c d k j) ∧ Below w.heap.size w wr) (fun i _ => (32 - intOf i).toNat)
        case atStart => exact ⟨0, by omega, rfl, hB, hC, hD, hb⟩
        case round =>
          obtain ⟨j, hj, rfl, hB, hC, hD, hb⟩ := hrel
          by_cases hjl : j < 32
          · have hg2 := fun w => run_index_cut d hjl w
            obtain ⟨ho1, ho2, ho3⟩ := or_bit hlt hjl
            have dc := hD.cell ho3
            have df := hD.frozen (k ||| j)
            have hD2 := Lib.hid (hD.congr (fun s _ => besideU_miss (i := k) (j := j) (by rw [hc'.out]; rfl) s))
            rcases Bool.eq_false_or_eq_true (d j) with hd' | hd'
            all_goals
              rw [hd'] at hg2
              clear hd' hD dc df ho2
              go_wp2
              go_roundw
              case rel => exact ⟨j + 1, by omega, by go_num, hB, hC, hD2.out, hb⟩
              case measure => simp [intOf]; omega
          · obtain rfl : j = 32 := by omega
            go_wp2
            go_roundw
            case rel => exact ⟨k + 1, by omega, rfl, hB, hC, hD.congr (fun s _ => (besideU_next c d k s).symm), hb⟩
            case measure => simp [intOf]; omega
    · obtain rfl : k = 32 := by omega
      go_wp2_with (first | (refine wpList_load_cut _ _ rfl hD ?_) | (refine wpList_store_cut _ _ _ rfl rfl hC ?_))
      refine bodyPost_ret (v := .agg (encC (besideU c d 32 0))) (results_cut rfl _ _ _ _ rfl (hC.row _)) rfl ⟨?_, below_row hb (by omega) _⟩
      rw [encC_congr (fun i _ => besideU_full c d i)]
end Go.Proofs.Ytbbolibkheelmaa
namespace Go.Proofs.Ytbbolibkheelmaa
open Go.RowKit Go.Shelf

attribute [local go_sem] Oper.semAt_some

def stockU (x : Book) (k : Nat) : Nat → Nat → Bool := fun p => if p < k then cutsM x p else fun _ => false
/-- What can be cut from each plank alone. -/
def stockF (x : Book) : Nat → Nat → Bool := stockU x x.planks.length
theorem stockU_zero (x : Book) : stockU x 0 = fun _ _ => false := by funext p; unfold stockU; rw [if_neg (by omega)]
theorem stockU_succ (x : Book) (k : Nat) : stockU x (k + 1) = updF (stockU x k) k (cutsM x k) := by
  funext p
  unfold updF stockU
  by_cases e : p = k
  · subst e; rw [if_pos (by omega), if_pos rfl]
  · rw [if_neg e]
    by_cases h : p < k
    · rw [if_pos (by omega), if_pos h]
    · rw [if_neg (by omega), if_neg h]

set_option maxRecDepth 100000 in
set_option maxHeartbeats 4000000 in
theorem newStock_any {B : Nat} {pa sa : Option Addr} {pn pc sn sc : Nat} {x : Book} {w : World} (hB : B ≤ w.heap.size) (hx : BookAt B w pa pn sa sn x) (hok : bookOk x = true) :
    Calls Try.prog 76 #[.agg #[.slice pa pn pc, .slice sa sn sc]] w fun e w' => e = .returned (.agg (stockRow pa pn pc sa sn sc (stockF x))) ∧ Below w.heap.size w w' := by
  have hpn := hx.planks.len
  have hG := good_of hok
  have hpn3 : pn ≤ 3 := by have := hG.planks; omega
  obtain ⟨V1, hV1⟩ : ∃ V, V = w.alloc (.cells #[.slice pa pn pc, .slice sa sn sc] 25) := ⟨_, rfl⟩
  obtain ⟨b1, s1, z1⟩ := alloc_step hV1
  obtain ⟨V2, hV2⟩ : ∃ V, V = V1.alloc (.cells (stockRow none 0 0 none 0 0 (fun _ _ => false)) 112) := ⟨_, rfl⟩
  obtain ⟨b2, s2, z2⟩ := alloc_step hV2
  obtain ⟨V3z, hV3z⟩ : ∃ V, V = V2.alloc (.cells (stockRow none 0 0 none 0 0 (fun _ _ => false)) 112) := ⟨_, rfl⟩
  obtain ⟨b3z, s3z, z3z⟩ := alloc_step hV3z
  obtain ⟨V3, hst, b3, s3', z3'⟩ := stock_store (pa := pa) (pn := pn) (pc := pc) (sa := sa) (sn := sn) (sc := sc) (f := fun _ _ => false) b3z stock_size
  have s3 : SameBut (fun _ => False) V2 V3 := s3z.shift s3' (fun i h => .inr (by omega))
  have z3 : V3.heap.size = w.heap.size + 3 := by omega
  rw [z2, z1] at hst b3
  rw [z1] at b2
  have b13 := (b1.same s2 (fun e => e)).same s3 (fun e => e)
  have b23 := b2.same s3 (fun e => e)
  have s03 := (s1.trans s2).trans s3
  have hx3 := Lib.hid (hx.keep (Nat.le_refl _) (fun b o hb => s03.cell (b := b) (o := o) (by omega) (fun e => e)))
  have hb03 := Lib.hid (s03.toBelow (B := w.heap.size) (Nat.le_refl _) (fun _ h => h.elim))
  have c1 : V3.cell? ⟨w.heap.size, 0, none⟩ = some (.slice pa pn pc) := b13.cell
  have c2 : V3.cell? ⟨w.heap.size, 1, none⟩ = some (.slice sa sn sc) := b13.cell
  have c3 : V3.cell? ⟨w.heap.size + 1 + 1, 0, none⟩ = some (.slice pa pn pc) := b3.cell.trans stock_head.1
  clear z3' s3' b3z s3z z3z s03 s3 b1 b2 s1 s2 hx
  have z3' := Lib.hid z3
  clear z1 z2 z3
  rw [zeroSt1] at hst
  rw [zeroSt0] at hV2 hV3z
  subst hV3z
  subst hV2
  subst hV1
  go_enter Try.func76, Try.ntmps76
  go_wp2
  rw [← zeroSt1]
  clear hst c1 c2 c3
  go_loopw [11] (fun i wr => ∃ k : Nat, k ≤ pn ∧ i = .int .i64 k ∧ Blk wr (w.heap.size + 1 + 1) (stockRow pa pn pc sa sn sc (stockU x k)) ∧ SameBut (fun i => i = w.heap.size + 1 + 1) V3 wr) (fun i _ => (pn - intOf i).toNat)
  case atStart => exact ⟨0, by omega, rfl, by rw [stockU_zero]; exact b3, SameBut.refl _ _⟩
  case round =>
    obtain ⟨k, hk, rfl, hS, hsb⟩ := hrel
    clear b3
    have hz := z3'.out
    have hszr := hsb.size
    have r1 := b13.same hsb (by omega)
    by_cases hlt : k < pn
    · have c1 : wr.cell? ⟨w.heap.size, 0, none⟩ = some (.slice pa pn pc) := r1.cell
      have c2 : wr.cell? ⟨w.heap.size, 1, none⟩ = some (.slice sa sn sc) := r1.cell
      have hcut := cutsOf_any (B := B) (pc := pc) (sc := sc) (p := k) (w := wr) (by omega) (hx3.out.keep (Nat.le_refl _) (fun b o hb => hsb.cell (by omega) (by omega))) hok hlt
      clear r1
      go_wp2_with (go_at_call 110; refine hcut.mono ?_; rintro e w4 ⟨rfl, hb4⟩; obtain ⟨w5, hst, hS5, hs5⟩ := stock_part_store (hS.below hb4 (by omega)) (k := k) (by omega) (cutsM x k))
      go_roundw
      case rel =>
        refine ⟨k + 1, by omega, rfl, by rw [stockU_succ]; exact hS5, (hsb.trans (SameBut.of_below hb4 (Nat.le_refl _))).trans hs5⟩
      case measure => simp [intOf]; omega
    · obtain rfl : k = pn := by omega
      have hld := stock_load hS
      obtain ⟨w6, hst, b6, s6, z6⟩ := stock_store (pa := pa) (pn := k) (pc := pc) (sa := sa) (sn := sn) (sc := sc) (f := stockU x k) (b23.same hsb (by omega)) stock_size
      clear r1
      go_wp2
      refine bodyPost_ret (v := .agg (stockRow pa k pc sa sn sc (stockU x k))) (results_stock rfl _ rfl b6) rfl ⟨?_, ?_⟩
      · unfold stockF; rw [hpn]
      · have h0 : SameBut (fun i => w.heap.size ≤ i) V3 w6 := (hsb.mono (fun i (h : i = w.heap.size + 1 + 1) => by show w.heap.size ≤ i; omega)).trans (s6.mono (fun i (h : i = w.heap.size + 1) => by show w.heap.size ≤ i; omega))
        exact hb03.out.trans (h0.toBelow (by omega) (fun _ h => h))

/-- What can be cut from a set of planks. -/
def stockCut (f : Nat → Nat → Bool) (planks : Nat) : Nat → Nat → Bool
  | 0 => fun s => s == 0
  | k + 1 => if hasN planks k = true then besideM (stockCut f planks k) (f k) else stockCut f planks k
theorem cutOne : encC (fun s => s == 0) = #[.bool true, .bool false, .bool false, .bool false, .bool false, .bool false, .bool false, .bool false, .bool false, .bool false, .bool false, .bool false, .bool false, .bool false, .bool false, .bool false, .bool false, .bool false, .bool false, .bool false, .bool false, .bool false, .bool false, .bool false, .bool false, .bool false, .bool false, .bool false, .bool false, .bool false, .bool false, .bool false] := rfl

set_option maxRecDepth 100000 in
set_option maxHeartbeats 4000000 in
theorem stockCuts_any {pa sa : Option Addr} {pn pc sn sc s : Nat} {f : Nat → Nat → Bool} {w : World} (hpn : pn ≤ 3) (hs : s < 32) :
    Calls Try.prog 83 #[.agg (stockRow pa pn pc sa sn sc f), .int .i64 s] w fun e w' => e = .returned (.agg (encC (stockCut f s pn))) ∧ Below w.heap.size w w' := by
  obtain ⟨V1, hV1⟩ : ∃ V, V = w.alloc (.cells (stockRow pa pn pc sa sn sc f) 112) := ⟨_, rfl⟩
  obtain ⟨b1, s1, z1⟩ := alloc_step hV1
  obtain ⟨V2, hV2⟩ : ∃ V, V = V1.alloc (.cells (encC (fun _ => false)) 109) := ⟨_, rfl⟩
  have b2 : CutBlk V2 V1.heap.size (fun _ => false) := by rw [hV2]; exact CutBlk.new _ _ _
  obtain ⟨s2, z2⟩ := (alloc_step hV2).2
  obtain ⟨V3z, hV3z⟩ : ∃ V, V = V2.alloc (.cells (encC (fun _ => false)) 109) := ⟨_, rfl⟩
  have b3z : CutBlk V3z V2.heap.size (fun _ => false) := by rw [hV3z]; exact CutBlk.new _ _ _
  obtain ⟨s3z, z3z⟩ := (alloc_step hV3z).2
  have hst := b3z.store (fun s => s == 0)
  obtain ⟨V3, hV3⟩ : ∃ V, V = V3z.setRow V2.heap.size (encC (fun s => s == 0)) := ⟨_, rfl⟩
  have b3 : CutBlk V3 V2.heap.size (fun s => s == 0) := by rw [hV3]; exact b3z.row _
  have s3 : SameBut (fun _ => False) V2 V3 := by rw [hV3]; exact s3z.setRow (.inr (Nat.le_refl _)) _
  have z3 : V3.heap.size = w.heap.size + 3 := by rw [hV3, size_setRow]; omega
  rw [← hV3] at hst
  rw [z2, z1] at hst b3
  rw [z1] at b2
  have b13 := (b1.same s2 (fun e => e)).same s3 (fun e => e)
  have b23 := b2.same s3 (fun e => e)
  have s03 := (s1.trans s2).trans s3
  have hb03 := Lib.hid (s03.toBelow (B := w.heap.size) (Nat.le_refl _) (fun _ h => h.elim))
  have c1 : V3.cell? ⟨w.heap.size, 0, none⟩ = some (.slice pa pn pc) := b13.cell.trans stock_head.1
  clear hV3 b3z s3z z3z s03 s3 b1 b2 s1 s2
  have z3' := Lib.hid z3
  clear z1 z2 z3
  rw [cutOne] at hst
  rw [zeroCut] at hV2 hV3z
  subst hV3z
  subst hV2
  subst hV1
  go_enter Try.func83, Try.ntmps83
  go_wp2
  rw [← cutOne]
  clear hst c1
  go_loopw [12] (fun i wr => ∃ k : Nat, k ≤ pn ∧ i = .int .i64 k ∧ CutBlk wr (w.heap.size + 1 + 1) (stockCut f s k) ∧ SameBut (fun i => i = w.heap.size + 1 + 1) V3 wr) (fun i _ => (pn - intOf i).toNat)
  case atStart => exact ⟨0, by omega, rfl, b3, SameBut.refl _ _⟩
  case round =>
    obtain ⟨k, hk, rfl, hC, hsb⟩ := hrel
    clear b3
    have hz := z3'.out
    have hszr := hsb.size
    have r1 := b13.same hsb (by omega)
    by_cases hlt : k < pn
    · have hbit := has_bit (n := s) (k := k) hs (by omega)
      have hld := hC.load
      rcases Bool.eq_false_or_eq_true (hasN s k) with hh | hh
      · have hh' := Lib.hid hh
        rw [hh] at hbit
        clear hh
        go_wp2
        have hO := open_wide
        have hF := hO.fn
        have hd := hO.depth
        have hk3 : k < 3 := by omega
        have hki : (k : Int) < 3 := by omega
        have hS0 : SameBut (fun _ => False) wr wr.drew := (SameBut.refl _ _).drew
        have hread : ∀ w', SameBut (fun _ => False) wr w' → Sem.run Try.prog (loadCut (.pointer (some ⟨w.heap.size + 1 + 1, 0, none⟩))) w' = .ok (.agg (encC (stockCut f s k))) w' ∧ Sem.run Try.prog (loadCut (.pointer (some ⟨w.heap.size, 2 + k * 32, none⟩))) w' = .ok (.agg (encC (f k))) w' := fun w' h =>
          ⟨(hC.same h (fun e => e)).load, stock_part_load (r1.same h (fun e => e)) hk3⟩
        clear hld
        refine region_planW (fun w' => SameBut (fun _ => False) wr w') [(0, true), (1, true), (2, true), (3, true), (4, true), (5, false), (6, false)] (by kernel_rfl) (by kernel_rfl) (by kernel_rfl) (by decide) (by kernel_rfl) ?_
        iterate 5
          (refine plan_take ?_ rfl hS0 (by rfl) ?_ ?_
           rotate_left
           · intro w' hw'
             obtain ⟨q1, q2⟩ := hread w' hw'
             go_simp
             with_reducible rfl
           simp only [Act.put, List.setIfInBounds_toArray, List.set_cons_zero, List.set_cons_succ])
        refine plan_one rfl (by rfl) (fun K hK => ?_)
        go_simp
        refine (hO.calls beside_any).mono ?_
        rintro e w5 ⟨rfl, hb5⟩
        have hS5 : SameBut (fun _ => False) wr w5 := hS0.below hb5
        refine hK _ _ hS5 ?_
        clear hK K hb5
        have hC5 := hC.same hS5 (fun e => e)
        have hst := hC5.store (besideM (stockCut f s k) (f k))
        refine plan_last (by kernel_rfl) rfl (by rfl) (fun K hK => ?_)
        go_simp
        refine hK _ _ ?_
        clear hK K hst
        unfold planW okN
        go_wp2
        go_roundw
        case rel =>
          refine ⟨k + 1, by omega, rfl, ?_, hsb.trans (SameBut.setRow (M := fun i => i = w.heap.size + 1 + 1) (hS5.mono (fun _ h => h.elim)) (.inl rfl) _)⟩
          have e : stockCut f s (k + 1) = besideM (stockCut f s k) (f k) := by
            show (if hasN s k = true then besideM (stockCut f s k) (f k) else stockCut f s k) = _
            rw [if_pos hh'.out]
          rw [e]; exact hC5.row _
        case measure => simp [intOf]; omega
      · have hh' := Lib.hid hh
        rw [hh] at hbit
        clear hh
        go_wp2
        go_roundw
        case rel =>
          refine ⟨k + 1, by omega, rfl, ?_, hsb⟩
          have e : stockCut f s (k + 1) = stockCut f s k := by
            show (if hasN s k = true then besideM (stockCut f s k) (f k) else stockCut f s k) = _
            rw [if_neg (by rw [hh'.out]; simp)]
          rw [e]; exact hC
        case measure => simp [intOf]; omega
    · obtain rfl : k = pn := by omega
      have hld := hC.load
      have hst := (b23.same hsb (by omega)).store (stockCut f s k)
      have hrk := b23.same hsb (by omega)
      clear r1
      go_wp2
      refine bodyPost_ret (v := .agg (encC (stockCut f s k))) (results_cut rfl _ _ _ _ rfl (hrk.row _)) rfl ⟨rfl, ?_⟩
      have h0 : SameBut (fun i => w.heap.size ≤ i) V3 wr := hsb.mono (fun i (h : i = w.heap.size + 1 + 1) => by show w.heap.size ≤ i; omega)
      exact below_row (hb03.out.trans (h0.toBelow (by omega) (fun _ h => h))) (by omega) _

theorem pow_ones {n : Nat} (hn : n ≤ 3) : 2 ^ n - 1 < 32 := by
  have h : n = 0 ∨ n = 1 ∨ n = 2 ∨ n = 3 := by omega
  rcases h with rfl | rfl | rfl | rfl <;> decide

set_option maxRecDepth 100000 in
set_option maxHeartbeats 4000000 in
theorem allCuts_any {pa sa : Option Addr} {pn pc sn sc : Nat} {f : Nat → Nat → Bool} {w : World} (hpn : pn ≤ 3) :
    Calls Try.prog 77 #[.agg (stockRow pa pn pc sa sn sc f)] w fun e w' => e = .returned (.agg (encC (stockCut f (2 ^ pn - 1) pn))) ∧ Below w.heap.size w w' := by
  obtain ⟨V1, hV1⟩ : ∃ V, V = w.alloc (.cells (stockRow pa pn pc sa sn sc f) 112) := ⟨_, rfl⟩
  obtain ⟨b1, s1, z1⟩ := alloc_step hV1
  obtain ⟨V2, hV2⟩ : ∃ V, V = V1.alloc (.cells (encC (fun _ => false)) 109) := ⟨_, rfl⟩
  have b2 : CutBlk V2 V1.heap.size (fun _ => false) := by rw [hV2]; exact CutBlk.new _ _ _
  obtain ⟨s2, z2⟩ := (alloc_step hV2).2
  rw [z1] at b2
  have b12 := b1.same s2 (fun e => e)
  have s02 := s1.trans s2
  have z2' : V2.heap.size = w.heap.size + 2 := by omega
  have hb02 := s02.toBelow (B := w.heap.size) (Nat.le_refl _) (fun _ h => h.elim)
  rw [zeroCut] at hV2
  subst hV1
  go_enter Try.func77, Try.ntmps77
  go_wp2
  rw [← hV2]
  clear hV2 b1 s1 s2 s02 z1 z2
  have hO := open_wide
  have hF := hO.fn
  have hd := hO.depth
  have hS0 : SameBut (fun _ => False) V2 V2.drew := (SameBut.refl _ _).drew
  have hread : ∀ w', SameBut (fun _ => False) V2 w' → Sem.run Try.prog (loadSt (.pointer (some ⟨w.heap.size, 0, none⟩))) w' = .ok (.agg (stockRow pa pn pc sa sn sc f)) w' ∧ w'.cell? ⟨w.heap.size, 0, none⟩ = some (.slice pa pn pc) := fun w' h =>
    ⟨stock_load (b12.same h (fun e => e)), (b12.same h (fun e => e)).cell.trans stock_head.1⟩
  refine region_planW (fun w' => SameBut (fun _ => False) V2 w') [(0, true), (1, true), (2, true), (3, true), (4, true), (5, false), (6, false), (7, false)] (by kernel_rfl) (by kernel_rfl) (by kernel_rfl) (by decide) (by kernel_rfl) ?_
  iterate 5
    (refine plan_take ?_ rfl hS0 (by rfl) ?_ ?_
     rotate_left
     · intro w' hw'
       obtain ⟨q1, q2⟩ := hread w' hw'
       go_simp
       with_reducible rfl
     simp only [Act.put, List.setIfInBounds_toArray, List.set_cons_zero, List.set_cons_succ])
  refine plan_one rfl (by rfl) (fun K hK => ?_)
  go_simp
  refine (hO.calls (firstOnes_any (by omega))).mono ?_
  rintro e w5 ⟨rfl, rfl⟩
  refine hK _ _ hS0 ?_
  clear hK K
  refine plan_one rfl (by rfl) (fun K hK => ?_)
  go_simp
  refine (hO.calls (stockCuts_any hpn (pow_ones hpn))).mono ?_
  rintro e w5 ⟨rfl, hb5⟩
  have hS5 : SameBut (fun _ => False) V2 w5 := hS0.below hb5
  refine hK _ _ hS5 ?_
  clear hK K hb5
  have hC5 := b2.same hS5 (fun e => e)
  have hst := hC5.store (stockCut f (2 ^ pn - 1) pn)
  refine plan_last (by kernel_rfl) rfl (by rfl) (fun K hK => ?_)
  go_simp
  refine hK _ _ ?_
  clear hK K hst
  unfold planW okN
  go_wp2
  refine bodyPost_ret (v := .agg (encC (stockCut f (2 ^ pn - 1) pn))) (results_cut rfl _ _ _ _ rfl (hC5.row _)) rfl ⟨rfl, ?_⟩
  exact below_row (hb02.trans (hS5.toBelow (by omega) (fun _ h => h.elim))) (by omega) _
end Go.Proofs.Ytbbolibkheelmaa
namespace Go.Proofs.Ytbbolibkheelmaa
open Go.RowKit Go.Shelf

def cmpI (a b : Int) : Int := if a < b then -1 else if b < a then 1 else 0
def cmpL : List Int → List Int → Int
  | [], [] => 0
  | [], _ :: _ => -1
  | _ :: _, [] => 1
  | a :: r, b :: q => if cmpI a b = 0 then cmpL r q else cmpI a b
theorem cmpL_cons (a b : Int) (r q : List Int) : cmpL (a :: r) (b :: q) = if cmpI a b = 0 then cmpL r q else cmpI a b := rfl
theorem drop_gi {xs : List Int} {k : Nat} (h : k < xs.length) : xs.drop k = gi xs k :: xs.drop (k + 1) := by
  rw [gi_eq h]; exact List.drop_eq_getElem_cons h

theorem isNaN_any (a : Int) (w : World) : Calls Try.prog 132 #[.int .i64 a] w fun e w' => e = .returned (.bool false) ∧ w = w' := by
  go_enter Try.func132, Try.ntmps132
  go_wp2
  go_ret
  exact ⟨ret_bool (by simp), rfl⟩
theorem cmpI_any (a b : Int) (w : World) : Calls Try.prog 121 #[.int .i64 a, .int .i64 b] w fun e w' => e = .returned (.int .i64 (cmpI a b)) ∧ w = w' := by
  unfold cmpI
  by_cases h1 : a < b
  · rw [if_pos h1]
    go_enter Try.func121, Try.ntmps121
    go_wp2_with (go_at_call 132; refine (isNaN_any _ _).mono ?_; rintro e w' ⟨rfl, rfl⟩)
    go_ret
    exact ⟨rfl, rfl⟩
  · rw [if_neg h1]
    by_cases h2 : b < a
    · rw [if_pos h2]
      go_enter Try.func121, Try.ntmps121
      go_wp2_with (go_at_call 132; refine (isNaN_any _ _).mono ?_; rintro e w' ⟨rfl, rfl⟩)
      go_ret
      exact ⟨rfl, rfl⟩
    · rw [if_neg h2]
      go_enter Try.func121, Try.ntmps121
      go_wp2_with (go_at_call 132; refine (isNaN_any _ _).mono ?_; rintro e w' ⟨rfl, rfl⟩)
      go_ret
      exact ⟨rfl, rfl⟩

set_option maxRecDepth 10000 in
set_option maxHeartbeats 1000000 in
theorem compare_any {B : Nat} {xs ys : List Int} {xa ya : Option Addr} {xn xc yn yc : Nat} {w : World} (hx : IntsAt B w xa xn xs) (hy : IntsAt B w ya yn ys) :
    Calls Try.prog 109 #[.slice xa xn xc, .slice ya yn yc] w fun e w' => e = .returned (.int .i64 (cmpL xs ys)) ∧ w = w' := by
  have hsx := hx.small
  have hlx := hx.len
  have hsy := hy.small
  have hly := hy.len
  obtain ⟨C, hC⟩ : ∃ C, C = cmpL xs ys := ⟨_, rfl⟩
  rw [← hC]
  have hC' := Lib.hid hC
  clear hC
  go_enter Try.func109, Try.ntmps109
  have hx' := Lib.hid hx
  have hy' := Lib.hid hy
  clear hx hy
  go_wp2
  go_loopw [11] (fun i wr => ∃ k : Nat, k ≤ xn ∧ k ≤ yn ∧ i = .int .i64 k ∧ w = wr ∧ cmpL (xs.drop k) (ys.drop k) = C) (fun i _ => (xn - intOf i).toNat)
  case atStart => exact ⟨0, by omega, by omega, rfl, rfl, by rw [hC'.out]; rfl⟩
  case round =>
    obtain ⟨k, hk, hky, rfl, rfl, hcm⟩ := hrel
    have hcm' := Lib.hid hcm
    clear hcm
    by_cases hlt : k < xn
    · obtain ⟨b, o, rfl, hB, hc⟩ := hx'.out.get k hlt
      obtain ⟨g0, g1⟩ := hc k hlt
      clear hc g1
      have hdx := Lib.hid (drop_gi (xs := xs) (k := k) (by omega))
      by_cases hlt2 : k < yn
      · obtain ⟨b2, o2, rfl, hB2, hc2⟩ := hy'.out.get k hlt2
        obtain ⟨g2, g3⟩ := hc2 k hlt2
        clear hc2 g3
        have hdy := Lib.hid (drop_gi (xs := ys) (k := k) (by omega))
        by_cases h0 : cmpI (gi xs k) (gi ys k) = 0
        · have h0' := Lib.hid h0
          clear h0
          go_wp2_with (go_at_call 121; refine (cmpI_any _ _ _).mono ?_; rintro e w' ⟨rfl, rfl⟩; rw [h0'.out])
          go_roundw
          case rel => exact ⟨k + 1, by omega, by omega, rfl, by trivial, by rw [← hcm'.out, hdx.out, hdy.out]; rw [cmpL_cons, if_pos h0'.out]⟩
          case measure => simp [intOf]; omega
        · obtain ⟨z, hz⟩ : ∃ z, z = cmpI (gi xs k) (gi ys k) := ⟨_, rfl⟩
          have hz' := Lib.hid hz
          rw [← hz] at h0
          have h0' := Lib.hid h0
          have hne : (z == 0) = false := by simpa using h0
          clear hz h0
          go_wp2_with (go_at_call 121; refine (cmpI_any _ _ _).mono ?_; rintro e w' ⟨rfl, rfl⟩; rw [← hz'.out])
          go_ret
          exact ⟨ret_int (by rw [← hcm'.out, hdx.out, hdy.out]; rw [cmpL_cons, ← hz'.out, if_neg h0'.out]), rfl⟩
      · obtain rfl : k = yn := by omega
        have hdy := Lib.hid (show ys.drop k = [] from List.drop_eq_nil_of_le (by omega))
        go_wp2
        go_ret
        exact ⟨ret_int (by rw [← hcm'.out, hdx.out, hdy.out]; rfl), rfl⟩
    · obtain rfl : k = xn := by omega
      have hdx := Lib.hid (show xs.drop k = [] from List.drop_eq_nil_of_le (by omega))
      by_cases hlt2 : k < yn
      · have hdy := Lib.hid (drop_gi (xs := ys) (k := k) (by omega))
        go_wp2
        go_ret
        exact ⟨ret_int (by rw [← hcm'.out, hdx.out, hdy.out]; rfl), rfl⟩
      · obtain rfl : k = yn := by omega
        have hdy := Lib.hid (show ys.drop k = [] from List.drop_eq_nil_of_le (by omega))
        go_wp2
        go_ret
        exact ⟨ret_int (by rw [← hcm'.out, hdx.out, hdy.out]; rfl), rfl⟩
end Go.Proofs.Ytbbolibkheelmaa
namespace Go.Proofs.Ytbbolibkheelmaa
open Go.RowKit Go.Shelf

def moreB (xs : List Int) (cx : Int) (ys : List Int) (cy : Int) : Bool := decide (cy < cx) || (decide (cx = cy) && decide (cmpL xs ys < 0))
def fewerB (xs : List Int) (cx : Int) (ys : List Int) (cy : Int) : Bool := decide (cx < cy) || (decide (cx = cy) && decide (cmpL xs ys < 0))

set_option maxRecDepth 10000 in
set_option maxHeartbeats 1000000 in
theorem more_any {B : Nat} {xs ys : List Int} {xa ya : Option Addr} {xn xc yn yc : Nat} {cx cy : Int} {w : World} (hB : B ≤ w.heap.size) (hx : IntsAt B w xa xn xs) (hy : IntsAt B w ya yn ys) :
    Calls Try.prog 75 #[.agg #[.slice xa xn xc, .int .i64 cx], .agg #[.slice ya yn yc, .int .i64 cy]] w fun e w' => e = .returned (.bool (moreB xs cx ys cy)) ∧ Below w.heap.size w w' := by
  have hx' : Hid (IntsAt B ((w.alloc (.cells #[.slice xa xn xc, .int .i64 cx] 105)).alloc (.cells #[.slice ya yn yc, .int .i64 cy] 105)) xa xn xs) := Lib.hid (hx.keep (Nat.le_refl _) (fun b o h => (((SameBut.refl (fun _ => False) w).alloc _).alloc _).cell (by omega) (fun e => e)))
  have hy' : Hid (IntsAt B ((w.alloc (.cells #[.slice xa xn xc, .int .i64 cx] 105)).alloc (.cells #[.slice ya yn yc, .int .i64 cy] 105)) ya yn ys) := Lib.hid (hy.keep (Nat.le_refl _) (fun b o h => (((SameBut.refl (fun _ => False) w).alloc _).alloc _).cell (by omega) (fun e => e)))
  have hb : Hid (Below w.heap.size w ((w.alloc (.cells #[.slice xa xn xc, .int .i64 cx] 105)).alloc (.cells #[.slice ya yn yc, .int .i64 cy] 105))) := Lib.hid (((Below.refl _ _).alloc (Nat.le_refl _) _).alloc (by simp) _)
  clear hx hy
  by_cases h1 : cy < cx
  · have hv : moreB xs cx ys cy = true := by unfold moreB; rw [decide_eq_true h1]; rfl
    rw [hv]
    clear hv
    go_enter Try.func75, Try.ntmps75
    go_wp2
    go_ret
    exact ⟨rfl, hb.out⟩
  · by_cases h2 : cx = cy
    · subst h2
      have hv : moreB xs cx ys cx = decide (cmpL xs ys < 0) := by unfold moreB; rw [decide_eq_false h1]; simp
      rw [hv]
      clear hv
      go_enter Try.func75, Try.ntmps75
      go_wp2_with (go_at_call 109; refine (compare_any hx'.out hy'.out).mono ?_; rintro e w' ⟨rfl, rfl⟩)
      go_ret
      exact ⟨rfl, hb.out⟩
    · have h3 : cx < cy := by omega
      have hne : (cx == cy) = false := by simpa using h2
      have hv : moreB xs cx ys cy = false := by unfold moreB; rw [decide_eq_false h1, decide_eq_false h2]; rfl
      rw [hv]
      clear hv
      go_enter Try.func75, Try.ntmps75
      go_wp2
      go_ret
      exact ⟨rfl, hb.out⟩

set_option maxRecDepth 10000 in
set_option maxHeartbeats 1000000 in
theorem fewer_any {B : Nat} {xs ys : List Int} {xa ya : Option Addr} {xn xc yn yc : Nat} {cx cy : Int} {w : World} (hB : B ≤ w.heap.size) (hx : IntsAt B w xa xn xs) (hy : IntsAt B w ya yn ys) :
    Calls Try.prog 82 #[.agg #[.slice xa xn xc, .int .i64 cx], .agg #[.slice ya yn yc, .int .i64 cy]] w fun e w' => e = .returned (.bool (fewerB xs cx ys cy)) ∧ Below w.heap.size w w' := by
  have hx' : Hid (IntsAt B ((w.alloc (.cells #[.slice xa xn xc, .int .i64 cx] 105)).alloc (.cells #[.slice ya yn yc, .int .i64 cy] 105)) xa xn xs) := Lib.hid (hx.keep (Nat.le_refl _) (fun b o h => (((SameBut.refl (fun _ => False) w).alloc _).alloc _).cell (by omega) (fun e => e)))
  have hy' : Hid (IntsAt B ((w.alloc (.cells #[.slice xa xn xc, .int .i64 cx] 105)).alloc (.cells #[.slice ya yn yc, .int .i64 cy] 105)) ya yn ys) := Lib.hid (hy.keep (Nat.le_refl _) (fun b o h => (((SameBut.refl (fun _ => False) w).alloc _).alloc _).cell (by omega) (fun e => e)))
  have hb : Hid (Below w.heap.size w ((w.alloc (.cells #[.slice xa xn xc, .int .i64 cx] 105)).alloc (.cells #[.slice ya yn yc, .int .i64 cy] 105))) := Lib.hid (((Below.refl _ _).alloc (Nat.le_refl _) _).alloc (by simp) _)
  clear hx hy
  by_cases h1 : cx < cy
  · have hv : fewerB xs cx ys cy = true := by unfold fewerB; rw [decide_eq_true h1]; rfl
    rw [hv]
    clear hv
    go_enter Try.func82, Try.ntmps82
    go_wp2
    go_ret
    exact ⟨rfl, hb.out⟩
  · by_cases h2 : cx = cy
    · subst h2
      have hv : fewerB xs cx ys cx = decide (cmpL xs ys < 0) := by unfold fewerB; rw [decide_eq_false h1]; simp
      rw [hv]
      clear hv
      go_enter Try.func82, Try.ntmps82
      go_wp2_with (go_at_call 109; refine (compare_any hx'.out hy'.out).mono ?_; rintro e w' ⟨rfl, rfl⟩)
      go_ret
      exact ⟨rfl, hb.out⟩
    · have h3 : cy < cx := by omega
      have hne : (cx == cy) = false := by simpa using h2
      have hv : fewerB xs cx ys cy = false := by unfold fewerB; rw [decide_eq_false h1, decide_eq_false h2]; rfl
      rw [hv]
      clear hv
      go_enter Try.func82, Try.ntmps82
      go_wp2
      go_ret
      exact ⟨rfl, hb.out⟩

end Go.Proofs.Ytbbolibkheelmaa
namespace Go.Proofs.Ytbbolibkheelmaa
open Go.RowKit Go.Shelf

set_option maxRecDepth 10000 in
set_option maxHeartbeats 1000000 in
theorem listed_any {n : Nat} {w : World} (hn : n < 32) :
    Calls Try.prog 79 #[.int .i64 n] w fun e w' => ∃ a m c, e = .returned (.agg #[.slice a m c, .int .i64 ((memL n).length : Int)]) ∧ IntsAt w'.heap.size w' a m (memL n) ∧ m ≤ c ∧ (∀ x, a = some x → w.heap.size ≤ x.block) ∧ Below w.heap.size w w' := by
  go_enter Try.func79, Try.ntmps79
  have br0 : Hid (Blk (w.alloc (.cells #[.slice none 0 0, .int .i64 0] 105)) w.heap.size #[.slice none 0 0, .int .i64 0]) := Lib.hid (Blk.new w _ _)
  go_wp2_with (go_at_call 111; refine (members_any hn).mono ?_; rintro e w1 ⟨va, vn, vc, rfl, hv, hvf, hvc, hb1⟩; have hvf' := Lib.hid hvf; clear hvf; have br1 := br0.out.below hb1 (by simp); have r0 : w1.cell? ⟨w.heap.size, 0, none⟩ = some (.slice none 0 0) := br1.cell; have r1 : w1.cell? ⟨w.heap.size, 1, none⟩ = some (.int .i64 0) := br1.cell; have f0 : w1.frozen? ⟨w.heap.size, 0, none⟩ = false := br1.frozen; have f1 : w1.frozen? ⟨w.heap.size, 1, none⟩ = false := br1.frozen; have hv' := Lib.hid hv; have hb1' := Lib.hid hb1; clear hv hb1)
  refine bodyPost_ret (v := .agg #[.slice va vn vc, .int .i64 vn]) (by simp [results, Try.results79, go_sem, r0, r1]; try rfl) rfl ?_
  have hlen := hv'.out.len
  have hs1 := hb1'.out.size
  simp only [World.size_alloc] at hs1
  have hbw : Below w.heap.size w w1 := ((Below.refl w.heap.size w).alloc (Nat.le_refl _) _).trans (hb1'.out.mono (by simp))
  have hss : SameBut (fun i => i = w.heap.size) w1 ((w1.setCell ⟨w.heap.size, 0, none⟩ (.slice va vn vc)).setCell ⟨w.heap.size, 1, none⟩ (.int .i64 vn)) := ((SameBut.refl (fun i => i = w.heap.size) w1).setCell (.inl rfl) _).setCell (.inl rfl) _
  refine ⟨va, vn, vc, by rw [hlen], ?_, hvc, fun x hx => by have := hvf'.out x hx; simp only [World.size_alloc] at this; omega, (hbw.setCell (Nat.le_refl _) _).setCell (Nat.le_refl _) _⟩
  refine ⟨hlen, hv'.out.small, fun i hi => ?_⟩
  obtain ⟨b, o, rfl, hbB, hc⟩ := hv'.out.get i hi
  have hne := hvf'.out _ rfl
  simp only [World.size_alloc] at hne
  exact ⟨b, o, rfl, Nat.lt_of_lt_of_le hbB hss.size, fun j hj => ⟨(hss.cell hbB (by show ¬ b = w.heap.size; omega)).trans (hc j hj).1, (hc j hj).2⟩⟩

/-- A chooser's block. -/
def chooserRow (f : Nat) (a : Option Addr) (n c : Nat) (cnt : Int) (found : Bool) : Array Value := #[.func (.func f) #[] #[], .slice a n c, .int .i64 cnt, .bool found]
set_option maxRecDepth 10000 in
set_option maxHeartbeats 1000000 in
theorem told_any {f b n c : Nat} {a : Option Addr} {cnt : Int} {found : Bool} {w : World} (hb : Blk w b (chooserRow f a n c cnt found)) (hn : n ≤ c) :
    Calls Try.prog 80 #[.pointer (some ⟨b, 0, none⟩)] w fun e w' => (∃ m, e = .returned (.slice a n m) ∧ n ≤ m) ∧ w = w' := by
  have r1 : w.cell? ⟨b, 1, none⟩ = some (.slice a n c) := hb.cell
  clear hb
  go_enter Try.func80, Try.ntmps80
  cases a
  all_goals
    go_wp2
    go_ret
    exact ⟨⟨n, rfl, Nat.le_refl _⟩, rfl⟩
end Go.Proofs.Ytbbolibkheelmaa
