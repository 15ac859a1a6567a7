/- Walks: a list before another one; a list without one element. Walks: the specification's own joints; is a part sound in each truth? Walks: is a part sound in each truth, in some truth (the specification)? -/
import Derived.Test.YtilbkmogmlcpaaaPsp02
namespace Go.Proofs.Ytilbkmogmlcpaaa
open Go.RowKit Go.Shelf

/-- Is a list before another one? -/
def lessI : List Int → List Int → Bool
  | [], [] => false
  | [], _ :: _ => true
  | _ :: _, [] => false
  | x :: xs, y :: ys => if x = y then lessI xs ys else decide (x < y)
theorem lessI_first {xs ys : List Int} {k : Nat} (h1 : k < xs.length) (h2 : k < ys.length) (h : ∀ j, j < k → gi xs j = gi ys j) (hne : gi xs k ≠ gi ys k) : lessI xs ys = decide (gi xs k < gi ys k) := by
  induction k generalizing xs ys with
  | zero =>
    match xs, ys, h1, h2 with
    | x :: xs, y :: ys, _, _ =>
      have : x ≠ y := by simpa [gi] using hne
      simp [lessI, gi, this]
  | succ k ih =>
    match xs, ys, h1, h2 with
    | x :: xs, y :: ys, h1, h2 =>
      have e : x = y := by simpa [gi] using h 0 (by omega)
      have h' : ∀ j, j < k → gi xs j = gi ys j := fun j hj => by simpa [gi] using h (j + 1) (by omega)
      have := ih (xs := xs) (ys := ys) (by simpa using h1) (by simpa using h2) h' (by simpa [gi] using hne)
      rw [lessI, if_pos e, this]
      simp [gi]
theorem lessI_end {xs ys : List Int} (h : ∀ j, j < xs.length → j < ys.length → gi xs j = gi ys j) : lessI xs ys = decide (xs.length < ys.length) := by
  induction xs generalizing ys with
  | nil => cases ys <;> simp [lessI]
  | cons x xs ih =>
    cases ys with
    | nil => simp [lessI]
    | cons y ys =>
      have e : x = y := by simpa [gi] using h 0 (by simp) (by simp)
      have := ih (ys := ys) (fun j h1 h2 => by simpa [gi] using h (j + 1) (by simpa using h1) (by simpa using h2))
      rw [lessI, if_pos e, this]
      simp

set_option maxHeartbeats 1000000 in
theorem Less_any {B1 B2 : Nat} {a b : Option Addr} {xs ys : List Int} {n m c d : Nat} {w : World} (hx : IntsAt B1 w a n xs) (hy : IntsAt B2 w b m ys) :
    Calls Try.prog 44 #[.slice a n c, .slice b m d] w fun e w' => e = .returned (.bool (lessI xs ys)) ∧ Quiet w w' := by
  have hx' := Lib.hid hx
  have hy' := Lib.hid hy
  have hL : n ≤ 140737488355328 := hx.small
  have hL2 : m ≤ 140737488355328 := hy.small
  have hnx := Lib.hid hx.len
  have hny := Lib.hid hy.len
  clear hx hy
  obtain ⟨R, hR⟩ : ∃ R, R = lessI xs ys := ⟨_, rfl⟩
  rw [← hR]
  have hR' := Lib.hid hR
  clear hR
  go_enter Try.func44, Try.ntmps44
  go_wp2
  go_loopw [5] (fun i wr => ∃ k : Nat, k ≤ n ∧ i = .int .i64 k ∧ Hid (∀ j, j < k → gi xs j = gi ys j) ∧ Quiet w wr) (fun i _ => (n - intOf i).toNat)
  case atStart => exact ⟨0, by omega, rfl, fun j hj => absurd hj (by omega), Quiet.refl _⟩
  case round =>
    obtain ⟨k, hk, rfl, hall, hq⟩ := hrel
    obtain ⟨q, rfl⟩ := hq
    have hq : Quiet w (w.drewN q) := ⟨q, rfl⟩
    by_cases hlt : k < n ∧ k < m
    · obtain ⟨hlt1, hlt2⟩ := hlt
      obtain ⟨b1, o1, rfl, hb1, hc1⟩ := hx'.out.get k hlt1
      obtain ⟨b2, o2, rfl, hb2, hc2⟩ := hy'.out.get k hlt2
      have g1 := (hc1 k hlt1).1
      have g2 := (hc2 k hlt2).1
      have hkn : (k : Int) < n := by omega
      have hkm : (k : Int) < m := by omega
      clear hc1 hc2
      obtain ⟨X, hX⟩ : ∃ X, X = gi xs k := ⟨_, rfl⟩
      obtain ⟨Y, hY⟩ : ∃ Y, Y = gi ys k := ⟨_, rfl⟩
      rw [← hX] at g1
      rw [← hY] at g2
      have hXY := Lib.hid (And.intro hX hY)
      clear hX hY
      by_cases e : X = Y
      · have e1 : (X != Y) = false := by simp [e]
        have e' := Lib.hid e
        clear e
        go_wp2
        go_quiet (fail)
        go_wp2
        go_roundw
        case rel => exact ⟨k + 1, by omega, by go_num, fun j hj => by
          by_cases ej : j = k
          · subst ej; rw [← hXY.out.1, ← hXY.out.2]; exact e'.out
          · exact hall.out j (by omega), ⟨_, rfl⟩⟩
        case measure => simp [intOf]; omega
      · have e1 : (X != Y) = true := by simp [e]
        have hRe : Hid (R = decide (X < Y)) := Lib.hid (by rw [hR'.out, lessI_first (by rw [hnx.out]; exact hlt1) (by rw [hny.out]; exact hlt2) hall.out (by rw [← hXY.out.1, ← hXY.out.2]; exact e), ← hXY.out.1, ← hXY.out.2])
        clear e
        go_wp2
        go_quiet (fail)
        go_wp2
        go_quiet (fail)
        go_wp2
        go_ret
        exact ⟨ret_bool (by rw [hRe.out]), Quiet.drewN (Quiet.drewN hq _) _⟩
    · have hend : Hid (R = decide (n < m)) := Lib.hid (by rw [hR'.out, lessI_end (fun j h1 h2 => hall.out j (by rw [hnx.out] at h1; rw [hny.out] at h2; omega)), hnx.out, hny.out])
      by_cases h1 : k < n
      · have h2 : ¬ k < m := fun h => hlt ⟨h1, h⟩
        clear hlt
        go_wp2
        go_ret
        exact ⟨ret_bool (by rw [hend.out]), hq⟩
      · clear hlt
        go_wp2
        go_ret
        exact ⟨ret_bool (by rw [hend.out]), hq⟩

/-- A list without the element at a place. -/
def cutU (xs : List Int) (p k : Nat) : List Int := ((List.range k).filter fun j => j != p).map fun j => gi xs j
theorem cutU_succ (xs : List Int) (p k : Nat) : cutU xs p (k + 1) = cutU xs p k ++ (if k = p then [] else [gi xs k]) := by
  unfold cutU
  rw [List.range_succ, List.filter_append, List.map_append]
  by_cases h : k = p
  · simp [h]
  · have : (k != p) = true := by simpa using h
    simp [h, this]
theorem cutU_len (xs : List Int) (p k : Nat) : (cutU xs p k).length ≤ k := by
  unfold cutU; rw [List.length_map]
  have := List.length_filter_le (fun j => j != p) (List.range k)
  rwa [List.length_range] at this
theorem cutU_mem {xs : List Int} {p k : Nat} {y : Int} (h : y ∈ cutU xs p k) : ∃ j, j < k ∧ y = gi xs j := by
  unfold cutU at h
  rw [List.mem_map] at h
  obtain ⟨j, hj, rfl⟩ := h
  rw [List.mem_filter, List.mem_range] at hj
  exact ⟨j, hj.1, rfl⟩

attribute [local go_sem ↓] append_alias

set_option maxRecDepth 100000 in
set_option maxHeartbeats 2000000 in
theorem Cut_any {B : Nat} {a : Option Addr} {xs : List Int} {n c p : Nat} {w : World} (hB : B ≤ w.heap.size) (hx : IntsAt B w a n xs) (hn : n ≤ 1000) :
    Calls Try.prog 45 #[.slice a n c, .int .i64 p] w fun e w' => ∃ a m c, e = .returned (.slice a m c) ∧ IntsAt w'.heap.size w' a m (cutU xs p n) ∧ Below w.heap.size w w' := by
  obtain ⟨W0, hW0⟩ : ∃ W0, W0 = w.alloc (.cells #[] 3) := ⟨_, rfl⟩
  have hb0 : Below w.heap.size w W0 := by rw [hW0]; exact (Below.refl _ _).alloc (Nat.le_refl _) _
  have ho0 : W0.ownsRow w.heap.size 3 1 (.slice (some ⟨w.heap.size, 0, none⟩) 0 0) 0 [] := by
    rw [hW0]
    exact World.ownsRow_lit (base := w.heap.size) (e := 3) (size := 1) w #[] 0 (Nat.le_refl _) (by decide) rfl
  have hx' := Lib.hid hx
  have hI : Hid (∀ j, j < n → I64 (gi xs j)) := Lib.hid (fun j hj => by
    obtain ⟨b, o, _, _, hc⟩ := hx.get j hj
    exact (hc j hj).2)
  clear hx
  go_enter Try.func45, Try.ntmps45
  replace hW0 := hW0.symm
  go_wp2_with (fail)
  clear hW0
  obtain ⟨i0, hi, hz0, hz1, hz2⟩ := info_parts intInfo3
  go_loopw [5, 6] (fun v i wr => ∃ k : Nat, k ≤ n ∧ i = .int .i64 k ∧ wr.ownsRow w.heap.size 3 1 v (cutU xs p k).length ((cutU xs p k).map intV) ∧ Below w.heap.size w wr) (fun _ i _ => (n - intOf i).toNat)
  case atStart => exact ⟨0, by omega, rfl, ho0, hb0⟩
  case round =>
    obtain ⟨k, hk, rfl, hown, hb⟩ := hrel
    obtain ⟨va, vn, vc, hv⟩ := own_slice hown
    subst hv
    by_cases hlt : k < n
    · have hsu := cutU_succ xs p k
      have hml := cutU_len xs p k
      obtain ⟨xb, xo, rfl, hxB, hxc⟩ := hx'.out.get k hlt
      have g := (bcells hb xb (xo + k) (by omega)).trans (hxc k hlt).1
      clear hxc
      have hkn : (k : Int) < n := by omega
      have lx : xb < wr.heap.size := by have := hb.size; omega
      obtain ⟨X, hX⟩ : ∃ X, X = gi xs k := ⟨_, rfl⟩
      rw [← hX] at g hsu
      clear hX
      by_cases e : k = p
      · rw [if_pos e, List.append_nil] at hsu
        have hown6 : wr.ownsRow w.heap.size 3 1 (.slice va vn vc) (cutU xs p (k + 1)).length ((cutU xs p (k + 1)).map intV) := by rw [hsu]; exact hown
        have hown6' := Lib.hid hown6
        have e1 : ((k : Int) != (p : Int)) = false := by simp [e]
        clear hsu hown6 e
        go_wp2
        go_roundw
        case rel => exact ⟨k + 1, by omega, by go_num, hown6'.out, hb⟩
        case measure => simp [intOf]; omega
      · rw [if_neg e] at hsu
        have e1 : ((k : Int) != (p : Int)) = true := by simp; omega
        clear e
        obtain ⟨v', w5, hap, hown5, hgr5, _, _⟩ := run_append_own_at (P := Try.prog) (w := wr.alloc (.cells #[.int .i64 X] 3)) w.heap.size 31 31 3 i0 (.int .i64 0) 1 8 intsUnder hi hz0 hz1 hz2 rfl (by decide) (.slice va vn vc) _ _ (hown.alloc _) ⟨wr.heap.size, 0, none⟩ 1 1 [.int .i64 X] rfl
          (fun j u hj => by
            match j, hj with
            | 0, hj =>
              simp at hj; subst hj
              exact (Blk.new wr #[.int .i64 X] 3).cell)
          (fun u hu => by simp at hu; subst hu; rfl) (by unfold maxLen; omega) (by omega) (by have := hb.size; simp; omega)
        have hlt5 := hown.lt
        have hb5 : Below w.heap.size w w5 := by
          have h1 : SameBut (fun i => w.heap.size ≤ i) wr w5 := ((SameBut.refl _ wr).alloc _).trans (same_grown hgr5 (fun k h => (hlt5 k h).1))
          exact hb.trans (h1.toBelow hb.size (fun _ h => h))
        have hown6 : w5.ownsRow w.heap.size 3 1 v' (cutU xs p (k + 1)).length ((cutU xs p (k + 1)).map intV) := by
          rw [hsu, List.length_append, List.map_append]; exact hown5
        rw [append_alias] at hap
        have hown6' := Lib.hid hown6
        clear hown5 hown6 hgr5 hsu hlt5
        go_wp2
        go_roundw
        case rel => exact ⟨k + 1, by omega, by go_num, hown6'.out, hb5⟩
        case measure => simp [intOf]; omega
    · obtain rfl : k = n := by omega
      go_wp2
      go_ret
      obtain ⟨a, m, c, e, hxx⟩ := ints_of_own hown (fun i hi => by
        obtain ⟨j, hj, e⟩ := cutU_mem (List.getElem_mem hi)
        rw [gi_eq hi, e]
        exact hI.out j hj) (by have := cutU_len xs p k; omega)
      cases e
      exact ⟨_, _, _, rfl, hxx, hb⟩
end Go.Proofs.Ytilbkmogmlcpaaa
namespace Go.Proofs.Ytilbkmogmlcpaaa
open Go.RowKit Go.Shelf

/-- The inches of the first k joints. -/
def posU (x : Shape) (t : Int) (turned : Bool) (k : Nat) : List Int := (List.range k).map fun j => posJ x t turned j
theorem posU_succ (x : Shape) (t : Int) (turned : Bool) (k : Nat) : posU x t turned (k + 1) = posU x t turned k ++ [posJ x t turned k] := by
  unfold posU; rw [List.range_succ, List.map_append]; rfl
theorem posU_len (x : Shape) (t : Int) (turned : Bool) (k : Nat) : (posU x t turned k).length = k := by unfold posU; rw [List.length_map, List.length_range]
theorem posU_get (x : Shape) (t : Int) (turned : Bool) {j k : Nat} (h : j < k) : gi (posU x t turned k) j = posJ x t turned j := by
  unfold gi posU
  rw [List.getD_eq_getElem?_getD, List.getElem?_map, List.getElem?_range h]; rfl

attribute [local go_sem ↓] append_alias

set_option maxRecDepth 100000 in
set_option maxHeartbeats 4000000 in
theorem refJoints_any {B : Nat} {v : Value} {x : Shape} {t : Int} {tb turned : Bool} {w : World} (hB : B ≤ w.heap.size) (hj : JointsV B w v x) (hin : JointsIn x) (hl : x.long ≤ 12) (h3 : x.joints.length ≤ 3) (h0 : 0 ≤ t) (h1 : t ≤ 16) :
    Calls Try.prog 97 #[.agg #[.int .i64 x.long, v, .bool tb], .int .i64 t, .bool turned] w fun e w' => ∃ a m c, e = .returned (.slice a m c) ∧ IntsAt w'.heap.size w' a m (posU x t turned x.joints.length) ∧ Below w.heap.size w w' := by
  obtain ⟨ja, jn, jc, rfl, hjs⟩ := hj
  have hjn := Lib.hid hjs.len
  have hj3 : jn ≤ 3 := by rw [← hjs.len]; exact h3
  obtain ⟨L, hL⟩ : ∃ L, L = x.long := ⟨_, rfl⟩
  rw [← hL] at hl ⊢
  have hL' := Lib.hid hL
  clear hL
  obtain ⟨W0, hW0⟩ : ∃ W0, W0 = (w.alloc (.cells #[.int .i64 L, .slice ja jn jc, .bool tb] 50)).alloc (.cells #[] 3) := ⟨_, rfl⟩
  have hb0 : Below w.heap.size w W0 := by rw [hW0]; exact ((Below.refl _ _).alloc (Nat.le_refl _) _).alloc (by simp) _
  have hk0 : Blk W0 w.heap.size #[.int .i64 L, .slice ja jn jc, .bool tb] := by rw [hW0]; exact (Blk.new w _ _).alloc _
  have hz0 : W0.heap.size = w.heap.size + 2 := by rw [hW0]; simp
  have ho0 : W0.ownsRow (w.heap.size + 1) 3 1 (.slice (some ⟨w.heap.size + 1, 0, none⟩) 0 0) 0 [] := by
    rw [hW0]
    have := World.ownsRow_lit (base := w.heap.size + 1) (e := 3) (size := 1) (w.alloc (.cells #[.int .i64 L, .slice ja jn jc, .bool tb] 50)) #[] 0 (by simp) (by decide) rfl
    rw [World.size_alloc] at this
    exact this
  have hjs0 := Lib.hid (hjs.keep (w' := W0) (Nat.le_refl _) (fun b o h => bcells hb0 b o (by omega)))
  have hl0 : w.heap.size + 1 < W0.heap.size := by omega
  have hin' := Lib.hid hin
  clear hjs hz0 hin
  go_enter Try.func97, Try.ntmps97
  replace hW0 := hW0.symm
  go_wp2_with (fail)
  clear hW0
  obtain ⟨i0, hi, hz0, hz1, hz2⟩ := info_parts intInfo3
  go_loopw [7, 8] (fun l i wr => ∃ k : Nat, k ≤ jn ∧ i = .int .i64 k ∧ wr.ownsRow (w.heap.size + 1) 3 1 l (posU x t turned k).length ((posU x t turned k).map intV) ∧ SameBut (fun i => w.heap.size + 1 ≤ i) W0 wr) (fun _ i _ => jn - (intOf i).toNat)
  case atStart => exact ⟨0, by omega, rfl, ho0, SameBut.refl _ _⟩
  case round =>
    obtain ⟨k, hk, rfl, hown, hs⟩ := hrel
    obtain ⟨va, vn, vc, hv⟩ := own_slice hown
    subst hv
    have hkr := hk0.same hs (by omega)
    have q0 : wr.cell? ⟨w.heap.size, 0, none⟩ = some (.int .i64 L) := hkr.cell
    have q1 : wr.cell? ⟨w.heap.size, 1, none⟩ = some (.slice ja jn jc) := hkr.cell
    have lr : w.heap.size < wr.heap.size := hkr.lt
    by_cases hlt : k < jn
    · obtain ⟨jb, jo, rfl, hjB, hjc⟩ := hjs0.out.get k hlt
      have g1 := (hs.cell (o := jo + k) (by omega) (by omega)).trans (hjc k hlt).1
      clear hjc
      have hJ := hin'.out k (by rw [hjn.out]; exact hlt)
      rw [← hL'.out] at hJ
      obtain ⟨J, hJe⟩ : ∃ J, J = gi x.joints k := ⟨_, rfl⟩
      rw [← hJe] at hJ g1
      obtain ⟨j0, j1⟩ := hJ
      have lj : jb < wr.heap.size := by have := hs.size; omega
      have hki : (k : Int) < jn := by omega
      have hln := Lib.hid (posU_len x t turned k)
      obtain ⟨Z, hZ⟩ : ∃ Z, Z = posJ x t turned k := ⟨_, rfl⟩
      have hsu : Hid (posU x t turned (k + 1) = posU x t turned k ++ [Z]) := Lib.hid (by rw [posU_succ, ← hZ])
      have hZe : Z = if turned = true then t + L - 1 - J else t + J := by rw [hZ, hJe, hL'.out]; rfl
      clear hZ hJe
      obtain ⟨v', w7, hap, hown7, hgr7, _, _⟩ := run_append_own_at (P := Try.prog) (w := wr.alloc (.cells #[.int .i64 Z] 3)) (w.heap.size + 1) 31 31 3 i0 (.int .i64 0) 1 8 intsUnder hi hz0 hz1 hz2 rfl (by decide) (.slice va vn vc) _ _ (hown.alloc _) ⟨wr.heap.size, 0, none⟩ 1 1 [.int .i64 Z] rfl
        (fun j u hj => by
          match j, hj with
          | 0, hj =>
            simp at hj; subst hj
            exact (Blk.new wr #[.int .i64 Z] 3).cell)
        (fun u hu => by simp at hu; subst hu; rfl) (by rw [hln.out]; unfold maxLen; omega) (by rw [hln.out]; omega) (by have := hs.size; simp; omega)
      have hlt6 := hown.lt
      have hS7 : SameBut (fun i => w.heap.size + 1 ≤ i) wr w7 := ((SameBut.refl _ wr).alloc _).trans (same_grown hgr7 (fun k h => (hlt6 k h).1))
      have hown8 : w7.ownsRow (w.heap.size + 1) 3 1 v' (posU x t turned (k + 1)).length ((posU x t turned (k + 1)).map intV) := by
        rw [hsu.out, List.length_append, List.map_append]; exact hown7
      rw [append_alias] at hap
      have hown8' := Lib.hid hown8
      clear hown7 hown8 hgr7 hlt6
      cases turned with
      | false =>
        simp only [Bool.false_eq_true, if_false] at hZe
        subst hZe
        have e1 : IntKind.i64.wrap (t + J) = t + J := IntWalk.i64_in _ (by omega)
        go_wp2
        go_roundw
        case rel => exact ⟨k + 1, by omega, by go_num, hown8'.out, hs.trans hS7⟩
        case measure => simp [intOf]; omega
      | true =>
        simp only [if_true] at hZe
        have e1 : IntKind.i64.wrap (L - 1) = L - 1 := IntWalk.i64_in _ (by omega)
        have e2 : IntKind.i64.wrap (L - 1 - J) = L - 1 - J := IntWalk.i64_in _ (by omega)
        have e3 : t + (L - 1 - J) = Z := by omega
        have e4 : IntKind.i64.wrap (t + (L - 1 - J)) = Z := by rw [e3]; exact IntWalk.i64_in _ (by omega)
        clear hZe
        go_wp2
        go_roundw
        case rel => exact ⟨k + 1, by omega, by go_num, hown8'.out, hs.trans hS7⟩
        case measure => simp [intOf]; omega
    · obtain rfl : k = jn := by omega
      go_wp2
      go_ret
      obtain ⟨a, m, c, e, hxx⟩ := ints_of_own hown (fun i hi => by
        rw [posU_len] at hi
        have hJ := hin'.out i (by rw [hjn.out]; exact hi)
        rw [posU_get x t turned hi]
        have hlx := hL'.out
        unfold I64 posJ
        split <;> omega) (by rw [posU_len]; omega)
      cases e
      exact ⟨_, _, _, rfl, by rw [hjn.out]; exact hxx, hb0.trans (hs.toBelow (by omega) (fun i h => by omega))⟩
end Go.Proofs.Ytilbkmogmlcpaaa
namespace Go.Proofs.Ytilbkmogmlcpaaa
open Go.RowKit Go.Shelf

/-- How many inches a span has. -/
def spanN (k : Int × Int) : Nat := (k.2 - k.1 + 1).toNat
def sureK (W : Wood) (l : List Int) (k : Nat) : Bool := allB (spanN (gp W.knots k)) fun j => decide (findI l ((gp W.knots k).1 + j) < 0)
def mayK (W : Wood) (l : List Int) (k : Nat) : Bool := anyB (spanN (gp W.knots k)) fun j => decide (findI l ((gp W.knots k).1 + j) < 0)
def sureB (W : Wood) (l : List Int) : Bool := allB W.knots.length (sureK W l)
def mayB (W : Wood) (l : List Int) : Bool := allB W.knots.length (mayK W l)

set_option maxRecDepth 100000 in
set_option maxHeartbeats 4000000 in
theorem sure_any {B C : Nat} {v : Value} {W : Wood} {la : Option Addr} {ln lc : Nat} {l : List Int} {w : World} (hB : B ≤ w.heap.size) (hC : C ≤ w.heap.size) (hk : KnotsV B w v W) (hl : IntsAt C w la ln l)
    (hW : ∀ k, k < W.knots.length → Knot (gp W.knots k)) (h3 : W.knots.length ≤ 3) :
    Calls Try.prog 98 #[.agg #[.int .i64 W.long, v], .slice la ln lc] w fun e w' => e = .returned (.bool (sureB W l)) ∧ Below w.heap.size w w' := by
  obtain ⟨ka, kn, kc, rfl, hks⟩ := hk
  have hkl := Lib.hid hks.len
  have hkn3 : kn ≤ 3 := by rw [← hks.len]; exact h3
  obtain ⟨R, hR⟩ : ∃ R, R = sureB W l := ⟨_, rfl⟩
  rw [← hR]
  have hR' := Lib.hid hR
  clear hR
  obtain ⟨W0, hW0⟩ : ∃ W0, W0 = w.alloc (.cells #[.int .i64 W.long, .slice ka kn kc] 48) := ⟨_, rfl⟩
  have hb0 : Below w.heap.size w W0 := by rw [hW0]; exact (Below.refl _ _).alloc (Nat.le_refl _) _
  have hk0 : Blk W0 w.heap.size #[.int .i64 W.long, .slice ka kn kc] := by rw [hW0]; exact Blk.new w _ _
  have hks0 := Lib.hid (hks.keep (w' := W0) (Nat.le_refl _) (fun b o h => bcells hb0 b o (by omega)))
  have hl0 := Lib.hid (hl.keep (w' := W0) (Nat.le_refl _) (fun b o h => bcells hb0 b o (by omega)))
  have hW' := Lib.hid hW
  have l0 : w.heap.size < W0.heap.size := hk0.lt
  clear hks hl hW
  go_enter Try.func98, Try.ntmps98
  replace hW0 := hW0.symm
  go_wp2_with (fail)
  clear hW0
  go_loopw [5] (fun i wr => ∃ k : Nat, k ≤ kn ∧ i = .int .i64 k ∧ Hid (allB k (sureK W l) = true) ∧ Quiet W0 wr) (fun i _ => kn - (intOf i).toNat)
  case atStart => exact ⟨0, by omega, rfl, rfl, Quiet.refl _⟩
  case round =>
    obtain ⟨k, hk, rfl, hall, hq⟩ := hrel
    obtain ⟨q, rfl⟩ := hq
    have q1 : W0.cell? ⟨w.heap.size, 1, none⟩ = some (.slice ka kn kc) := hk0.cell
    have hbq : Below w.heap.size w (W0.drewN q) := below_drewN hb0 q
    by_cases hlt : k < kn
    · obtain ⟨kb, ko, rfl, hkB, hkc⟩ := hks0.out.get k hlt
      obtain ⟨g1, g2, _, _⟩ := hkc k hlt
      clear hkc
      have hK := hW'.out k (by rw [hkl.out]; exact hlt)
      unfold Knot at hK
      obtain ⟨u, hu⟩ : ∃ u : Nat, (gp W.knots k).1 = u := ⟨(gp W.knots k).1.toNat, by omega⟩
      obtain ⟨n, hn, hn0⟩ : ∃ n : Nat, (gp W.knots k).2 = u + n - 1 ∧ 0 < n := ⟨((gp W.knots k).2 - (gp W.knots k).1 + 1).toNat, by omega, by omega⟩
      have hun : u + n ≤ 16 := by omega
      have hsK : Hid (sureK W l k = allB n fun j => decide (findI l ((u : Int) + j) < 0)) := Lib.hid (by unfold sureK spanN; rw [hu, hn, show ((u : Int) + n - 1 - u + 1).toNat = n by omega])
      rw [hu] at g1
      rw [hn] at g2
      clear hK hu hn
      have hki : (k : Int) < kn := by omega
      have dk : decide ((k : Int) < kn) = true := decide_eq_true hki
      go_wp2_with (fail)
      go_loopw [6] (fun m wr => ∃ j : Nat, j ≤ n ∧ m = .int .i64 ((u : Int) + j) ∧ Hid (allB j (fun j => decide (findI l ((u : Int) + j) < 0)) = true) ∧ Quiet W0 wr) (fun m _ => u + n - (intOf m).toNat)
      case atStart => exact ⟨0, by omega, by simp, rfl, q, rfl⟩
      case round =>
        obtain ⟨j, hj, rfl, hallj, hq2⟩ := hrel
        obtain ⟨q2, rfl⟩ := hq2
        by_cases hjn : j < n
        · have hlj := Lib.hid (hl0.out.keep (w' := W0.drewN q2) (Nat.le_refl _) (fun _ _ _ => rfl))
          obtain ⟨F, hF⟩ : ∃ F, F = findI l ((u : Int) + j) := ⟨_, rfl⟩
          have hF' := Lib.hid hF
          clear hF
          by_cases hneg : 0 ≤ F
          · have hfalse : Hid (R = false) := Lib.hid (by
              rw [hR'.out]
              unfold sureB
              refine allB_false (i := k) (by rw [hkl.out]; exact hlt) ?_
              rw [hsK.out]
              exact allB_false (i := j) hjn (by rw [← hF'.out]; exact decide_eq_false (by omega)))
            go_wp2_with (go_at_call 42; refine (Find_any (x := (u : Int) + j) hlj.out).mono ?_; rintro e w' ⟨rfl, q3, rfl⟩; rw [← hF'.out])
            go_ret
            exact ⟨ret_bool hfalse.out.symm, below_drewN hb0 _⟩
          · have hneg' : F < 0 := by omega
            clear hneg
            go_wp2_with (go_at_call 42; refine (Find_any (x := (u : Int) + j) hlj.out).mono ?_; rintro e w' ⟨rfl, q3, rfl⟩; rw [← hF'.out])
            go_roundw
            case rel => exact ⟨j + 1, by omega, by have : ((u : Int) + ((j + 1 : Nat) : Int)) = u + j + 1 := by omega
                                                   rw [this], allB_succ hallj.out (by rw [← hF'.out]; exact decide_eq_true hneg'), ⟨_, rfl⟩⟩
            case measure => simp [intOf]; omega
        · obtain rfl : j = n := by omega
          go_wp2_with (fail)
          go_roundw
          case rel => exact ⟨k + 1, by omega, by go_num, allB_succ hall.out (by rw [hsK.out]; exact hallj.out), ⟨_, rfl⟩⟩
          case measure => simp [intOf]; omega
    · obtain rfl : k = kn := by omega
      have hT : Hid (R = true) := Lib.hid (by rw [hR'.out]; unfold sureB; rw [hkl.out]; exact hall.out)
      go_wp2_with (fail)
      go_ret
      exact ⟨ret_bool hT.out.symm, hbq⟩
set_option maxRecDepth 100000 in
set_option maxHeartbeats 4000000 in
theorem may_any {B C : Nat} {v : Value} {W : Wood} {la : Option Addr} {ln lc : Nat} {l : List Int} {w : World} (hB : B ≤ w.heap.size) (hC : C ≤ w.heap.size) (hk : KnotsV B w v W) (hl : IntsAt C w la ln l)
    (hW : ∀ k, k < W.knots.length → Knot (gp W.knots k)) (h3 : W.knots.length ≤ 3) :
    Calls Try.prog 99 #[.agg #[.int .i64 W.long, v], .slice la ln lc] w fun e w' => e = .returned (.bool (mayB W l)) ∧ Below w.heap.size w w' := by
  obtain ⟨ka, kn, kc, rfl, hks⟩ := hk
  have hkl := Lib.hid hks.len
  have hkn3 : kn ≤ 3 := by rw [← hks.len]; exact h3
  obtain ⟨R, hR⟩ : ∃ R, R = mayB W l := ⟨_, rfl⟩
  rw [← hR]
  have hR' := Lib.hid hR
  clear hR
  obtain ⟨W0, hW0⟩ : ∃ W0, W0 = w.alloc (.cells #[.int .i64 W.long, .slice ka kn kc] 48) := ⟨_, rfl⟩
  have hb0 : Below w.heap.size w W0 := by rw [hW0]; exact (Below.refl _ _).alloc (Nat.le_refl _) _
  have hk0 : Blk W0 w.heap.size #[.int .i64 W.long, .slice ka kn kc] := by rw [hW0]; exact Blk.new w _ _
  have hks0 := Lib.hid (hks.keep (w' := W0) (Nat.le_refl _) (fun b o h => bcells hb0 b o (by omega)))
  have hl0 := Lib.hid (hl.keep (w' := W0) (Nat.le_refl _) (fun b o h => bcells hb0 b o (by omega)))
  have hW' := Lib.hid hW
  have l0 : w.heap.size < W0.heap.size := hk0.lt
  clear hks hl hW
  go_enter Try.func99, Try.ntmps99
  replace hW0 := hW0.symm
  go_wp2_with (fail)
  clear hW0
  go_loopw [5] (fun i wr => ∃ k : Nat, k ≤ kn ∧ i = .int .i64 k ∧ Hid (allB k (mayK W l) = true) ∧ Quiet W0 wr) (fun i _ => kn - (intOf i).toNat)
  case atStart => exact ⟨0, by omega, rfl, rfl, Quiet.refl _⟩
  case round =>
    obtain ⟨k, hk, rfl, hall, hq⟩ := hrel
    obtain ⟨q, rfl⟩ := hq
    have q1 : W0.cell? ⟨w.heap.size, 1, none⟩ = some (.slice ka kn kc) := hk0.cell
    have hbq : Below w.heap.size w (W0.drewN q) := below_drewN hb0 q
    by_cases hlt : k < kn
    · obtain ⟨kb, ko, rfl, hkB, hkc⟩ := hks0.out.get k hlt
      obtain ⟨g1, g2, _, _⟩ := hkc k hlt
      clear hkc
      have hK := hW'.out k (by rw [hkl.out]; exact hlt)
      unfold Knot at hK
      obtain ⟨u, hu⟩ : ∃ u : Nat, (gp W.knots k).1 = u := ⟨(gp W.knots k).1.toNat, by omega⟩
      obtain ⟨n, hn, hn0⟩ : ∃ n : Nat, (gp W.knots k).2 = u + n - 1 ∧ 0 < n := ⟨((gp W.knots k).2 - (gp W.knots k).1 + 1).toNat, by omega, by omega⟩
      have hun : u + n ≤ 16 := by omega
      have hsK : Hid (mayK W l k = anyB n fun j => decide (findI l ((u : Int) + j) < 0)) := Lib.hid (by unfold mayK spanN; rw [hu, hn, show ((u : Int) + n - 1 - u + 1).toNat = n by omega])
      rw [hu] at g1
      rw [hn] at g2
      clear hK hu hn
      have hki : (k : Int) < kn := by omega
      have dk : decide ((k : Int) < kn) = true := decide_eq_true hki
      go_wp2_with (fail)
      go_loopw [6, 7] (fun sm m wr => ∃ j : Nat, j ≤ n ∧ m = .int .i64 ((u : Int) + j) ∧ sm = .bool (anyB j (fun j => decide (findI l ((u : Int) + j) < 0))) ∧ Quiet W0 wr) (fun _ m _ => u + n - (intOf m).toNat)
      case atStart => exact ⟨0, by omega, by simp, rfl, q, rfl⟩
      case round =>
        obtain ⟨j, hj, rfl, rfl, hq2⟩ := hrel
        obtain ⟨q2, rfl⟩ := hq2
        by_cases hjn : j < n
        · have hlj := Lib.hid (hl0.out.keep (w' := W0.drewN q2) (Nat.le_refl _) (fun _ _ _ => rfl))
          obtain ⟨F, hF⟩ : ∃ F, F = findI l ((u : Int) + j) := ⟨_, rfl⟩
          have hF' := Lib.hid hF
          obtain ⟨A, hA⟩ : ∃ A, A = anyB j (fun j => decide (findI l ((u : Int) + j) < 0)) := ⟨_, rfl⟩
          rw [← hA]
          have hA' := Lib.hid hA
          obtain ⟨D, hD⟩ : ∃ D, D = decide (F < 0) := ⟨_, rfl⟩
          have hnext : Hid (anyB (j + 1) (fun j => decide (findI l ((u : Int) + j) < 0)) = (A || D)) := Lib.hid (by rw [anyB, ← hA, ← hF, ← hD])
          have hD' : decide (F < 0) = D := hD.symm
          clear hF hA hD
          cases A with
          | true =>
            clear hD'
            go_wp2_with (fail)
            go_roundw
            case rel => exact ⟨j + 1, by omega, by have : ((u : Int) + ((j + 1 : Nat) : Int)) = u + j + 1 := by omega
                                                   rw [this], by rw [hnext.out]; rfl, ⟨_, rfl⟩⟩
            case measure => simp [intOf]; omega
          | false =>
            go_wp2_with (go_at_call 42; refine (Find_any (x := (u : Int) + j) hlj.out).mono ?_; rintro e w' ⟨rfl, q3, rfl⟩; rw [← hF'.out])
            go_roundw
            case rel => exact ⟨j + 1, by omega, by have : ((u : Int) + ((j + 1 : Nat) : Int)) = u + j + 1 := by omega
                                                   rw [this], by rw [hnext.out]; rfl, ⟨_, rfl⟩⟩
            case measure => simp [intOf]; omega
        · obtain rfl : j = n := by omega
          obtain ⟨A, hA⟩ : ∃ A, A = anyB j (fun j => decide (findI l ((u : Int) + j) < 0)) := ⟨_, rfl⟩
          rw [← hA]
          have hA' := Lib.hid hA
          clear hA
          cases A with
          | true =>
            go_wp2_with (fail)
            go_roundw
            case rel => exact ⟨k + 1, by omega, by go_num, allB_succ hall.out (by rw [hsK.out]; exact hA'.out.symm), ⟨_, rfl⟩⟩
            case measure => simp [intOf]; omega
          | false =>
            have hfalse : Hid (R = false) := Lib.hid (by
              rw [hR'.out]
              unfold mayB
              refine allB_false (i := k) (by rw [hkl.out]; exact hlt) ?_
              rw [hsK.out]; exact hA'.out.symm)
            go_wp2_with (fail)
            go_ret
            exact ⟨ret_bool hfalse.out.symm, below_drewN hb0 _⟩
    · obtain rfl : k = kn := by omega
      have hT : Hid (R = true) := Lib.hid (by rw [hR'.out]; unfold mayB; rw [hkl.out]; exact hall.out)
      go_wp2_with (fail)
      go_ret
      exact ⟨ret_bool hT.out.symm, hbq⟩
end Go.Proofs.Ytilbkmogmlcpaaa
