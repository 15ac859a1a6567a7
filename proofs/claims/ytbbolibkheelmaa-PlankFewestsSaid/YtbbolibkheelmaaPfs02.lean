/- Walks: has a part no joint at one of some knots? Plain mathematics: what Can and Spots answer in a valid book, said by joints and knots. Walks: where the knots truly are, as numbers choose it. Walks: a list out of a set. -/
import Derived.Test.YtbbolibkheelmaaPfs01
import Derived.Test.YtbbolibkheelmaaGa10
import Derived.Test.YtbbolibkheelmaaGa08
import Derived.Laws.OwnMore
namespace Go.Proofs.Ytbbolibkheelmaa
open Go.RowKit Go.Shelf

/-- Where a joint is, as a part lies at t; turned. -/
def posJ (x : Shape) (t : Int) (turned : Bool) (k : Nat) : Int := if turned = true then t + x.long - 1 - gi x.joints k else t + gi x.joints k
def clearB (x : Shape) (t : Int) (turned : Bool) (ks : List Int) : Bool := allB x.joints.length fun k => decide (findI ks (posJ x t turned k) < 0)

set_option maxRecDepth 100000 in
set_option maxHeartbeats 2000000 in
theorem clear_any {B C : Nat} {v : Value} {x : Shape} {t : Int} {tb turned : Bool} {a : Option Addr} {n c : Nat} {ks : List Int} {w : World} (hB : B ≤ w.heap.size) (hC : C ≤ w.heap.size) (hj : JointsV B w v x) (hk : IntsAt C w a n ks)
    (hin : JointsIn x) (hl : x.long ≤ 12) (h0 : 0 ≤ t) (h1 : t ≤ 16) :
    Calls Try.prog 37 #[.agg #[.int .i64 x.long, v, .bool tb], .int .i64 t, .bool turned, .slice a n c] w fun e w' => e = .returned (.bool (clearB x t turned ks)) ∧ Below w.heap.size w w' := by
  obtain ⟨ja, jn, jc, rfl, hjs⟩ := hj
  have hjn := Lib.hid hjs.len
  have hjm := hjs.small
  obtain ⟨W0, hW0⟩ : ∃ W0, W0 = w.alloc (.cells #[.int .i64 x.long, .slice ja jn jc, .bool tb] 50) := ⟨_, rfl⟩
  have hb0 : Below w.heap.size w W0 := by rw [hW0]; exact (Below.refl _ _).alloc (Nat.le_refl _) _
  have hk0 : Blk W0 w.heap.size #[.int .i64 x.long, .slice ja jn jc, .bool tb] := by rw [hW0]; exact Blk.new w _ _
  have l0 : w.heap.size < W0.heap.size := hk0.lt
  have hjs0 := Lib.hid (hjs.keep (w' := W0) (Nat.le_refl _) (fun b o h => bcells hb0 b o (by omega)))
  have hks0 := Lib.hid (hk.keep (w' := W0) (Nat.le_refl _) (fun b o h => bcells hb0 b o (by omega)))
  clear hjs hk
  obtain ⟨R, hR⟩ : ∃ R, R = clearB x t turned ks := ⟨_, rfl⟩
  rw [← hR]
  have hR' := Lib.hid hR
  clear hR
  obtain ⟨L, hL⟩ : ∃ L, L = x.long := ⟨_, rfl⟩
  rw [← hL] at hW0 hk0 hl ⊢
  have hL' := Lib.hid hL
  clear hL
  have hin' := Lib.hid hin
  clear hin
  cases turned with
  | false =>
    go_enter Try.func37, Try.ntmps37
    replace hW0 := hW0.symm
    go_wp2
    clear hW0
    go_loopw [9] (fun i wr => ∃ k : Nat, k ≤ jn ∧ i = .int .i64 k ∧ Hid (allB k (fun k => decide (findI ks (posJ x t false k) < 0)) = true) ∧ Quiet W0 wr) (fun i _ => jn - (intOf i).toNat)
    case atStart => exact ⟨0, by omega, rfl, rfl, Quiet.refl _⟩
    case round =>
      obtain ⟨k, hkn, rfl, hall, hq⟩ := hrel
      obtain ⟨q, rfl⟩ := hq
      have hb1 : Below w.heap.size w (W0.drewN q) := below_drewN hb0 q
      have q0 : W0.cell? ⟨w.heap.size, 0, none⟩ = some (.int .i64 L) := hk0.cell
      have q1 : W0.cell? ⟨w.heap.size, 1, none⟩ = some (.slice ja jn jc) := hk0.cell
      by_cases hlt : k < jn
      · obtain ⟨b, o, rfl, hbB, hc⟩ := hjs0.out.get _ hlt
        have g1 := (hc k hlt).1
        clear hc
        have hJ := hin'.out k (by rw [hjn.out]; exact hlt)
        rw [← hL'.out] at hJ
        obtain ⟨J, hJe⟩ : ∃ J, J = gi x.joints k := ⟨_, rfl⟩
        rw [← hJe] at hJ g1
        obtain ⟨j0, j1⟩ := hJ
        have hp : Hid (posJ x t false k = t + J) := Lib.hid (by unfold posJ; rw [if_neg (by simp), hJe])
        clear hJe
        have hkk := Lib.hid (hks0.out.keep (w' := W0.drewN q) (Nat.le_refl _) (fun _ _ _ => rfl))
        have e1 : IntKind.i64.wrap (t + J) = t + J := IntWalk.i64_in _ (by omega)
        obtain ⟨F, hF⟩ : ∃ F, F = findI ks (t + J) := ⟨_, rfl⟩
        have hF' := Lib.hid hF
        clear hF
        by_cases hneg : 0 ≤ F
        · have hfalse : clearB x t false ks = false := by
            unfold clearB
            exact allB_false (i := k) (by rw [hjn.out]; exact hlt) (by rw [hp.out, ← hF'.out]; simp; omega)
          have hfalse' := Lib.hid hfalse
          clear hfalse
          go_wp2_with (go_at_call 42; refine (Find_any (x := t + J) hkk.out).mono ?_; rintro e w' ⟨rfl, q2, rfl⟩; rw [← hF'.out])
          go_ret
          exact ⟨ret_bool (by rw [hR'.out, hfalse'.out]), below_drewN hb0 _⟩
        · have hneg' : F < 0 := by omega
          clear hneg
          go_wp2_with (go_at_call 42; refine (Find_any (x := t + J) hkk.out).mono ?_; rintro e w' ⟨rfl, q2, rfl⟩; rw [← hF'.out])
          go_roundw
          case rel => exact ⟨k + 1, by omega, by go_num, allB_succ hall.out (by rw [hp.out, ← hF'.out]; simpa using hneg'), ⟨_, rfl⟩⟩
          case measure => simp [intOf]; omega
      · obtain rfl : k = jn := by omega
        have htrue : clearB x t false ks = true := by unfold clearB; rw [hjn.out]; exact hall.out
        have htrue' := Lib.hid htrue
        clear htrue
        go_wp2
        go_ret
        exact ⟨ret_bool (by rw [hR'.out, htrue'.out]), hb1⟩
  | true =>
    go_enter Try.func37, Try.ntmps37
    replace hW0 := hW0.symm
    go_wp2
    clear hW0
    go_loopw [9] (fun i wr => ∃ k : Nat, k ≤ jn ∧ i = .int .i64 k ∧ Hid (allB k (fun k => decide (findI ks (posJ x t true k) < 0)) = true) ∧ Quiet W0 wr) (fun i _ => jn - (intOf i).toNat)
    case atStart => exact ⟨0, by omega, rfl, rfl, Quiet.refl _⟩
    case round =>
      obtain ⟨k, hkn, rfl, hall, hq⟩ := hrel
      obtain ⟨q, rfl⟩ := hq
      have hb1 : Below w.heap.size w (W0.drewN q) := below_drewN hb0 q
      have q0 : W0.cell? ⟨w.heap.size, 0, none⟩ = some (.int .i64 L) := hk0.cell
      have q1 : W0.cell? ⟨w.heap.size, 1, none⟩ = some (.slice ja jn jc) := hk0.cell
      by_cases hlt : k < jn
      · obtain ⟨b, o, rfl, hbB, hc⟩ := hjs0.out.get _ hlt
        have g1 := (hc k hlt).1
        clear hc
        have hJ := hin'.out k (by rw [hjn.out]; exact hlt)
        rw [← hL'.out] at hJ
        obtain ⟨J, hJe⟩ : ∃ J, J = gi x.joints k := ⟨_, rfl⟩
        rw [← hJe] at hJ g1
        obtain ⟨j0, j1⟩ := hJ
        have hp : Hid (posJ x t true k = t + L - 1 - J) := Lib.hid (by unfold posJ; rw [if_pos rfl, hJe, hL'.out])
        clear hJe
        have e1 : IntKind.i64.wrap (t + J) = t + J := IntWalk.i64_in _ (by omega)
        have e2 : IntKind.i64.wrap (t + L) = t + L := IntWalk.i64_in _ (by omega)
        have e3 : IntKind.i64.wrap (t + L - 1) = t + L - 1 := IntWalk.i64_in _ (by omega)
        have e4 : IntKind.i64.wrap (t + L - 1 - J) = t + L - 1 - J := IntWalk.i64_in _ (by omega)
        obtain ⟨F, hF⟩ : ∃ F, F = findI ks (t + L - 1 - J) := ⟨_, rfl⟩
        have hF' := Lib.hid hF
        clear hF
        by_cases hneg : 0 ≤ F
        · have hfalse : clearB x t true ks = false := by
            unfold clearB
            exact allB_false (i := k) (by rw [hjn.out]; exact hlt) (by rw [hp.out, ← hF'.out]; simp; omega)
          have hfalse' := Lib.hid hfalse
          clear hfalse
          go_wp2
          go_quiet (fail)
          go_wp2_with (go_at_call 42; refine (Find_any (B := C) (x := t + L - 1 - J) (by exact hks0.out.keep (Nat.le_refl _) (fun _ _ _ => rfl))).mono ?_; rintro e w' ⟨rfl, q2, rfl⟩; rw [← hF'.out])
          go_ret
          exact ⟨ret_bool (by rw [hR'.out, hfalse'.out]), below_drewN hb0 _⟩
        · have hneg' : F < 0 := by omega
          clear hneg
          go_wp2
          go_quiet (fail)
          go_wp2_with (go_at_call 42; refine (Find_any (B := C) (x := t + L - 1 - J) (by exact hks0.out.keep (Nat.le_refl _) (fun _ _ _ => rfl))).mono ?_; rintro e w' ⟨rfl, q2, rfl⟩; rw [← hF'.out])
          go_roundw
          case rel => exact ⟨k + 1, by omega, by go_num, allB_succ hall.out (by rw [hp.out, ← hF'.out]; simpa using hneg'), ⟨_, rfl⟩⟩
          case measure => simp [intOf]; omega
      · obtain rfl : k = jn := by omega
        have htrue : clearB x t true ks = true := by unfold clearB; rw [hjn.out]; exact hall.out
        have htrue' := Lib.hid htrue
        clear htrue
        go_wp2
        go_ret
        exact ⟨ret_bool (by rw [hR'.out, htrue'.out]), hb1⟩
end Go.Proofs.Ytbbolibkheelmaa
namespace Go.Proofs.Ytbbolibkheelmaa
open Go.RowKit Go.Shelf

theorem ask_zero {x : Book} (hb : bookOk x = true) {i p : Nat} (hi : i < x.planks.length) (hp : p < x.parts.length) : askE x i [(p : Int)] = 0 := by
  rw [askE_good hb, if_pos]
  simp only [numB, Bool.and_eq_true, decide_eq_true_eq, allB_iff, List.length_cons, List.length_nil]
  refine ⟨by omega, fun k hk => ?_⟩
  obtain rfl : k = 0 := by omega
  simp [gi]; exact hp
theorem can_good {x : Book} (hb : bookOk x = true) {i p t : Nat} (hi : i < x.planks.length) (hp : p < x.parts.length) (ht : (t : Int) ≤ (gw x.planks i).long - (gs x.parts p).long) :
    canR x i p t = (ansOf (gw x.planks i) (gs x.parts p) t, 0) := by
  unfold canR
  rw [if_pos (ask_zero hb hi hp)]
  unfold boardM
  simp only [Int.toNat_natCast]
  rw [if_pos]
  unfold many
  omega
theorem spots_good {x : Book} (hb : bookOk x = true) {i p : Nat} (hi : i < x.planks.length) (hp : p < x.parts.length) :
    spotsL x i p = ((List.range (many (gw x.planks i).long (gs x.parts p).long)).filter fun t => decide (ansOf (gw x.planks i) (gs x.parts p) t = 2)).map fun (t : Nat) => (t : Int) := by
  unfold spotsL
  rw [if_pos (ask_zero hb hi hp)]
  unfold spotsOf
  simp only [Int.toNat_natCast]
  congr 1
  refine List.filter_congr fun t ht => ?_
  rw [List.mem_range] at ht
  unfold boardM
  simp only [Int.toNat_natCast]
  rw [if_pos (by omega)]
  rfl
theorem spots_none {x : Book} (hb : bookOk x = true) {i p : Nat} (hi : i < x.planks.length) (hp : p < x.parts.length) (h : (gw x.planks i).long < (gs x.parts p).long) : spotsL x i p = [] := by
  rw [spots_good hb hi hp, show many (gw x.planks i).long (gs x.parts p).long = 0 by unfold many; omega]
  rfl
theorem find_mem {xs : List Int} {n : Int} : 0 ≤ findI xs n ↔ n ∈ xs := by
  rw [findI_nonneg, List.mem_iff_getElem]
  constructor
  · rintro ⟨j, hj, e⟩
    exact ⟨j, hj, by rw [← gi_eq hj]; exact e⟩
  · rintro ⟨j, hj, e⟩
    exact ⟨j, hj, by rw [gi_eq hj]; exact e⟩
theorem find_spot {x : Book} (hb : bookOk x = true) {i p t : Nat} (hi : i < x.planks.length) (hp : p < x.parts.length) (ht : (t : Int) ≤ (gw x.planks i).long - (gs x.parts p).long) :
    decide (0 ≤ findI (spotsL x i p) t) = decide (ansOf (gw x.planks i) (gs x.parts p) t = 2) := by
  rw [Bool.eq_iff_iff, decide_eq_true_eq, decide_eq_true_eq, find_mem, spots_good hb hi hp, List.mem_map]
  constructor
  · rintro ⟨t', h, e⟩
    obtain rfl : t' = t := by omega
    rw [List.mem_filter] at h
    simpa using h.2
  · intro h
    refine ⟨t, ?_, rfl⟩
    rw [List.mem_filter, List.mem_range]
    exact ⟨by unfold many; omega, by simpa using h⟩

/-- The joints' marks, as a part lies, turned. -/
def lieM (S : Shape) (t : Nat) (way : Nat) : Nat → Bool := if way = 0 then jointsM S S.joints.length t else turnedM S S.joints.length t
theorem clear_one (S : Shape) (t m : Nat) (way : Nat) (b : Bool) (hw : b = decide (way ≠ 0)) : clearB S t b [(m : Int)] = !lieM S t way m := by
  unfold clearB lieM
  rw [Bool.eq_iff_iff, allB_iff, Bool.not_eq_true']
  have hf : ∀ y : Int, findI [(m : Int)] y < 0 ↔ ¬ y = m := by
    intro y
    have := find_mem (xs := [(m : Int)]) (n := y)
    rw [List.mem_singleton] at this
    rw [← this]; omega
  have hp : ∀ k, posJ S t b k = if way = 0 then t + gi S.joints k else t + S.long - 1 - gi S.joints k := by
    intro k
    unfold posJ
    subst hw
    by_cases h : way = 0 <;> simp [h]
  by_cases h : way = 0
  · simp only [h, if_true] at hp ⊢
    rw [← Bool.not_eq_true, jointsM, anyB_iff]
    constructor
    · rintro h1 ⟨k, hk, e⟩
      have := h1 k hk
      rw [hp, decide_eq_true_eq, hf] at this
      rw [decide_eq_true_eq] at e
      exact this e.symm
    · intro h1 k hk
      rw [hp, decide_eq_true_eq, hf]
      exact fun e => h1 ⟨k, hk, by rw [decide_eq_true_eq]; exact e.symm⟩
  · simp only [h, if_false] at hp ⊢
    rw [← Bool.not_eq_true, turnedM, anyB_iff]
    constructor
    · rintro h1 ⟨k, hk, e⟩
      have := h1 k hk
      rw [hp, decide_eq_true_eq, hf] at this
      rw [decide_eq_true_eq] at e
      exact this e.symm
    · intro h1 k hk
      rw [hp, decide_eq_true_eq, hf]
      exact fun e => h1 ⟨k, hk, by rw [decide_eq_true_eq]; exact e.symm⟩

/-- A knot's inches, one by one. -/
theorem hitC_up {k : Int × Int} {M : Nat → Bool} {a n : Nat} (h0 : k.1 = a) (h1 : k.2 = a + n - 1) (h2 : a + n ≤ 16) : anyB n (fun j => M (a + j)) = hitC k M := by
  unfold hitC
  rw [Bool.eq_iff_iff, anyB_iff, anyB_iff]
  constructor
  · rintro ⟨j, hj, h⟩
    exact ⟨a + j, by omega, by simp only [andM, knotM, betM, Bool.and_eq_true, decide_eq_true_eq]; exact ⟨h, by omega, by omega⟩⟩
  · rintro ⟨m, hm, h⟩
    simp only [andM, knotM, betM, Bool.and_eq_true, decide_eq_true_eq] at h
    exact ⟨m - a, by omega, by rw [show a + (m - a) = m by omega]; exact h.1⟩
theorem hitM_up {k : Int × Int} {M : Nat → Bool} {a n : Nat} (h0 : k.1 = a) (h1 : k.2 = a + n - 1) (h2 : a + n ≤ 16) : allB n (fun j => M (a + j)) = hitM k M := by
  unfold hitM eqIn
  rw [Bool.eq_iff_iff, allB_iff, allB_iff]
  constructor
  · intro h m hm
    rw [beq_iff_eq]
    simp only [andM, knotM, betM]
    by_cases hb : k.1 ≤ (m : Int) ∧ (m : Int) ≤ k.2
    · have := h (m - a) (by omega)
      rw [show a + (m - a) = m by omega] at this
      rw [this]; rfl
    · rw [decide_eq_false hb, Bool.and_false]
  · intro h j hj
    have := h (a + j) (by omega)
    rw [beq_iff_eq] at this
    simp only [andM, knotM, betM] at this
    rw [decide_eq_true (⟨by omega, by omega⟩ : k.1 ≤ ((a + j : Nat) : Int) ∧ ((a + j : Nat) : Int) ≤ k.2), Bool.and_true] at this
    exact this
theorem hitM_hitC {k : Int × Int} {M : Nat → Bool} (hk : Knot k) (h : hitM k M = true) : hitC k M = true := by
  unfold Knot at hk
  obtain ⟨a, ha⟩ := Int.eq_ofNat_of_zero_le hk.1
  obtain ⟨n, hn⟩ : ∃ n : Nat, k.2 = a + n - 1 ∧ 0 < n := ⟨(k.2 - k.1 + 1).toNat, by omega, by omega⟩
  rw [← hitM_up (a := a) (n := n) ha hn.1 (by omega), allB_iff] at h
  rw [← hitC_up (a := a) (n := n) ha hn.1 (by omega), anyB_iff]
  exact ⟨0, hn.2, h 0 hn.2⟩

/-- Whether some of the first n knots can be, must be, at a joint. -/
def mayHit (W : Wood) (S : Shape) (t n way : Nat) : Bool := anyB n fun k => hitC (gp W.knots k) (lieM S t way)
def mustHitB (W : Wood) (S : Shape) (t n way : Nat) : Bool := anyB n fun k => hitM (gp W.knots k) (lieM S t way)
theorem okLie_may (W : Wood) (S : Shape) (t : Nat) : okLie S W.knots hitC t = (!mayHit W S t W.knots.length 0 || (S.turns && !mayHit W S t W.knots.length 1)) := rfl
theorem okLie_must (W : Wood) (S : Shape) (t : Nat) : okLie S W.knots hitM t = (!mustHitB W S t W.knots.length 0 || (S.turns && !mustHitB W S t W.knots.length 1)) := rfl
theorem must_may {W : Wood} {S : Shape} {t n way : Nat} (hk : ∀ k, k < n → Knot (gp W.knots k)) (h : mustHitB W S t n way = true) : mayHit W S t n way = true := by
  unfold mustHitB at h
  unfold mayHit
  rw [anyB_iff] at h ⊢
  obtain ⟨k, hkn, h⟩ := h
  exact ⟨k, hkn, hitM_hitC (hk k hkn) h⟩
theorem ans_two {W : Wood} {S : Shape} {t : Nat} : decide (ansOf W S t = 2) = (!mayHit W S t W.knots.length 0 || (S.turns && !mayHit W S t W.knots.length 1)) := by
  rw [← okLie_may]
  unfold ansOf
  cases okLie S W.knots hitC t <;> cases okLie S W.knots hitM t <;> simp
theorem ans_zero {W : Wood} {S : Shape} {t : Nat} (hk : ∀ k, k < W.knots.length → Knot (gp W.knots k)) : decide (ansOf W S t = 0) = !(!mustHitB W S t W.knots.length 0 || (S.turns && !mustHitB W S t W.knots.length 1)) := by
  rw [← okLie_must]
  have h : okLie S W.knots hitC t = true → okLie S W.knots hitM t = true := by
    rw [okLie_may, okLie_must]
    have h0 := must_may (S := S) (t := t) (way := 0) hk
    have h1 := must_may (S := S) (t := t) (way := 1) hk
    revert h0 h1
    cases mustHitB W S t W.knots.length 0 <;> cases mustHitB W S t W.knots.length 1 <;> cases mayHit W S t W.knots.length 0 <;> cases mayHit W S t W.knots.length 1 <;> cases S.turns <;> simp
  unfold ansOf
  revert h
  cases okLie S W.knots hitC t <;> cases okLie S W.knots hitM t <;> simp

/-- Two truth values in a block. -/
def row2 (f : Nat → Bool) : Array Value := #[.bool (f 0), .bool (f 1)]
theorem row2_get (f : Nat → Bool) {y : Nat} (h : y < 2) : (row2 f)[y]? = some (.bool (f y)) := by
  rcases (by omega : y = 0 ∨ y = 1) with rfl | rfl <;> rfl
theorem row2_set (f : Nat → Bool) {y : Nat} (h : y < 2) (v : Bool) : (row2 f).setIfInBounds y (.bool v) = row2 (upd f y v) := by
  rcases (by omega : y = 0 ∨ y = 1) with rfl | rfl <;> rfl
theorem row2_congr {f g : Nat → Bool} (h0 : f 0 = g 0) (h1 : f 1 = g 1) : row2 f = row2 g := by unfold row2; rw [h0, h1]
/-- The first y ways have seen the k-th knot, too. -/
def stepN (k y way : Nat) : Nat := if way < y then k + 1 else k
theorem stepN_zero (k way : Nat) : stepN k 0 way = k := rfl
theorem stepN_two (k : Nat) {way : Nat} (h : way < 2) : stepN k 2 way = k + 1 := if_pos h
theorem stepN_at (k y : Nat) : stepN k y y = k := if_neg (by omega)
theorem stepN_next {k y way : Nat} (h : way ≠ y) : stepN k (y + 1) way = stepN k y way := by
  unfold stepN
  by_cases h1 : way < y
  · rw [if_pos h1, if_pos (by omega)]
  · rw [if_neg h1, if_neg (by omega)]
theorem stepN_new (k y : Nat) : stepN k (y + 1) y = k + 1 := if_pos (by omega)
theorem row_next {F : Nat → Nat → Bool} {k y : Nat} : row2 (upd (fun way => F (stepN k y way) way) y (F (k + 1) y)) = row2 (fun way => F (stepN k (y + 1) way) way) := by
  have e : ∀ way, upd (fun way => F (stepN k y way) way) y (F (k + 1) y) way = F (stepN k (y + 1) way) way := by
    intro way
    unfold upd
    by_cases h1 : way = y
    · rw [if_pos h1, h1, stepN_new]
    · rw [if_neg h1, stepN_next h1]
  exact row2_congr (e 0) (e 1)
theorem row2_self (f : Nat → Bool) (y : Nat) : row2 (upd f y (f y)) = row2 f := by
  have e : ∀ way, upd f y (f y) way = f way := by
    intro way; unfold upd; by_cases h : way = y
    · rw [if_pos h, h]
    · rw [if_neg h]
  exact row2_congr (e 0) (e 1)
theorem upd_at (f : Nat → Bool) (y : Nat) (v : Bool) : upd f y v y = v := if_pos rfl
theorem blk_step {w : World} {b y : Nat} {f : Nat → Bool} {u v : Bool} (h : Blk w b (row2 (upd f y u))) (hy : y < 2) : Blk (w.setCell ⟨b, y, none⟩ (.bool v)) b (row2 (upd f y v)) := by
  have := h.setAt (i := y) (.bool v)
  rw [row2_set _ hy] at this
  have e : ∀ way, upd (upd f y u) y v way = upd f y v way := by
    intro way; unfold upd; by_cases h : way = y
    · rw [if_pos h, if_pos h]
    · rw [if_neg h, if_neg h, if_neg h]
  rw [row2_congr (e 0) (e 1)] at this
  exact this
end Go.Proofs.Ytbbolibkheelmaa
namespace Go.Proofs.Ytbbolibkheelmaa
open Go.RowKit Go.Shelf

/-- The element to which a number leads. -/
def takeI (xs : List Int) (n : Int) : Int := if xs.length = 0 then 0 else gi xs (rnd n xs.length).toNat
set_option maxHeartbeats 400000 in
theorem Take_any {B : Nat} {a : Option Addr} {xs : List Int} {n c : Nat} {m : Int} {w : World} (hx : IntsAt B w a n xs) :
    Calls Try.prog 43 #[.slice a n c, .int .i64 m] w fun e w' => e = .returned (.int .i64 (takeI xs m)) ∧ w' = w := by
  have hL : n ≤ 140737488355328 := hx.small
  have hnx := Lib.hid hx.len
  obtain ⟨R, hR⟩ : ∃ R, R = takeI xs m := ⟨_, rfl⟩
  rw [← hR]
  have hR' := Lib.hid hR
  clear hR
  by_cases h0 : n = 0
  · subst h0
    have e0 : (((0 : Nat) : Int) == 0) = true := rfl
    clear hx
    go_enter Try.func43, Try.ntmps43
    go_wp2
    go_ret
    exact ⟨ret_int (by rw [hR'.out, takeI, if_pos hnx.out]), rfl⟩
  · have hr := rnd_range (n := m) (m := n) (by omega)
    obtain ⟨k, hk⟩ : ∃ k : Nat, rnd m n = k := ⟨(rnd m n).toNat, by omega⟩
    have hkn : k < n := by omega
    obtain ⟨b, o, rfl, hb, hc⟩ := hx.get k hkn
    have g := (hc k hkn).1
    have hRk : Hid (R = gi xs k) := Lib.hid (by rw [hR'.out, takeI, if_neg (by rw [hnx.out]; exact h0), hnx.out, hk]; rfl)
    rw [← hRk.out] at g
    have e0 : ((n : Int) == 0) = false := by simp; omega
    have hk' := Lib.hid hk
    have hi : Hid (I64 (n : Int)) := Lib.hid (by unfold I64; omega)
    clear hx hc hk hr
    go_enter Try.func43, Try.ntmps43
    go_wp2_with (go_at_call 35; refine (Round_any _ hi.out).mono ?_; rintro e w' ⟨rfl, rfl⟩; rw [hk'.out])
    go_ret
    exact ⟨rfl, rfl⟩
set_option maxRecDepth 10000 in
set_option maxHeartbeats 400000 in
theorem Any_any {lo hi m : Int} (w : World) (h0 : 0 ≤ lo) (h1 : lo ≤ hi) (h2 : hi ≤ 100) :
    Calls Try.prog 52 #[.agg #[.int .i64 lo, .int .i64 hi], .int .i64 m] w fun e w' => e = .returned (.int .i64 (lo + rnd m (hi - lo + 1))) ∧ Below w.heap.size w w' := by
  have hr := rnd_range (n := m) (m := hi - lo + 1) (by omega)
  obtain ⟨R, hR⟩ : ∃ R, rnd m (hi - lo + 1) = R := ⟨_, rfl⟩
  rw [hR] at hr ⊢
  obtain ⟨r0, r1⟩ := hr
  have hi' : Hid (I64 (hi - lo + 1)) := Lib.hid (by unfold I64; omega)
  have e1 : IntKind.i64.wrap (hi - lo) = hi - lo := IntWalk.i64_in _ (by omega)
  have e2 : IntKind.i64.wrap (hi - lo + 1) = hi - lo + 1 := IntWalk.i64_in _ (by omega)
  have e3 : IntKind.i64.wrap (lo + R) = lo + R := IntWalk.i64_in _ (by omega)
  go_enter Try.func52, Try.ntmps52
  go_wp2
  go_quiet ((go_at_call 35; exact Calls.quiet_of_same ((Round_same _ hi'.out).mono (fun _ _ h => ⟨h.1.trans (by rw [hR]), h.2⟩))))
  go_wp2
  go_ret
  exact ⟨rfl, below_drewN ((Below.refl _ _).alloc (Nat.le_refl _) _) _⟩

/-- Where the first k knots are. -/
def trulyU (W : Wood) (bits : List Int) (k : Nat) : List Int := (List.range k).map fun j => (gp W.knots j).1 + rnd (takeI bits j) ((gp W.knots j).2 - (gp W.knots j).1 + 1)
theorem trulyU_succ (W : Wood) (bits : List Int) (k : Nat) : trulyU W bits (k + 1) = trulyU W bits k ++ [(gp W.knots k).1 + rnd (takeI bits k) ((gp W.knots k).2 - (gp W.knots k).1 + 1)] := by
  unfold trulyU; rw [List.range_succ, List.map_append]; rfl
theorem trulyU_len (W : Wood) (bits : List Int) (k : Nat) : (trulyU W bits k).length = k := by unfold trulyU; rw [List.length_map, List.length_range]
theorem trulyU_range (W : Wood) (bits : List Int) {k j : Nat} (h : j < k) (hW : ∀ k, k < W.knots.length → Knot (gp W.knots k)) (hk : k ≤ W.knots.length) : (gp W.knots j).1 ≤ gi (trulyU W bits k) j ∧ gi (trulyU W bits k) j ≤ (gp W.knots j).2 := by
  have := hW j (by omega)
  unfold Knot at this
  have hr := rnd_range (n := takeI bits j) (m := (gp W.knots j).2 - (gp W.knots j).1 + 1) (by omega)
  have e : gi (trulyU W bits k) j = (gp W.knots j).1 + rnd (takeI bits j) ((gp W.knots j).2 - (gp W.knots j).1 + 1) := by
    unfold gi trulyU
    rw [List.getD_eq_getElem?_getD, List.getElem?_map, List.getElem?_range h]; rfl
  omega
theorem trulyU_get (W : Wood) (bits : List Int) {k j : Nat} (h : j < k) : gi (trulyU W bits k) j = (gp W.knots j).1 + rnd (takeI bits j) ((gp W.knots j).2 - (gp W.knots j).1 + 1) := by
  unfold gi trulyU
  rw [List.getD_eq_getElem?_getD, List.getElem?_map, List.getElem?_range h]; rfl

attribute [local go_sem ↓] append_alias

set_option maxRecDepth 100000 in
set_option maxHeartbeats 4000000 in
theorem truly_any {B C : Nat} {v : Value} {W : Wood} {ba : Option Addr} {bn bc : Nat} {bits : List Int} {w : World} (hB : B ≤ w.heap.size) (hC : C ≤ w.heap.size) (hk : KnotsV B w v W) (hbits : IntsAt C w ba bn bits)
    (hW : ∀ k, k < W.knots.length → Knot (gp W.knots k)) (h3 : W.knots.length ≤ 3) :
    Calls Try.prog 36 #[.agg #[.int .i64 W.long, v], .slice ba bn bc] w fun e w' => ∃ a m c, e = .returned (.slice a m c) ∧ IntsAt w'.heap.size w' a m (trulyU W bits W.knots.length) ∧ Below w.heap.size w w' := by
  obtain ⟨ka, kn, kc, rfl, hks⟩ := hk
  have hkl := Lib.hid hks.len
  have hkn3 : kn ≤ 3 := by rw [← hks.len]; exact h3
  obtain ⟨W0, hW0⟩ : ∃ W0, W0 = (w.alloc (.cells #[.int .i64 W.long, .slice ka kn kc] 48)).alloc (.cells #[] 3) := ⟨_, rfl⟩
  have hb0 : Below w.heap.size w W0 := by rw [hW0]; exact ((Below.refl _ _).alloc (Nat.le_refl _) _).alloc (by simp) _
  have hk0 : Blk W0 w.heap.size #[.int .i64 W.long, .slice ka kn kc] := by rw [hW0]; exact (Blk.new w _ _).alloc _
  have hz0 : W0.heap.size = w.heap.size + 2 := by rw [hW0]; simp
  have ho0 : W0.ownsRow (w.heap.size + 1) 3 1 (.slice (some ⟨w.heap.size + 1, 0, none⟩) 0 0) 0 [] := by
    rw [hW0]
    have := World.ownsRow_lit (base := w.heap.size + 1) (e := 3) (size := 1) (w.alloc (.cells #[.int .i64 W.long, .slice ka kn kc] 48)) #[] 0 (by simp) (by decide) rfl
    rw [World.size_alloc] at this
    exact this
  have hks0 := Lib.hid (hks.keep (w' := W0) (Nat.le_refl _) (fun b o h => bcells hb0 b o (by omega)))
  have hbt0 := Lib.hid (hbits.keep (w' := W0) (Nat.le_refl _) (fun b o h => bcells hb0 b o (by omega)))
  have hl0 : w.heap.size + 1 < W0.heap.size := by omega
  have hz0' := Lib.hid hz0
  have hW' := Lib.hid hW
  clear hks hbits hz0 hW
  go_enter Try.func36, Try.ntmps36
  replace hW0 := hW0.symm
  go_wp2_with (fail)
  clear hW0
  obtain ⟨i0, hi, hz0, hz1, hz2⟩ := info_parts intInfo3
  go_loopw [5, 6] (fun l i wr => ∃ k : Nat, k ≤ kn ∧ i = .int .i64 k ∧ wr.ownsRow (w.heap.size + 1) 3 1 l (trulyU W bits k).length ((trulyU W bits k).map intV) ∧ SameBut (fun i => w.heap.size + 1 ≤ i) W0 wr) (fun _ i _ => kn - (intOf i).toNat)
  case atStart => exact ⟨0, by omega, rfl, ho0, SameBut.refl _ _⟩
  case round =>
    obtain ⟨k, hk, rfl, hown, hs⟩ := hrel
    obtain ⟨va, vn, vc, hv⟩ := own_slice hown
    subst hv
    have hkr := hk0.same hs (by omega)
    have q1 : wr.cell? ⟨w.heap.size, 1, none⟩ = some (.slice ka kn kc) := hkr.cell
    have lr : w.heap.size < wr.heap.size := hkr.lt
    by_cases hlt : k < kn
    · obtain ⟨kb, ko, rfl, hkB, hkc⟩ := hks0.out.get k hlt
      obtain ⟨g1, g2, _, _⟩ := hkc k hlt
      clear hkc
      have hK := hW'.out k (by rw [hkl.out]; exact hlt)
      unfold Knot at hK
      have hsu := trulyU_succ W bits k
      have hln := trulyU_len W bits k
      obtain ⟨X, hX⟩ : ∃ X, X = (gp W.knots k).1 := ⟨_, rfl⟩
      obtain ⟨Y, hY⟩ : ∃ Y, Y = (gp W.knots k).2 := ⟨_, rfl⟩
      rw [← hX] at g1 hK hsu
      rw [← hY] at g2 hK hsu
      obtain ⟨x0, x1, x2⟩ := hK
      obtain ⟨T, hT⟩ : ∃ T, T = takeI bits k := ⟨_, rfl⟩
      rw [← hT] at hsu
      have hT' := Lib.hid hT
      obtain ⟨Z, hZ⟩ : ∃ Z, Z = X + rnd T (Y - X + 1) := ⟨_, rfl⟩
      rw [← hZ] at hsu
      have hZ' := Lib.hid hZ
      have hsu' := Lib.hid hsu
      have hln' := Lib.hid hln
      clear hX hY hT hZ hsu hln
      have hS0 : SameBut (fun i => w.heap.size + 1 ≤ i) wr wr.drew := (SameBut.refl _ _).drew
      have hread : ∀ w', SameBut (fun i => w.heap.size + 1 ≤ i) wr w' → w'.cell? ⟨w.heap.size, 1, none⟩ = some (.slice (some ⟨kb, ko, none⟩) kn kc) ∧ w'.cell? ⟨kb, ko + k * 2, none⟩ = some (.int .i64 X) ∧ w'.cell? ⟨kb, ko + k * 2 + 1, none⟩ = some (.int .i64 Y) := fun w' h =>
        ⟨(hkr.same h (by omega)).cell, ((hs.trans h).cell (by omega) (by omega)).trans g1, ((hs.trans h).cell (by omega) (by omega)).trans g2⟩
      have hki : (k : Int) < kn := by omega
      go_wp2
      have hO := open_wide
      have hF := hO.fn
      have hd := hO.depth
      refine region_planW (fun w' => SameBut (fun i => w.heap.size + 1 ≤ i) wr w') [(0, true), (1, true), (2, true), (3, true), (4, true), (5, true), (6, true), (7, true), (8, false), (9, false), (10, false), (11, false), (12, true)] (by kernel_rfl) (by kernel_rfl) (by kernel_rfl) (by decide) (by kernel_rfl) ?_
      iterate 8
        (refine plan_take ?_ rfl hS0 (by rfl) ?_ ?_
         rotate_left
         · intro w' hw'
           obtain ⟨q1, q2, q3⟩ := hread w' hw'
           go_simp
           with_reducible rfl
         simp only [Act.put, List.setIfInBounds_toArray, List.set_cons_zero, List.set_cons_succ])
      refine plan_one rfl (by rfl) (fun K hK => ?_)
      go_simp
      have hbt1 := Lib.hid (hbt0.out.keep (w' := wr.drew) (Nat.le_refl _) (fun b o h => hs.cell (by omega) (by omega)))
      refine (hO.calls (Take_any (m := (k : Int)) hbt1.out)).mono ?_
      rintro e w5 ⟨rfl, rfl⟩
      rw [← hT'.out]
      refine hK _ _ hS0 ?_
      clear hK K hbt1
      refine plan_one rfl (by rfl) (fun K hK => ?_)
      go_simp
      refine (hO.calls (Any_any (m := T) _ x0 x1 (by omega))).mono ?_
      rintro e w6 ⟨rfl, hb6⟩
      rw [← hZ'.out]
      have hS6 : SameBut (fun i => w.heap.size + 1 ≤ i) wr w6 := hS0.below hb6
      have hF6 : SameBut (fun _ => False) wr w6 := ((SameBut.refl (fun _ => False) wr).drew).below hb6
      refine hK _ _ hS6 ?_
      clear hK K hb6
      refine plan_one rfl (by rfl) (fun K hK => ?_)
      go_simp
      refine hK _ _ (hS6.alloc _) ?_
      clear hK K
      have hown6 := own_same hown hF6 (fun _ _ h => h)
      obtain ⟨v', w7, hap, hown7, hgr7, _, _⟩ := run_append_own_at (P := Try.prog) (w := w6.alloc (.cells #[.int .i64 Z] 3)) (w.heap.size + 1) 31 31 3 i0 (.int .i64 0) 1 8 intsUnder hi hz0 hz1 hz2 rfl (by decide) (.slice va vn vc) _ _ (hown6.alloc _) ⟨w6.heap.size, 0, none⟩ 1 1 [.int .i64 Z] rfl
        (fun j u hj => by
          match j, hj with
          | 0, hj =>
            simp at hj; subst hj
            exact (Blk.new w6 #[.int .i64 Z] 3).cell)
        (fun u hu => by simp at hu; subst hu; rfl) (by rw [hln'.out]; unfold maxLen; omega) (by rw [hln'.out]; omega) (by have := hS6.size; simp; omega)
      have hlt6 := hown6.lt
      have hS7 : SameBut (fun i => w.heap.size + 1 ≤ i) wr w7 := (hS6.alloc _).trans (same_grown hgr7 (fun k h => (hlt6 k h).1))
      have hown8 : w7.ownsRow (w.heap.size + 1) 3 1 v' (trulyU W bits (k + 1)).length ((trulyU W bits (k + 1)).map intV) := by
        rw [hsu'.out, List.length_append, List.map_append]; exact hown7
      rw [append_alias] at hap
      have hown8' := Lib.hid hown8
      clear hown7 hown8 hgr7 hlt6
      refine plan_one rfl (by rfl) (fun K hK => ?_)
      go_simp
      refine hK _ _ hS7 ?_
      clear hK K hap
      refine plan_take ?_ rfl hS7 (by rfl) ?_ ?_
      rotate_left
      · intro w' hw'
        go_simp
        with_reducible rfl
      simp only [Act.put, List.setIfInBounds_toArray, List.set_cons_zero, List.set_cons_succ]
      unfold planW okN
      go_wp2
      go_roundw
      case rel => exact ⟨k + 1, by omega, by go_num, hown8'.out, hs.trans hS7⟩
      case measure => simp [intOf]; omega
    · obtain rfl : k = kn := by omega
      go_wp2
      go_ret
      obtain ⟨a, m, c, e, hx⟩ := ints_of_own hown (fun i hi => by rw [trulyU_len] at hi; have := trulyU_range W bits hi hW'.out (by rw [hkl.out]; exact Nat.le_refl _); have hK := hW'.out i (by rw [hkl.out]; exact hi); unfold Knot at hK; unfold I64; omega) (by rw [trulyU_len]; omega)
      cases e
      refine ⟨_, _, _, rfl, by rw [hkl.out]; exact hx, ?_⟩
      exact hb0.trans ((hs.toBelow (B := w.heap.size) (by omega) (fun i h => by omega)))
end Go.Proofs.Ytbbolibkheelmaa
namespace Go.Proofs.Ytbbolibkheelmaa
open Go.RowKit Go.Shelf

set_option maxHeartbeats 400000 in
theorem Of_any {n k : Nat} (w : World) (hn : n < 32) (hk : k < 5) :
    Calls Try.prog 90 #[.int .i64 n, .int .i64 k] w fun e w' => e = .returned (.bool (hasN n k)) ∧ w = w' := by
  have hbit := has_bit hn hk
  obtain ⟨R, hR⟩ : ∃ R, R = hasN n k := ⟨_, rfl⟩
  rw [← hR] at hbit ⊢
  clear hR
  go_enter Try.func90, Try.ntmps90
  go_wp2
  go_ret
  exact ⟨rfl, rfl⟩

attribute [local go_sem ↓] append_alias

set_option maxRecDepth 100000 in
set_option maxHeartbeats 2000000 in
theorem List_cap {s N : Nat} {w : World} (hs : s < 32) (hN : N ≤ 5) :
    Calls Try.prog 40 #[.int .i64 s, .int .i64 N] w fun e w' => ∃ a m c, e = .returned (.slice a m c) ∧ IntsAt w'.heap.size w' a m (memU s N) ∧ Below w.heap.size w w' ∧ m ≤ c := by
  obtain ⟨W0, hW0⟩ : ∃ W0, W0 = w.alloc (.cells #[] 3) := ⟨_, rfl⟩
  have hb0 : Below w.heap.size w W0 := by rw [hW0]; exact (Below.refl _ _).alloc (Nat.le_refl _) _
  have hz0 : W0.heap.size = w.heap.size + 1 := by rw [hW0]; simp
  have ho0 : W0.ownsRow w.heap.size 3 1 (.slice (some ⟨w.heap.size, 0, none⟩) 0 0) 0 [] := by
    rw [hW0]
    exact World.ownsRow_lit (base := w.heap.size) (e := 3) (size := 1) w #[] 0 (Nat.le_refl _) (by decide) rfl
  have hz0' := Lib.hid hz0
  clear hz0
  go_enter Try.func40, Try.ntmps40
  replace hW0 := hW0.symm
  go_wp2_with (fail)
  clear hW0
  obtain ⟨i0, hi, hz0, hz1, hz2⟩ := info_parts intInfo3
  go_loopw [5, 6] (fun v i wr => ∃ k : Nat, k ≤ N ∧ i = .int .i64 k ∧ wr.ownsRow w.heap.size 3 1 v (memU s k).length ((memU s k).map intV) ∧ Below w.heap.size w wr) (fun _ i _ => (N - intOf i).toNat)
  case atStart => exact ⟨0, by omega, rfl, ho0, hb0⟩
  case round =>
    obtain ⟨k, hk, rfl, hown, hb⟩ := hrel
    obtain ⟨va, vn, vc, hv⟩ := own_slice hown
    subst hv
    by_cases hlt : k < N
    · have hsu := memU_succ s k
      have hml := memU_len s k
      rcases Bool.eq_false_or_eq_true (hasN s k) with hh | hh
      · rw [hh] at hsu
        simp only [if_true] at hsu
        have hh' := Lib.hid hh
        clear hh
        obtain ⟨v', w5, hap, hown5, hgr5, _, _⟩ := run_append_own_at (P := Try.prog) (w := wr.alloc (.cells #[.int .i64 k] 3)) w.heap.size 31 31 3 i0 (.int .i64 0) 1 8 intsUnder hi hz0 hz1 hz2 rfl (by decide) (.slice va vn vc) _ _ (hown.alloc _) ⟨wr.heap.size, 0, none⟩ 1 1 [.int .i64 k] rfl
          (fun j u hj => by
            match j, hj with
            | 0, hj =>
              simp at hj; subst hj
              exact (Blk.new wr #[.int .i64 k] 3).cell)
          (fun u hu => by simp at hu; subst hu; rfl) (by unfold maxLen; omega) (by omega) (by have := hb.size; simp; omega)
        have hlt5 := hown.lt
        have hb5 : Below w.heap.size w w5 := by
          have h1 : SameBut (fun i => w.heap.size ≤ i) wr w5 := ((SameBut.refl _ wr).alloc _).trans (same_grown hgr5 (fun k h => (hlt5 k h).1))
          exact hb.trans (h1.toBelow hb.size (fun _ h => h))
        have hown6 : w5.ownsRow w.heap.size 3 1 v' (memU s (k + 1)).length ((memU s (k + 1)).map intV) := by
          rw [hsu, List.length_append, List.map_append]; exact hown5
        rw [append_alias] at hap
        have hown6' := Lib.hid hown6
        clear hown5 hown6 hgr5 hsu hlt5
        go_wp2_with (go_at_call 90; refine (Of_any _ hs (by omega)).mono ?_; rintro e w' ⟨rfl, rfl⟩; rw [hh'.out])
        go_roundw
        case rel => exact ⟨k + 1, by omega, by go_num, hown6'.out, hb5⟩
        case measure => simp [intOf]; omega
      · rw [hh] at hsu
        simp only [Bool.false_eq_true, if_false, List.append_nil] at hsu
        have hown6 : wr.ownsRow w.heap.size 3 1 (.slice va vn vc) (memU s (k + 1)).length ((memU s (k + 1)).map intV) := by rw [hsu]; exact hown
        have hown6' := Lib.hid hown6
        have hh' := Lib.hid hh
        clear hh hsu hown6
        go_wp2_with (go_at_call 90; refine (Of_any _ hs (by omega)).mono ?_; rintro e w' ⟨rfl, rfl⟩; rw [hh'.out])
        go_roundw
        case rel => exact ⟨k + 1, by omega, by go_num, hown6'.out, hb⟩
        case measure => simp [intOf]; omega
    · obtain rfl : k = N := by omega
      go_wp2
      go_ret
      obtain ⟨a, m, c, e, hx⟩ := ints_of_own hown (fun i hi => (memU_i64 (by omega) hi).2.2) (by have := memU_len s k; omega)
      cases e
      exact ⟨_, _, _, rfl, hx, hb, own_cap hown⟩
theorem List_any {s N : Nat} {w : World} (hs : s < 32) (hN : N ≤ 5) :
    Calls Try.prog 40 #[.int .i64 s, .int .i64 N] w fun e w' => ∃ a m c, e = .returned (.slice a m c) ∧ IntsAt w'.heap.size w' a m (memU s N) ∧ Below w.heap.size w w' :=
  (List_cap hs hN).mono fun _ _ ⟨a, m, c, h1, h2, h3, _⟩ => ⟨a, m, c, h1, h2, h3⟩
end Go.Proofs.Ytbbolibkheelmaa
