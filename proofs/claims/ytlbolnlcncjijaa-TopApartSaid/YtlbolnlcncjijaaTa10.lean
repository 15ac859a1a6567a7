/- TopApart returns true for every book and three numbers; no condition. TopApart. Slices that are built, and appended to, within a tree. TopApart: what is true of the two books; the examples. -/
import Derived.Test.YtlbolnlcncjijaaTa09
import Derived.Test.YtlbolnlcncjijaaGa17
namespace Go.Proofs.Ytlbolnlcncjijaa.Tp
open Go.RowKit
def ac51 : AC := (AC.seq (AC.ops [(AOp.mk (some 0) (AK.new (PV.agg [(PV.val (Value.int IntKind.i64 0)), (PV.sl SK.full 0 [])])) none 0 false true)]) (AC.seq (AC.ops [(AOp.mk (some 1) (AK.bslice false 3 1 3 [(PV.val (Value.int IntKind.i64 0))] [(0, (1, (AX.c (PV.val (Value.int IntKind.i64 1))))), (1, (1, (AX.c (PV.val (Value.int IntKind.i64 2))))), (2, (1, (AX.c (PV.val (Value.int IntKind.i64 4)))))]) none 0 false true), (AOp.mk (some 2) (AK.bslice false 3 1 3 [(PV.val (Value.int IntKind.i64 0))] [(0, (1, (AX.c (PV.val (Value.int IntKind.i64 2))))), (1, (1, (AX.c (PV.val (Value.int IntKind.i64 4))))), (2, (1, (AX.c (PV.val (Value.int IntKind.i64 1)))))]) none 1 false true), (AOp.mk (some 3) (AK.bslice false 3 1 3 [(PV.val (Value.int IntKind.i64 0))] [(0, (1, (AX.c (PV.val (Value.int IntKind.i64 1))))), (1, (1, (AX.c (PV.val (Value.int IntKind.i64 2))))), (2, (1, (AX.c (PV.val (Value.int IntKind.i64 6)))))]) none 2 false true), (AOp.mk (some 4) (AK.bslice false 31 1 3 [(PV.sl SK.full 0 [])] [(0, (1, (AX.t 1))), (1, (1, (AX.t 2))), (2, (1, (AX.t 3)))]) none 3 false true), (AOp.mk (some 5) (AK.build [(PV.val (Value.int IntKind.i64 0)), (PV.sl SK.full 0 [])] [(0, (1, (AX.c (PV.val (Value.int IntKind.i64 3))))), (1, (1, (AX.t 4)))]) none 4 false true), (AOp.mk none (AK.st 2 (AX.t 0) (AX.t 5)) none 5 false true)]) AC.ret))
theorem ac51_ok : cCode Try.prog (fun _ => false) Try.f51.ntmps (Try.f51.body.getD .skip) = some ac51 := by kernel_rfl
def ac27 : AC := (AC.seq (AC.ops [(AOp.mk (some 0) (AK.mv (AX.c (PV.val (Value.bool false)))) none 0 false true)]) (AC.seq (AC.ops [(AOp.mk (some 12) (AK.call 51 []) none 0 false true), (AOp.mk (some 13) (AK.bslice false 3 1 3 [(PV.val (Value.int IntKind.i64 0))] [(0, (1, (AX.c (PV.val (Value.int IntKind.i64 0))))), (1, (1, (AX.c (PV.val (Value.int IntKind.i64 1))))), (2, (1, (AX.c (PV.val (Value.int IntKind.i64 2)))))]) none 1 false true), (AOp.mk (some 14) (AK.call 50 [(AX.t 12), (AX.t 13)]) none 2 false true), (AOp.mk (some 11) (AK.mv (AX.t 14)) none 3 false true), (AOp.mk (some 15) (AK.ext (AX.t 11) 0) none 4 false true), (AOp.mk (some 16) (AK.ext (AX.t 11) 1) none 5 false true), (AOp.mk (some 1) (AK.mv (AX.t 15)) none 6 false true), (AOp.mk (some 2) (AK.mv (AX.t 16)) none 7 false true)]) (AC.seq (AC.ops [(AOp.mk (some 18) (AK.call 51 []) none 0 false true), (AOp.mk (some 19) (AK.bslice false 3 1 3 [(PV.val (Value.int IntKind.i64 0))] [(0, (1, (AX.c (PV.val (Value.int IntKind.i64 0))))), (1, (1, (AX.c (PV.val (Value.int IntKind.i64 1))))), (2, (1, (AX.c (PV.val (Value.int IntKind.i64 2)))))]) none 1 false true), (AOp.mk (some 20) (AK.call 52 [(AX.t 18), (AX.t 19)]) none 2 false true), (AOp.mk (some 21) (AK.call 10 [(AX.t 20)]) none 3 false true), (AOp.mk (some 17) (AK.mv (AX.t 21)) none 4 false true), (AOp.mk (some 22) (AK.ext (AX.t 17) 0) none 5 false true), (AOp.mk (some 23) (AK.ext (AX.t 17) 1) none 6 false true), (AOp.mk (some 3) (AK.mv (AX.t 22)) none 7 false true), (AOp.mk (some 4) (AK.mv (AX.t 23)) none 8 false true)]) (AC.seq (AC.ops [(AOp.mk (some 25) (AK.call 51 []) none 0 false true), (AOp.mk (some 26) (AK.call 28 [(AX.t 25), (AX.c (PV.val (Value.int IntKind.i64 0))), (AX.c (PV.val (Value.int IntKind.i64 1)))]) none 1 false true), (AOp.mk (some 24) (AK.mv (AX.t 26)) none 2 false true), (AOp.mk (some 27) (AK.ext (AX.t 24) 0) none 3 false true), (AOp.mk (some 28) (AK.ext (AX.t 24) 1) none 4 false true), (AOp.mk (some 5) (AK.mv (AX.t 27)) none 5 false true), (AOp.mk (some 6) (AK.mv (AX.t 28)) none 6 false true)]) (AC.seq (AC.ops [(AOp.mk (some 30) (AK.call 51 []) none 0 false true), (AOp.mk (some 31) (AK.call 52 [(AX.t 30), (AX.c (PV.sl SK.full 0 []))]) none 1 false true), (AOp.mk (some 32) (AK.call 19 [(AX.t 31), (AX.c (PV.val (Value.int IntKind.i64 0))), (AX.c (PV.val (Value.int IntKind.i64 1)))]) none 2 false true), (AOp.mk (some 29) (AK.mv (AX.t 32)) none 3 false true), (AOp.mk (some 33) (AK.ext (AX.t 29) 0) none 4 false true), (AOp.mk (some 34) (AK.ext (AX.t 29) 1) none 5 false true), (AOp.mk (some 7) (AK.mv (AX.t 33)) none 6 false true), (AOp.mk (some 8) (AK.mv (AX.t 34)) none 7 false true)]) (AC.seq (AC.ops [(AOp.mk (some 36) (AK.call 51 []) none 0 false true), (AOp.mk (some 37) (AK.call 29 [(AX.t 36)]) none 1 false true), (AOp.mk (some 35) (AK.mv (AX.t 37)) none 2 false true), (AOp.mk (some 38) (AK.ext (AX.t 35) 0) none 3 false true), (AOp.mk (some 39) (AK.ext (AX.t 35) 1) none 4 false true), (AOp.mk (some 9) (AK.mv (AX.t 38)) none 5 false true), (AOp.mk (some 10) (AK.mv (AX.t 39)) none 6 false true)]) (AC.seq (AC.ops [(AOp.mk (some 40) (AK.mv (AX.t 2)) none 0 false true), (AOp.mk (some 41) (AK.bin false BinOp.eql (AX.t 40) (AX.c (PV.val (Value.int IntKind.i64 0)))) none 1 false true), (AOp.mk (some 42) (AK.mv (AX.t 41)) none 2 false true), (AOp.mk (some 43) (AK.mv (AX.t 4)) (some (42, true)) 3 false true), (AOp.mk (some 44) (AK.bin false BinOp.eql (AX.t 43) (AX.c (PV.val (Value.int IntKind.i64 0)))) (some (42, true)) 4 false true), (AOp.mk (some 45) (AK.pick (AX.t 42) (AX.t 44) (AX.c (PV.val (Value.bool false)))) none 5 false true), (AOp.mk (some 46) (AK.mv (AX.t 45)) none 6 false true), (AOp.mk (some 47) (AK.mv (AX.t 6)) (some (46, true)) 7 false true), (AOp.mk (some 48) (AK.bin false BinOp.eql (AX.t 47) (AX.c (PV.val (Value.int IntKind.i64 0)))) (some (46, true)) 8 false true), (AOp.mk (some 49) (AK.pick (AX.t 46) (AX.t 48) (AX.c (PV.val (Value.bool false)))) none 9 false true), (AOp.mk (some 50) (AK.mv (AX.t 49)) none 10 false true), (AOp.mk (some 51) (AK.mv (AX.t 8)) (some (50, true)) 11 false true), (AOp.mk (some 52) (AK.bin false BinOp.eql (AX.t 51) (AX.c (PV.val (Value.int IntKind.i64 0)))) (some (50, true)) 12 false true), (AOp.mk (some 53) (AK.pick (AX.t 50) (AX.t 52) (AX.c (PV.val (Value.bool false)))) none 13 false true), (AOp.mk (some 54) (AK.mv (AX.t 53)) none 14 false true), (AOp.mk (some 55) (AK.mv (AX.t 10)) (some (54, true)) 15 false true), (AOp.mk (some 56) (AK.bin false BinOp.eql (AX.t 55) (AX.c (PV.val (Value.int IntKind.i64 0)))) (some (54, true)) 16 false true), (AOp.mk (some 57) (AK.pick (AX.t 54) (AX.t 56) (AX.c (PV.val (Value.bool false)))) none 17 false true), (AOp.mk (some 58) (AK.mv (AX.t 57)) none 18 false true), (AOp.mk (some 59) (AK.mv (AX.t 1)) (some (58, true)) 19 false true), (AOp.mk (some 60) (AK.bslice false 3 1 3 [(PV.val (Value.int IntKind.i64 0))] [(0, (1, (AX.c (PV.val (Value.int IntKind.i64 0))))), (1, (1, (AX.c (PV.val (Value.int IntKind.i64 1))))), (2, (1, (AX.c (PV.val (Value.int IntKind.i64 2)))))]) (some (58, true)) 20 false true), (AOp.mk (some 61) (AK.call 25 [(AX.t 59), (AX.t 60)]) (some (58, true)) 21 false true), (AOp.mk (some 62) (AK.pick (AX.t 58) (AX.t 61) (AX.c (PV.val (Value.bool false)))) none 22 false true), (AOp.mk (some 63) (AK.mv (AX.t 62)) none 23 false true), (AOp.mk (some 64) (AK.mv (AX.t 3)) (some (63, true)) 24 false true), (AOp.mk (some 65) (AK.bslice false 3 1 2 [(PV.val (Value.int IntKind.i64 0))] [(0, (1, (AX.c (PV.val (Value.int IntKind.i64 0))))), (1, (1, (AX.c (PV.val (Value.int IntKind.i64 2)))))]) (some (63, true)) 25 false true), (AOp.mk (some 66) (AK.call 25 [(AX.t 64), (AX.t 65)]) (some (63, true)) 26 false true), (AOp.mk (some 67) (AK.pick (AX.t 63) (AX.t 66) (AX.c (PV.val (Value.bool false)))) none 27 false true), (AOp.mk (some 68) (AK.mv (AX.t 67)) none 28 false true), (AOp.mk (some 69) (AK.mv (AX.t 5)) (some (68, true)) 29 false true), (AOp.mk (some 70) (AK.bslice false 3 1 1 [(PV.val (Value.int IntKind.i64 0))] [(0, (1, (AX.c (PV.val (Value.int IntKind.i64 1)))))]) (some (68, true)) 30 false true), (AOp.mk (some 71) (AK.call 25 [(AX.t 69), (AX.t 70)]) (some (68, true)) 31 false true), (AOp.mk (some 72) (AK.pick (AX.t 68) (AX.t 71) (AX.c (PV.val (Value.bool false)))) none 32 false true), (AOp.mk (some 73) (AK.mv (AX.t 72)) none 33 false true), (AOp.mk (some 74) (AK.mv (AX.t 7)) (some (73, true)) 34 false true), (AOp.mk (some 75) (AK.pick (AX.t 73) (AX.t 74) (AX.c (PV.val (Value.bool false)))) none 35 false true), (AOp.mk (some 76) (AK.mv (AX.t 75)) none 36 false true), (AOp.mk (some 77) (AK.mv (AX.t 9)) (some (76, true)) 37 false true), (AOp.mk (some 78) (AK.bslice false 3 1 2 [(PV.val (Value.int IntKind.i64 0))] [(0, (1, (AX.c (PV.val (Value.int IntKind.i64 0))))), (1, (1, (AX.c (PV.val (Value.int IntKind.i64 1)))))]) (some (76, true)) 38 false true), (AOp.mk (some 79) (AK.call 25 [(AX.t 77), (AX.t 78)]) (some (76, true)) 39 false true), (AOp.mk (some 80) (AK.pick (AX.t 76) (AX.t 79) (AX.c (PV.val (Value.bool false)))) none 40 false true), (AOp.mk (some 0) (AK.mv (AX.t 80)) none 41 false true)]) AC.ret)))))))
theorem ac27_ok : cCode Try.prog (fun _ => false) Try.f27.ntmps (Try.f27.body.getD .skip) = some ac27 := by kernel_rfl
theorem both_meet {P : Mk.MBook} (h : Mk.okC P) (hrep : P.repairs = 0) {o u : Nat} (hoo : o < P.makers.length) (hu : u < P.makers.length) : Mk.bothB P o u = true ↔ ∀ k, k < Mk.nK P → Mk.mkN P o k &&& Mk.mkN P u k ≠ 0 := by
  rw [Mk.both_iff h]
  constructor
  · intro hb k hk e
    have hm := (Mk.both_share hb).2
    rw [hrep] at hm
    have h0 : Mk.manyD P o u (Mk.nK P) = 0 := by omega
    unfold Mk.manyD at h0
    rw [List.length_eq_zero_iff, List.filter_eq_nil_iff] at h0
    exact h0 k (List.mem_range.2 hk) (decide_eq_true e)
  · intro H
    have hv : ∀ m, m < P.makers.length → ∀ k, k < Mk.nK P → Mk.valN (Mk.unseenB P) m 0 k = Mk.mkN P m k := fun m hm k hk => by
      unfold Mk.valN
      rw [Nat.zero_testBit, if_neg (by decide)]
      exact Mk.bare_own h hm hk
    have hc0 : (Mk.cntN 0 (Mk.nK (Mk.unseenB P)) : Int) ≤ (Mk.unseenB P).repairs := by
      have : Mk.cntN 0 (Mk.nK (Mk.unseenB P)) = 0 := by
        unfold Mk.cntN
        rw [List.length_eq_zero_iff, List.filter_eq_nil_iff]
        intro k _
        rw [Nat.zero_testBit]
        decide
      rw [this]
      show (0 : Int) ≤ P.repairs
      omega
    have hf0 : ∀ k, Nat.testBit 0 k = true → (Mk.fixN (Mk.unseenB P)).testBit k = false := fun k hk => by
      rw [Nat.zero_testBit] at hk
      cases hk
    have hn0 : ∀ m, m < P.makers.length → ∀ k, k < Mk.nK (Mk.unseenB P) → Mk.valN (Mk.unseenB P) m 0 k ≠ 0 := fun m hm k hk => by
      have hk2 : k < Mk.nK P := hk
      rw [hv m hm k hk2]
      have := (h.mk hm hk2).1
      omega
    have ht : ∀ m, m < P.makers.length → 0 ∈ Mk.truthsL (Mk.unseenB P) m := fun m hm => Mk.mem_truths.2 ⟨Nat.two_pow_pos _, ⟨hf0, hc0, hn0 m hm⟩⟩
    exact ⟨0, ht o hoo, 0, ht u hu, fun k hk => by rw [hv o hoo k hk, hv u hu k hk]; exact H k hk⟩
set_option maxRecDepth 100000 in
theorem meet_natT : ∀ i j : Fin 15, meetB ((i.val : Int) + 1) ((j.val : Int) + 1) = decide ((i.val + 1) &&& (j.val + 1) ≠ 0) := by decide
theorem meet_nat {x y : Int} (hx : setB x) (hy : setB y) : meetB x y = decide (x.toNat &&& y.toNat ≠ 0) := by
  obtain ⟨i, rfl⟩ := setB_cases hx
  obtain ⟨j, rfl⟩ := setB_cases hy
  rw [meet_natT i j]
  have e1 : ((i.val : Int) + 1).toNat = i.val + 1 := by omega
  have e2 : ((j.val : Int) + 1).toNat = j.val + 1 := by omega
  rw [e1, e2]
def pairB (b : DBook) (h u t : Nat) : Mk.MBook := ⟨[rotL (b.horses.getD h []) t, b.horses.getD u []], [], 0, 0⟩
theorem row_at {b : DBook} (ho : okBook b) {h : Nat} (hh : h < b.horses.length) : (b.horses.getD h []).length = nR b ∧ ∀ x ∈ b.horses.getD h [], 1 ≤ x ∧ x ≤ 15 := by
  have e : b.horses.getD h [] = b.horses[h] := by rw [List.getD_eq_getElem?_getD, List.getElem?_eq_getElem hh]; rfl
  rw [e]
  have H := ho.2.2 _ (List.getElem_mem hh)
  have := (okR ho).2.2
  exact ⟨by have := H.1; omega, H.2⟩
theorem pair_nK {b : DBook} (ho : okBook b) {h u t : Nat} (hh : h < b.horses.length) : Mk.nK (pairB b h u t) = nR b := by
  show (rotL (b.horses.getD h []) t).length = nR b
  rw [rotL_len]
  exact (row_at ho hh).1
theorem pair_ok {b : DBook} (hs : smallB b) {h u t : Nat} (hh : h < b.horses.length) (hu : u < b.horses.length) : Mk.okBook (pairB b h u t) := by
  have ho := hs.1
  have hk := pair_nK ho (u := u) (t := t) hh
  obtain ⟨h1, h8, hn⟩ := okR ho
  have h6 := hs.2.1
  obtain ⟨l1, r1⟩ := row_at ho hh
  obtain ⟨l2, r2⟩ := row_at ho hu
  refine ⟨⟨⟨by show 1 ≤ 2; omega, by show 2 ≤ 5; omega⟩, ⟨by omega, by omega⟩, ?_, (fun m hm => by cases hm), ⟨by show (0 : Int) ≤ 0; omega, by show (0 : Int) ≤ _; omega⟩, by show (0 : Int) ≤ 0; omega, ?_⟩, by show 0 ≤ 8; omega⟩
  · intro r hr
    rw [hk]
    have hr' : r = rotL (b.horses.getD h []) t ∨ r = b.horses.getD u [] := by simpa [pairB] using hr
    rcases hr' with rfl | rfl
    · refine ⟨by rw [rotL_len, l1], fun x hx => ?_⟩
      obtain ⟨p, hp, rfl⟩ := List.mem_map.1 hx
      have hm : (p + t) % (b.horses.getD h []).length < (b.horses.getD h []).length := Nat.mod_lt _ (by omega)
      rw [List.getD_eq_getElem?_getD, List.getElem?_eq_getElem hm]
      have := r1 _ (List.getElem_mem hm)
      exact ⟨this.1, by show (b.horses.getD h [])[(p + t) % (b.horses.getD h []).length] ≤ 31; omega⟩
    · exact ⟨l2, fun x hx => ⟨(r2 x hx).1, by have := (r2 x hx).2; omega⟩⟩
  · show (0 : Int) ≤ 2 ^ Mk.nK (pairB b h u t) - 1
    have : (1 : Int) ≤ 2 ^ Mk.nK (pairB b h u t) := by
      have := Nat.two_pow_pos (Mk.nK (pairB b h u t))
      exact_mod_cast this
    omega
theorem told_eq {b : DBook} (hs : smallB b) {h u t : Nat} (hh : h < b.horses.length) (hu : u < b.horses.length) (ht : t < nR b) : Mk.bothB (pairB b h u t) 0 1 = decide (t ∈ turnsI b h u) := by
  have ho := hs.1
  have hP := (pair_ok hs (t := t) hh hu).1
  have hk := pair_nK ho (u := u) (t := t) hh
  obtain ⟨l1, -⟩ := row_at ho hh
  have h1 := (okR ho).1
  have m0 : ∀ q, q < nR b → Mk.mkN (pairB b h u t) 0 q = (hsI b h ((q + t) % nR b)).toNat := fun q hq => by
    show ((rotL (b.horses.getD h []) t).getD q 0).toNat = ((b.horses.getD h []).getD ((q + t) % nR b) 0).toNat
    have hq2 : q < (rotL (b.horses.getD h []) t).length := by rw [rotL_len, l1]; exact hq
    rw [List.getD_eq_getElem?_getD (l := rotL (b.horses.getD h []) t), List.getElem?_eq_getElem hq2]
    rw [List.getD_eq_getElem?_getD] at l1
    simp [rotL, l1]
  have m1 : ∀ q, Mk.mkN (pairB b h u t) 1 q = (hsI b u q).toNat := fun q => rfl
  rw [Bool.eq_iff_iff, both_meet hP rfl (by show 0 < 2; omega) (by show 1 < 2; omega), decide_eq_true_eq]
  unfold turnsI
  rw [mem_turns ho, hk]
  constructor
  · refine fun H => ⟨ht, fun q hq => ?_⟩
    rw [meet_nat (hs_set ho hh (Nat.mod_lt _ (by omega))) (hs_set ho hu hq), decide_eq_true_eq, ← m0 q hq, ← m1 q]
    exact H q hq
  · rintro ⟨-, H⟩ q hq
    have := H q hq
    rw [meet_nat (hs_set ho hh (Nat.mod_lt _ (by omega))) (hs_set ho hu hq), decide_eq_true_eq, ← m0 q hq, ← m1 q] at this
    exact this
theorem kept_none {b : DBook} (ho : okBook b) {h u : Nat} (hh : h < b.horses.length) (hu : u < b.horses.length) (hne : u ≠ h) (h1 : (h : Int) ∉ dropI b) (h2 : (u : Int) ∉ dropI b) : turnsI b h u = [] := by
  have H := rid_iff.1 (drop_facts b).2.1
  have key : ∀ i k : Nat, i < k → k < b.horses.length → (i : Int) ∉ dropI b → (k : Int) ∉ dropI b → sameI b i k = 0 := fun i k hik hk hi' hk' => by
    have := H i k hik hk
    unfold leftP at this
    rw [decide_eq_false hi', decide_eq_false hk'] at this
    simpa using this
  have hz : sameI b h u = 0 := by
    rcases Nat.lt_or_ge h u with hlt | hge
    · exact key h u hlt hu h1 h2
    · rw [same_comm ho]
      exact key u h (by omega) hh h2 h1
  exact Decidable.byContradiction fun hx => (same_pos ho hh hu).2 hx hz
def herdB : DBook := ⟨3, [[1, 2, 4], [2, 4, 1], [1, 2, 6]]⟩
theorem PVle.rowsK {k : SK} {sz : Nat} {l r : List (List PV)} (h : PVleR l r) : PVle (.sl k sz l) (.sl k sz r) := fun g v hv => by
  obtain ⟨h1, h2⟩ := h.spec
  cases hv with
  | sl _ _ _ ad n c f hl hn hc hm hk hz hat hh =>
    refine .sl k sz r ad n c f (by omega) hn hc hm hk (fun i e he => ?_) hat (fun i j e x he hx => ?_)
    · have hi : i < l.length := by rw [h1]; exact (List.getElem?_eq_some_iff.1 he).1
      rw [← (h2 i _ e (List.getElem?_eq_getElem hi) he).spec.1]
      exact hz i _ (List.getElem?_eq_getElem hi)
    · have hi : i < l.length := by rw [h1]; exact (List.getElem?_eq_some_iff.1 he).1
      obtain ⟨h3, h4⟩ := (h2 i _ e (List.getElem?_eq_getElem hi) he).spec
      have hj : j < l[i].length := by rw [h3]; exact (List.getElem?_eq_some_iff.1 hx).1
      exact h4 j _ x (List.getElem?_eq_getElem hj) hx g _ (hh i j _ _ (List.getElem?_eq_getElem hi) (List.getElem?_eq_getElem hj))
theorem herd_sem : Sem1 51 [] (.agg (bookC .full herdB)) := by
  refine semC_of_exec' mixed Try.func51 (by kernel_rfl) (by kernel_rfl) ac51_ok 0 rfl (by decide) [(.cell 0 54)] (by kernel_rfl) ?_
  intro hr C hC hI
  unfold ac51
  simp only [go_sem, Nat.reduceBEq, Nat.reduceAdd, Nat.reduceLeDiff]
  refine retQ_cell_le (n := some 2) (by kernel_rfl) rfl ?_ rfl
  exact PVle.agg (show PVleL [_, _] [_, _] from ⟨PVle.refl _, PVle.rowsK (show PVleR [_, _, _] [_, _, _] from ⟨⟨PVle.sh _ _ _, trivial⟩, ⟨PVle.sh _ _ _, trivial⟩, ⟨PVle.sh _ _ _, trivial⟩, trivial⟩), trivial⟩)
set_option maxRecDepth 100000 in
theorem ev_whose : Sem1 50 [.agg (bookC .full herdB), pis [0, 1, 2]] (.tup [pis [0, 1, 2], pi 0]) :=
  (Whose_sem .full herdB [0, 1, 2]).mono fun _ h => h.trans (by kernel_rfl)
theorem ev_turns : Sem1 28 [.agg (bookC .full herdB), pi 0, pi 1] (.tup [pis [1], pi 0]) :=
  (Turns_sem .full herdB 0 1).mono fun _ h => h.trans (by kernel_rfl)
theorem ev_drop : Sem1 29 [.agg (bookC .full herdB)] (.tup [pis [0, 1], pi 0]) :=
  (Drop_sem .full herdB).mono fun _ h => h.trans (by kernel_rfl)
set_option maxRecDepth 100000 in
theorem ev_who : Sem1 10 [.agg (Mk.bookC .full .sh (stB herdB [0, 1, 2]))] (.tup [pis [0, 2], pi 0]) :=
  (Mk.Who_sem .full .sh (stB herdB [0, 1, 2])).mono fun _ h => h.trans (by kernel_rfl)
theorem ev_told : Sem1 19 [.agg (Mk.bookC .full .sh (stB herdB [])), pi 0, pi 1] (.tup [pb true, pi 0]) :=
  (Mk.Told_sem .full .sh (stB herdB []) 0 1).mono fun _ h => h.trans (by kernel_rfl)
theorem Equal_lit (k : SK) (l m : List Int) : PVleL [pis l, .sl k 1 (m.map fun x => [pi x])] [pis l, pis m] := ⟨PVle.refl _, PVle.sh _ _ _, trivial⟩
set_option maxRecDepth 100000 in
theorem told_sem : Sem1 27 [] (pb true) := by
  refine semC_of_exec' mixed Try.func27 (by kernel_rfl) (by kernel_rfl) ac27_ok 0 rfl (by decide) [(.tmp 0)] (by kernel_rfl) ?_
  intro hr C hC hI
  unfold ac27
  simp only [go_sem]
  refine call_pure2 hC (herd_sem) rfl (PVleL_refl _) ?_
  rintro r rfl
  simp only [go_sem, Nat.reduceBEq, Nat.reduceAdd, Nat.reduceLeDiff]
  refine call_pure2 hC (ev_whose) rfl ⟨PVle.refl _, PVle.sh _ _ _, trivial⟩ ?_
  rintro r rfl
  simp only [go_sem, Nat.reduceBEq]
  refine call_pure2 hC (herd_sem) rfl (PVleL_refl _) ?_
  rintro r rfl
  simp only [go_sem, Nat.reduceBEq, Nat.reduceAdd, Nat.reduceLeDiff]
  refine call_pure2 hC (stable_sem .full herdB [0, 1, 2] (by unfold Mk.fiveL; simp) (by simp)) rfl ⟨PVle.refl _, PVle.sh _ _ _, trivial⟩ ?_
  rintro r rfl
  simp only [go_sem, Nat.reduceBEq]
  refine call_pure2 hC (ev_who) rfl (PVleL_refl _) ?_
  rintro r rfl
  simp only [go_sem, Nat.reduceBEq]
  refine call_pure2 hC (herd_sem) rfl (PVleL_refl _) ?_
  rintro r rfl
  simp only [go_sem, Nat.reduceBEq]
  refine call_pure2 hC (ev_turns) rfl (PVleL_refl _) ?_
  rintro r rfl
  simp only [go_sem, Nat.reduceBEq]
  refine call_pure2 hC (herd_sem) rfl (PVleL_refl _) ?_
  rintro r rfl
  simp only [go_sem, Nat.reduceBEq]
  refine call_pure2 hC (stable_sem .full herdB [] (by unfold Mk.fiveL; simp) (by simp)) rfl ⟨PVle.refl _, PVle.nil _ _ _, trivial⟩ ?_
  rintro r rfl
  simp only [go_sem, Nat.reduceBEq]
  refine call_pure2 hC (ev_told) rfl (PVleL_refl _) ?_
  rintro r rfl
  simp only [go_sem, Nat.reduceBEq]
  refine call_pure2 hC (herd_sem) rfl (PVleL_refl _) ?_
  rintro r rfl
  simp only [go_sem, Nat.reduceBEq]
  refine call_pure2 hC (ev_drop) rfl (PVleL_refl _) ?_
  rintro r rfl
  simp only [go_sem, Nat.reduceBEq, Nat.reduceAdd, Nat.reduceLeDiff, decide_true]
  refine call_pure2 hC (Equal_sem [0, 1, 2] [0, 1, 2]) rfl (Equal_lit .full _ [0, 1, 2]) ?_
  rintro r rfl
  simp only [go_sem, Nat.reduceBEq, Nat.reduceAdd, Nat.reduceLeDiff, decide_true]
  refine call_pure2 hC (Equal_sem [0, 2] [0, 2]) rfl (Equal_lit .full _ [0, 2]) ?_
  rintro r rfl
  simp only [go_sem, Nat.reduceBEq, decide_true]
  refine call_pure2 hC (Equal_sem [1] [1]) rfl (Equal_lit .full _ [1]) ?_
  rintro r rfl
  simp only [go_sem, Nat.reduceBEq, Nat.reduceAdd, Nat.reduceLeDiff, decide_true]
  refine call_pure2 hC (Equal_sem [0, 1] [0, 1]) rfl (Equal_lit .full _ [0, 1]) ?_
  rintro r rfl
  simp only [go_sem, Nat.reduceBEq, decide_true]
  exact retQ_one rfl rfl
end Go.Proofs.Ytlbolnlcncjijaa.Tp
namespace Go.Proofs.Ytlbolnlcncjijaa
open Go.RowKit
section
variable {C : Con} {rd : List Nat} {d : Option Nat} {i : Nat} {tk lst : Bool} {s : AS} {K : List Nat → AS → Prop}
def bslG2 (v : Option (List PV)) (sz n : Nat) (d : Option Nat) (s : AS) (K : AS → Prop) : Prop :=
  match v with
  | some l => K (s.put d (.p (.sl .full sz (rows sz n l))))
  | none => False
def bslG (v : Option (List AV)) (sz n : Nat) (d : Option Nat) (s : AS) (K : AS → Prop) : Prop :=
  match v with
  | some cs => bslG2 (pures cs) sz n d s K
  | none => False
theorem gs_bsl {e : TypeId} {sz n : Nat} {z : List PV} {ps : List (Nat × Nat × AX)} : gstep C rd ⟨d, .bslice false e sz n z ps, none, i, tk, lst⟩ s K = bslG (fillA s ps ((repl n z).map .p)) sz n d s (K (bif lst then [] else rd)) := by
  rw [gs_eff rfl]
  simp only [effQ, bslG]
  cases fillA s ps ((repl n z).map .p) with
  | none => rfl
  | some cs =>
    simp only [bslG2]
    cases pures cs <;> rfl
theorem bslG_some {sz n : Nat} {cs : List AV} {K : AS → Prop} : bslG (some cs) sz n d s K = bslG2 (pures cs) sz n d s K := rfl
theorem bslG2_some {sz n : Nat} {l : List PV} {K : AS → Prop} : bslG2 (some l) sz n d s K = K (s.put d (.p (.sl .full sz (rows sz n l)))) := rfl
def appG (v u : AV) (e : TypeId) (sz : Nat) (d : Option Nat) (s : AS) (K : AS → Prop) : Prop :=
  match v, u with
  | .p (.sl k sz1 es), .p (.sl _ sz2 news) => (sz1 = sz ∨ es = []) ∧ (sz2 = sz ∨ news = []) ∧ es.length + news.length ≤ 1000000 ∧ canApp s.live e sz k ∧ ∀ t, t ∉ s.live → K (({ s with live := t :: liveApp s.live k } : AS).put d (.p (.sl (.own t e sz) sz (es ++ news))))
  | _, _ => False
end
end Go.Proofs.Ytlbolnlcncjijaa
namespace Go.Proofs.Ytlbolnlcncjijaa.Tp
open Go.RowKit
def ac5 : AC := (AC.seq (AC.ops [(AOp.mk (some 2) (AK.box 2 (AX.t 0)) none 0 false true), (AOp.mk (some 3) (AK.box 3 (AX.t 1)) none 1 false true), (AOp.mk (some 4) (AK.mv (AX.c (PV.val (Value.bool false)))) none 2 false true)]) (AC.seq (AC.seq (AC.ops [(AOp.mk (some 16) (AK.ld (some 2) (AX.t 2)) none 0 false true), (AOp.mk (some 17) (AK.call 26 [(AX.t 16)]) none 1 false true), (AOp.mk (some 18) (AK.un UnOp.not (AX.t 17)) none 2 false true), (AOp.mk (some 19) (AK.mv (AX.t 18)) none 3 false true), (AOp.mk (some 20) (AK.fadr 1 (AX.t 2)) (some (19, false)) 4 false true), (AOp.mk (some 21) (AK.ld none (AX.t 20)) (some (19, false)) 5 false true), (AOp.mk (some 22) (AK.len (AX.t 21)) (some (19, false)) 6 false true), (AOp.mk (some 23) (AK.bin false BinOp.lss (AX.t 22) (AX.c (PV.val (Value.int IntKind.i64 2)))) (some (19, false)) 7 false true), (AOp.mk (some 24) (AK.pick (AX.t 19) (AX.c (PV.val (Value.bool true))) (AX.t 23)) none 8 false true)]) (AC.cond (AX.t 24) (AC.seq (AC.ops [(AOp.mk (some 25) (AK.call 27 []) none 0 false true), (AOp.mk (some 4) (AK.mv (AX.t 25)) none 1 false true)]) AC.ret) AC.skip)) (AC.seq (AC.ops [(AOp.mk (some 26) (AK.iadrA 1 3 (AX.t 3) (AX.c (PV.val (Value.int IntKind.i64 0)))) none 0 false true), (AOp.mk (some 27) (AK.ld none (AX.t 26)) none 1 false true), (AOp.mk (some 28) (AK.fadr 1 (AX.t 2)) none 2 false true), (AOp.mk (some 29) (AK.ld none (AX.t 28)) none 3 false true), (AOp.mk (some 30) (AK.len (AX.t 29)) none 4 false true), (AOp.mk (some 31) (AK.call 8 [(AX.t 27), (AX.t 30)]) none 5 false true), (AOp.mk (some 5) (AK.mv (AX.t 31)) none 6 false true)]) (AC.seq (AC.ops [(AOp.mk (some 32) (AK.mv (AX.t 5)) none 0 true false), (AOp.mk (some 33) (AK.bin false BinOp.add (AX.t 32) (AX.c (PV.val (Value.int IntKind.i64 1)))) none 1 true false), (AOp.mk (some 34) (AK.iadrA 1 3 (AX.t 3) (AX.c (PV.val (Value.int IntKind.i64 1)))) none 2 true false), (AOp.mk (some 35) (AK.ld none (AX.t 34)) none 3 true false), (AOp.mk (some 36) (AK.fadr 1 (AX.t 2)) none 4 true false), (AOp.mk (some 37) (AK.ld none (AX.t 36)) none 5 true false), (AOp.mk (some 38) (AK.len (AX.t 37)) none 6 true false), (AOp.mk (some 39) (AK.bin false BinOp.sub (AX.t 38) (AX.c (PV.val (Value.int IntKind.i64 1)))) none 7 true false), (AOp.mk (some 42) (AK.fadr 1 (AX.t 2)) none 10 true false), (AOp.mk (some 43) (AK.ld none (AX.t 42)) none 11 true false), (AOp.mk (some 44) (AK.len (AX.t 43)) none 12 true false), (AOp.mk (some 40) (AK.call 8 [(AX.t 35), (AX.t 39)]) none 8 false false), (AOp.mk (some 41) (AK.bin false BinOp.add (AX.t 33) (AX.t 40)) none 9 true false), (AOp.mk (some 45) (AK.call 8 [(AX.t 41), (AX.t 44)]) none 13 false true), (AOp.mk (some 6) (AK.mv (AX.t 45)) none 14 true true)]) (AC.seq (AC.ops [(AOp.mk (some 46) (AK.iadrA 1 3 (AX.t 3) (AX.c (PV.val (Value.int IntKind.i64 2)))) none 0 false true), (AOp.mk (some 47) (AK.ld none (AX.t 46)) none 1 false true), (AOp.mk (some 48) (AK.fadr 0 (AX.t 2)) none 2 false true), (AOp.mk (some 49) (AK.ld none (AX.t 48)) none 3 false true), (AOp.mk (some 50) (AK.call 8 [(AX.t 47), (AX.t 49)]) none 4 false true), (AOp.mk (some 7) (AK.mv (AX.t 50)) none 5 false true)]) (AC.seq (AC.ops [(AOp.mk (some 52) (AK.ld (some 2) (AX.t 2)) none 0 false true), (AOp.mk (some 53) (AK.mv (AX.t 5)) none 1 false true), (AOp.mk (some 54) (AK.mv (AX.t 6)) none 2 false true), (AOp.mk (some 55) (AK.call 28 [(AX.t 52), (AX.t 53), (AX.t 54)]) none 3 false true), (AOp.mk (some 51) (AK.mv (AX.t 55)) none 4 false true), (AOp.mk (some 56) (AK.ext (AX.t 51) 0) none 5 false true), (AOp.mk (some 57) (AK.ext (AX.t 51) 1) none 6 false true), (AOp.mk (some 8) (AK.mv (AX.t 56)) none 7 false true), (AOp.mk (some 9) (AK.mv (AX.t 57)) none 8 false true)]) (AC.seq (AC.ops [(AOp.mk (some 59) (AK.ld (some 2) (AX.t 2)) none 0 false true), (AOp.mk (some 60) (AK.call 29 [(AX.t 59)]) none 1 false true), (AOp.mk (some 58) (AK.mv (AX.t 60)) none 2 false true), (AOp.mk (some 61) (AK.ext (AX.t 58) 0) none 3 false true), (AOp.mk (some 62) (AK.ext (AX.t 58) 1) none 4 false true), (AOp.mk (some 10) (AK.mv (AX.t 61)) none 5 false true), (AOp.mk (some 11) (AK.mv (AX.t 62)) none 6 false true)]) (AC.seq (AC.tree (AT.op (AOp.mk (some 63) (AK.fadr 1 (AX.t 2)) none 0 true false) (AT.op (AOp.mk (some 64) (AK.ld none (AX.t 63)) none 1 true false) (AT.op (AOp.mk (some 65) (AK.mv (AX.t 5)) none 2 true false) (AT.op (AOp.mk (some 66) (AK.iadrS 1 (AX.t 64) (AX.t 65)) none 3 true false) (AT.op (AOp.mk (some 67) (AK.ld none (AX.t 66)) none 4 true false) (AT.op (AOp.mk (some 68) (AK.mv (AX.t 7)) none 5 true false) (AT.op (AOp.mk (some 70) (AK.fadr 1 (AX.t 2)) none 7 true false) (AT.op (AOp.mk (some 71) (AK.ld none (AX.t 70)) none 8 true false) (AT.op (AOp.mk (some 72) (AK.mv (AX.t 6)) none 9 true false) (AT.op (AOp.mk (some 73) (AK.iadrS 1 (AX.t 71) (AX.t 72)) none 10 true false) (AT.op (AOp.mk (some 74) (AK.ld none (AX.t 73)) none 11 true false) (AT.fk (AOp.mk (some 69) (AK.call 30 [(AX.t 67), (AX.t 68)]) none 6 false false) (AOp.mk (some 12) (AK.new (PV.agg [(PV.sl SK.full 0 []), (PV.sl SK.full 0 []), (PV.val (Value.int IntKind.i64 0)), (PV.val (Value.int IntKind.i64 0))])) none 14 false false) (AT.fk (AOp.mk (some 75) (AK.bslice false 31 1 2 [(PV.sl SK.full 0 [])] [(0, (1, (AX.t 69))), (1, (1, (AX.t 74)))]) none 12 false false) (AOp.mk (some 12) (AK.new (PV.agg [(PV.sl SK.full 0 []), (PV.sl SK.full 0 []), (PV.val (Value.int IntKind.i64 0)), (PV.val (Value.int IntKind.i64 0))])) none 14 false false) (AT.op (AOp.mk (some 76) (AK.build [(PV.sl SK.full 0 []), (PV.sl SK.full 0 []), (PV.val (Value.int IntKind.i64 0)), (PV.val (Value.int IntKind.i64 0))] [(0, (1, (AX.t 75)))]) none 13 true false) (AT.op (AOp.mk (some 12) (AK.new (PV.agg [(PV.sl SK.full 0 []), (PV.sl SK.full 0 []), (PV.val (Value.int IntKind.i64 0)), (PV.val (Value.int IntKind.i64 0))])) none 14 false false) (AT.op (AOp.mk none (AK.st 4 (AX.t 12) (AX.t 76)) none 15 false true) AT.fin))) (AT.op (AOp.mk (some 75) (AK.bslice false 31 1 2 [(PV.sl SK.full 0 [])] [(0, (1, (AX.t 69))), (1, (1, (AX.t 74)))]) none 12 false false) (AT.op (AOp.mk (some 76) (AK.build [(PV.sl SK.full 0 []), (PV.sl SK.full 0 []), (PV.val (Value.int IntKind.i64 0)), (PV.val (Value.int IntKind.i64 0))] [(0, (1, (AX.t 75)))]) none 13 true false) (AT.op (AOp.mk none (AK.st 4 (AX.t 12) (AX.t 76)) none 15 false true) AT.fin)))) (AT.op (AOp.mk (some 69) (AK.call 30 [(AX.t 67), (AX.t 68)]) none 6 false false) (AT.op (AOp.mk (some 75) (AK.bslice false 31 1 2 [(PV.sl SK.full 0 [])] [(0, (1, (AX.t 69))), (1, (1, (AX.t 74)))]) none 12 false false) (AT.op (AOp.mk (some 76) (AK.build [(PV.sl SK.full 0 []), (PV.sl SK.full 0 []), (PV.val (Value.int IntKind.i64 0)), (PV.val (Value.int IntKind.i64 0))] [(0, (1, (AX.t 75)))]) none 13 true false) (AT.op (AOp.mk none (AK.st 4 (AX.t 12) (AX.t 76)) none 15 false true) AT.fin))))))))))))))))) (AC.seq (AC.ops [(AOp.mk (some 78) (AK.ld (some 4) (AX.t 12)) none 0 false true), (AOp.mk (some 79) (AK.call 19 [(AX.t 78), (AX.c (PV.val (Value.int IntKind.i64 0))), (AX.c (PV.val (Value.int IntKind.i64 1)))]) none 1 false true), (AOp.mk (some 77) (AK.mv (AX.t 79)) none 2 false true), (AOp.mk (some 80) (AK.ext (AX.t 77) 0) none 3 false true), (AOp.mk (some 81) (AK.ext (AX.t 77) 1) none 4 false true), (AOp.mk (some 13) (AK.mv (AX.t 80)) none 5 false true), (AOp.mk (some 14) (AK.mv (AX.t 81)) none 6 false true)]) (AC.seq (AC.seq (AC.ops [(AOp.mk (some 82) (AK.mv (AX.t 9)) none 0 false true), (AOp.mk (some 83) (AK.bin false BinOp.neq (AX.t 82) (AX.c (PV.val (Value.int IntKind.i64 0)))) none 1 false true), (AOp.mk (some 84) (AK.mv (AX.t 83)) none 2 false true), (AOp.mk (some 85) (AK.mv (AX.t 11)) (some (84, false)) 3 false true), (AOp.mk (some 86) (AK.bin false BinOp.neq (AX.t 85) (AX.c (PV.val (Value.int IntKind.i64 0)))) (some (84, false)) 4 false true), (AOp.mk (some 87) (AK.pick (AX.t 84) (AX.c (PV.val (Value.bool true))) (AX.t 86)) none 5 false true), (AOp.mk (some 88) (AK.mv (AX.t 87)) none 6 false true), (AOp.mk (some 89) (AK.mv (AX.t 14)) (some (88, false)) 7 false true), (AOp.mk (some 90) (AK.bin false BinOp.neq (AX.t 89) (AX.c (PV.val (Value.int IntKind.i64 0)))) (some (88, false)) 8 false true), (AOp.mk (some 91) (AK.pick (AX.t 88) (AX.c (PV.val (Value.bool true))) (AX.t 90)) none 9 false true), (AOp.mk (some 92) (AK.mv (AX.t 91)) none 10 false true), (AOp.mk (some 93) (AK.mv (AX.t 10)) (some (92, false)) 11 false true), (AOp.mk (some 94) (AK.fadr 1 (AX.t 2)) (some (92, false)) 12 false true), (AOp.mk (some 95) (AK.ld none (AX.t 94)) (some (92, false)) 13 false true), (AOp.mk (some 96) (AK.len (AX.t 95)) (some (92, false)) 14 false true), (AOp.mk (some 97) (AK.call 31 [(AX.t 93), (AX.t 96)]) (some (92, false)) 15 false true), (AOp.mk (some 98) (AK.un UnOp.not (AX.t 97)) (some (92, false)) 16 false true), (AOp.mk (some 99) (AK.pick (AX.t 92) (AX.c (PV.val (Value.bool true))) (AX.t 98)) none 17 false true)]) (AC.cond (AX.t 99) (AC.seq (AC.ops [(AOp.mk (some 4) (AK.mv (AX.c (PV.val (Value.bool false)))) none 0 false true)]) AC.ret) AC.skip)) (AC.seq (AC.ops [(AOp.mk (some 100) (AK.mv (AX.t 10)) none 0 false true), (AOp.mk (some 101) (AK.mv (AX.t 5)) none 1 false true), (AOp.mk (some 102) (AK.call 32 [(AX.t 100), (AX.t 101)]) none 2 false true), (AOp.mk (some 103) (AK.bin false BinOp.lss (AX.t 102) (AX.c (PV.val (Value.int IntKind.i64 0)))) none 3 false true), (AOp.mk (some 104) (AK.mv (AX.t 103)) none 4 false true), (AOp.mk (some 105) (AK.mv (AX.t 10)) (some (104, true)) 5 false true), (AOp.mk (some 106) (AK.mv (AX.t 6)) (some (104, true)) 6 false true), (AOp.mk (some 107) (AK.call 32 [(AX.t 105), (AX.t 106)]) (some (104, true)) 7 false true), (AOp.mk (some 108) (AK.bin false BinOp.lss (AX.t 107) (AX.c (PV.val (Value.int IntKind.i64 0)))) (some (104, true)) 8 false true), (AOp.mk (some 109) (AK.pick (AX.t 104) (AX.t 108) (AX.c (PV.val (Value.bool false)))) none 9 false true), (AOp.mk (some 15) (AK.mv (AX.t 109)) none 10 false true)]) (AC.seq (AC.ops [(AOp.mk (some 110) (AK.mv (AX.t 13)) none 0 false true), (AOp.mk (some 111) (AK.mv (AX.t 8)) none 1 false true), (AOp.mk (some 112) (AK.mv (AX.t 7)) none 2 false true), (AOp.mk (some 113) (AK.call 32 [(AX.t 111), (AX.t 112)]) none 3 false true), (AOp.mk (some 114) (AK.bin false BinOp.lss (AX.t 113) (AX.c (PV.val (Value.int IntKind.i64 0)))) none 4 false true), (AOp.mk (some 115) (AK.bin true BinOp.eql (AX.t 110) (AX.t 114)) none 5 false true), (AOp.mk (some 116) (AK.mv (AX.t 115)) none 6 false true), (AOp.mk (some 117) (AK.mv (AX.t 15)) (some (116, true)) 7 false true), (AOp.mk (some 118) (AK.un UnOp.not (AX.t 117)) (some (116, true)) 8 false true), (AOp.mk (some 119) (AK.mv (AX.t 118)) (some (116, true)) 9 false true), (AOp.mk (some 120) (AK.mv (AX.t 13)) (some (119, false)) 10 false true), (AOp.mk (some 121) (AK.pick (AX.t 119) (AX.c (PV.val (Value.bool true))) (AX.t 120)) (some (116, true)) 11 false true), (AOp.mk (some 122) (AK.pick (AX.t 116) (AX.t 121) (AX.c (PV.val (Value.bool false)))) none 12 false true), (AOp.mk (some 123) (AK.mv (AX.t 122)) none 13 false true), (AOp.mk (some 124) (AK.call 27 []) (some (123, true)) 14 false true), (AOp.mk (some 125) (AK.pick (AX.t 123) (AX.t 124) (AX.c (PV.val (Value.bool false)))) none 15 false true), (AOp.mk (some 4) (AK.mv (AX.t 125)) none 16 false true)]) AC.ret))))))))))))
theorem ac5_ok : cCode Try.prog (fun _ => false) Try.f5.ntmps (Try.f5.body.getD .skip) = some ac5 := by kernel_rfl
theorem mem_natD {l : List Nat} {t : Nat} : (t : Int) ∈ natL l ↔ t ∈ l := by
  unfold natL
  rw [List.mem_map]
  constructor
  · rintro ⟨a, ha, e⟩
    have : a = t := by omega
    rwa [← this]
  · exact fun h => ⟨t, h, rfl⟩
set_option maxRecDepth 100000 in
theorem ty_dbook {l : List PV} (h : Ty Try.prog 10 54 l) : ∃ b, l = bookC .sh b := by
  obtain ⟨a0, r0, rfl, h0, a1, r1, rfl, h1, rfl⟩ := tyStruct Try.underlying54 h
  obtain ⟨es, rfl, -, g1⟩ := tySlice Try.underlying22 h1
  obtain ⟨hs, rfl⟩ := list_map_ex (f := fun h : List Int => [pis h]) fun y hy => Mk.ty_ints (g1 y hy).2
  obtain ⟨n0, rfl⟩ := tyInt Mk.uInt h0
  exact ⟨⟨n0, hs⟩, rfl⟩
set_option maxRecDepth 20000 in
set_option maxHeartbeats 4000000 in
theorem Apart_law (k : SK) (b : DBook) (n0 n1 n2 : Int) : Sem1 5 [.agg (bookC k b), .agg [pi n0, pi n1, pi n2]] (pb true) := by
  by_cases hs : smallB b
  rotate_left
  · refine semC_of_exec' mixed Try.func5 (by kernel_rfl) (by kernel_rfl) ac5_ok 2 rfl (by decide) [(.tmp 4)] (by kernel_rfl) ?_
    intro hr C hC hI
    unfold ac5
    simp only [go_sem, Nat.reduceBEq, Nat.reduceAdd]
    refine call_pure2 hC (small_sem k b) rfl (PVleL_refl _) ?_
    rintro r rfl
    simp only [go_sem, Nat.reduceBEq, decide_eq_false hs]
    refine call_pure2 hC (told_sem) rfl (PVleL_refl _) ?_
    rintro r rfl
    simp only [go_sem, Nat.reduceBEq]
    exact retQ_one rfl rfl
  by_cases h2 : (b.horses.length : Int) < 2
  · refine semC_of_exec' mixed Try.func5 (by kernel_rfl) (by kernel_rfl) ac5_ok 2 rfl (by decide) [(.tmp 4)] (by kernel_rfl) ?_
    intro hr C hC hI
    unfold ac5
    simp only [go_sem, Nat.reduceBEq, Nat.reduceAdd]
    refine call_pure2 hC (small_sem k b) rfl (PVleL_refl _) ?_
    rintro r rfl
    simp only [go_sem, Nat.reduceBEq, decide_eq_true hs, List.length_map, eq_true h2, decide_true]
    refine call_pure2 hC (told_sem) rfl (PVleL_refl _) ?_
    rintro r rfl
    simp only [go_sem, Nat.reduceBEq]
    exact retQ_one rfl rfl
  have ho := hs.1
  obtain ⟨h1, h8, hn⟩ := okR ho
  have h6 := hs.2.1
  have h5 := hs.2.2
  have r0 := rndI_range (n := n0) (m := (b.horses.length : Int)) (by omega)
  obtain ⟨h, eh⟩ : ∃ h : Nat, rndI n0 (b.horses.length : Int) = h := ⟨(rndI n0 (b.horses.length : Int)).toNat, by omega⟩
  have hh : h < b.horses.length := by omega
  have r1 := rndI_range (n := n1) (m := (b.horses.length : Int) - 1) (by omega)
  obtain ⟨u, eu, hu, hne⟩ := Mk.two_ne (len := b.horses.length) (o := h) (r := rndI n1 ((b.horses.length : Int) - 1)) hh (by omega) r1
  have r2 := rndI_range (n := n2) (m := b.round) (by omega)
  obtain ⟨t, et⟩ : ∃ t : Nat, rndI n2 b.round = t := ⟨(rndI n2 b.round).toNat, by omega⟩
  have ht : t < nR b := by omega
  have w1 : IntKind.i64.wrap ((b.horses.length : Int) - 1) = (b.horses.length : Int) - 1 := wrap_id (by omega) (by omega)
  have w2 : IntKind.i64.wrap ((h : Int) + 1) = (h : Int) + 1 := wrap_id (by omega) (by omega)
  have w3 : IntKind.i64.wrap ((h : Int) + 1 + rndI n1 ((b.horses.length : Int) - 1)) = (h : Int) + 1 + rndI n1 ((b.horses.length : Int) - 1) := wrap_id (by omega) (by omega)
  have e0 : errI b (okPair b h u) = 0 := by
    unfold errI okPair
    rw [if_pos ho, if_pos]
    exact decide_eq_true ⟨⟨by omega, by omega⟩, ⟨by omega, by omega⟩, by omega⟩
  have dT : Sem1 28 [.agg (bookC k b), pi h, pi u] (.tup [pis (natL (turnsI b h u)), pi 0]) := (Turns_sem k b h u).mono fun _ e => e.trans (by rw [if_pos e0]; rfl)
  have dD : Sem1 29 [.agg (bookC k b)] (.tup [pis (dropI b), pi 0]) := (Drop_sem k b).mono fun _ e => e.trans (by rw [if_pos ho])
  have hP := pair_ok hs (t := t) hh hu
  have eP : Mk.errA (pairB b h u t) (Mk.okT (pairB b h u t) 0 1) = 0 := by
    unfold Mk.errA
    rw [if_pos hP, if_pos]
    show (Mk.okM _ 0 && Mk.okM _ 1 && decide _) = true
    rfl
  have eB := told_eq hs hh hu ht
  have dM : Sem1 19 [.agg (Mk.bookC .full .sh (pairB b h u t)), pi 0, pi 1] (.tup [pb (!decide (t ∈ turnsI b h u)), pi 0]) := (Mk.Told_sem .full .sh (pairB b h u t) 0 1).mono fun _ e => e.trans (by rw [if_pos eP, ← eB]; rfl)
  have eh1 := iadr_map (f := fun h => [pis h]) (kd := k) (sz := 1) hh
  have eh2 := iadr_map (f := fun h => [pis h]) (kd := k) (sz := 1) hu
  have g1 : b.horses[h] = b.horses.getD h [] := by rw [List.getD_eq_getElem?_getD, List.getElem?_eq_getElem hh]; rfl
  have g2 : b.horses[u] = b.horses.getD u [] := by rw [List.getD_eq_getElem?_getD, List.getElem?_eq_getElem hu]; rfl
  rw [g1] at eh1
  rw [g2] at eh2
  have hl1 := (row_at ho hh).1
  refine semC_of_exec' mixed Try.func5 (by kernel_rfl) (by kernel_rfl) ac5_ok 2 rfl (by decide) [(.tmp 4)] (by kernel_rfl) ?_
  intro hr C hC hI
  unfold ac5
  simp only [go_sem, Nat.reduceBEq, Nat.reduceAdd]
  refine call_pure2 hC (small_sem k b) rfl (PVleL_refl _) ?_
  rintro r rfl
  simp only [go_sem, Nat.reduceBEq, decide_eq_true hs, List.length_map, eq_false h2, decide_false]
  refine call_pure2 hC (Round_sem n0 (b.horses.length : Int)) rfl (PVleL_refl _) ?_
  rintro r rfl
  simp only [go_sem, Nat.reduceBEq, eh, w1, w2, List.length_map]
  refine call_pure2 hC (Round_sem n1 ((b.horses.length : Int) - 1)) rfl (PVleL_refl _) ?_
  rintro r rfl
  simp only [go_sem, Nat.reduceBEq, w3]
  refine call_pure2 hC (Round_sem ((h : Int) + 1 + rndI n1 ((b.horses.length : Int) - 1)) (b.horses.length : Int)) rfl (PVleL_refl _) ?_
  rintro r rfl
  simp only [go_sem, Nat.reduceBEq, eu]
  refine call_pure2 hC (Round_sem n2 b.round) rfl (PVleL_refl _) ?_
  rintro r rfl
  simp only [go_sem, Nat.reduceBEq, Nat.reduceAdd, et]
  refine call_pure2 hC (dT) rfl (PVleL_refl _) ?_
  rintro r rfl
  simp only [go_sem, Nat.reduceBEq, Nat.reduceAdd]
  refine call_pure2 hC (dD) rfl (PVleL_refl _) ?_
  rintro r rfl
  simp only [go_sem, Nat.reduceBEq, Nat.reduceAdd, eh1, eh2, gs_newA, gs_stA, List.map_cons, List.map_nil]
  repeat' (first | (with_reducible refine And.intro ?_ ?_) | (guard_target =~ _ ∨ _; simp; done) | (guard_target =~ _ ≤ _; simp; done) | (guard_target =~ Con.call _ 30 _ _ _ _; refine call_pure2 hC (turned_sem (b.horses.getD h []) t (by omega) (by omega)) rfl (PVleL_refl _) ?_; rintro _ rfl; simp only [go_sem, Nat.reduceBEq, Nat.reduceAdd, Nat.reduceLeDiff, gs_bsl, bslG_some, bslG2_some, stG_loc, stGB_cells, List.map_cons, List.map_nil, true_or, true_and, putCells]))
  all_goals
    refine call_pure2 hC dM rfl ⟨PVle.agg (show PVleL [_, _, _, _] [_, _, _, _] from ⟨PVle.refl _, PVle.nil _ _ _, PVle.refl _, PVle.refl _, trivial⟩), PVle.refl _, PVle.refl _, trivial⟩ ?_
    rintro _ rfl
    simp only [go_sem, Nat.reduceBEq, List.length_map, decide_false, not_true_eq_false]
    refine call_pure2 hC (Grows_sem (dropI b) (b.horses.length : Int)) rfl (PVleL_refl _) ?_
    rintro _ ⟨gg, rfl, hg⟩
    rw [hg.2 (drop_facts b).1]
    simp only [go_sem, Nat.reduceBEq]
    refine call_pure2 hC (Find_sem (dropI b) (h : Int)) rfl (PVleL_refl _) ?_
    rintro _ ⟨i1, rfl, hi1⟩
    simp only [go_sem, Nat.reduceBEq]
    refine ⟨fun c1 => ?_, fun c1 => ?_⟩
    · refine call_pure2 hC (Find_sem (dropI b) (u : Int)) rfl (PVleL_refl _) ?_
      rintro _ ⟨i2, rfl, hi2⟩
      by_cases c2 : i2 < 0
      · have hin : t ∉ turnsI b h u := by
          rw [kept_none ho hh hu hne (hi1.1 c1) (hi2.1 c2)]
          simp
        simp only [go_sem, Nat.reduceBEq, eq_true c2, eq_false hin, decide_true, not_false_eq_true]
        refine call_pure2 hC (Find_sem (natL (turnsI b h u)) (t : Int)) rfl (PVleL_refl _) ?_
        rintro _ ⟨i3, rfl, hi3⟩
        have c3 : i3 < 0 := hi3.2 fun hm => hin (mem_natD.1 hm)
        simp only [go_sem, Nat.reduceBEq, eq_true c3, decide_true]
        refine call_pure2 hC (told_sem) rfl (PVleL_refl _) ?_
        rintro r rfl
        simp only [go_sem, Nat.reduceBEq]
        exact retQ_one rfl rfl
      · by_cases hin : t ∈ turnsI b h u
        · simp only [go_sem, Nat.reduceBEq, eq_false c2, eq_true hin, decide_false, not_true_eq_false]
          refine call_pure2 hC (Find_sem (natL (turnsI b h u)) (t : Int)) rfl (PVleL_refl _) ?_
          rintro _ ⟨i3, rfl, hi3⟩
          have c3 : ¬ i3 < 0 := fun hc => hi3.1 hc (mem_natD.2 hin)
          simp only [go_sem, Nat.reduceBEq, eq_false c3, decide_true, decide_false]
          refine call_pure2 hC (told_sem) rfl (PVleL_refl _) ?_
          rintro r rfl
          simp only [go_sem, Nat.reduceBEq]
          exact retQ_one rfl rfl
        · simp only [go_sem, Nat.reduceBEq, eq_false c2, eq_false hin, decide_true, decide_false, not_false_eq_true]
          refine call_pure2 hC (Find_sem (natL (turnsI b h u)) (t : Int)) rfl (PVleL_refl _) ?_
          rintro _ ⟨i3, rfl, hi3⟩
          have c3 : i3 < 0 := hi3.2 fun hm => hin (mem_natD.1 hm)
          simp only [go_sem, Nat.reduceBEq, eq_true c3, decide_true]
          refine call_pure2 hC (told_sem) rfl (PVleL_refl _) ?_
          rintro r rfl
          simp only [go_sem, Nat.reduceBEq]
          exact retQ_one rfl rfl
    · by_cases hin : t ∈ turnsI b h u
      · simp only [go_sem, eq_true hin, decide_false, not_true_eq_false]
        refine call_pure2 hC (Find_sem (natL (turnsI b h u)) (t : Int)) rfl (PVleL_refl _) ?_
        rintro _ ⟨i3, rfl, hi3⟩
        have c3 : ¬ i3 < 0 := fun hc => hi3.1 hc (mem_natD.2 hin)
        simp only [go_sem, Nat.reduceBEq, eq_false c3, decide_true, decide_false]
        refine call_pure2 hC (told_sem) rfl (PVleL_refl _) ?_
        rintro r rfl
        simp only [go_sem, Nat.reduceBEq]
        exact retQ_one rfl rfl
      · simp only [go_sem, eq_false hin, decide_true, not_false_eq_true]
        refine call_pure2 hC (Find_sem (natL (turnsI b h u)) (t : Int)) rfl (PVleL_refl _) ?_
        rintro _ ⟨i3, rfl, hi3⟩
        have c3 : i3 < 0 := hi3.2 fun hm => hin (mem_natD.1 hm)
        simp only [go_sem, Nat.reduceBEq, eq_true c3, decide_true]
        refine call_pure2 hC (told_sem) rfl (PVleL_refl _) ?_
        rintro r rfl
        simp only [go_sem, Nat.reduceBEq]
        exact retQ_one rfl rfl
set_option maxRecDepth 100000 in
theorem Apart_row {l0 l1 : List PV} (T0 : Ty Try.prog 10 54 l0) (T1 : Ty Try.prog 10 50 l1) : SemC Try.prog 5 [argPV Try.prog 54 l0, argPV Try.prog 50 l1] (fun r => r = pb true) := by
  obtain ⟨b, rfl⟩ := ty_dbook T0
  obtain ⟨a, c, d, rfl⟩ := Mk.ty_three T1
  rw [argStruct Try.underlying54, argArray Try.underlying50]
  exact Apart_law .sh b a c d
end Go.Proofs.Ytlbolnlcncjijaa.Tp
namespace Go.Proofs.Ytlbolnlcncjijaa
open Go.Proofs.Ytlbolnlcncjijaa Go.ChangeShapes Go.WideShapes Go.ChangeAt Go.RowKit Go.Deep

set_option maxRecDepth 100000 in
theorem topApart_lifted (os : Os) (started : os.Started) (H : Type) (enc : TypeId × Value → H) :
    ReturnsInHanded {} Try.checked os 5 .any (Rows.topApartSpec.pre6 enc Try.prog Try.f5 Rows.topApartRow.domain false) (Rows.topApartSpec.post enc Try.prog Try.f5 false true false false) := by
  refine returnsInHanded_of_change_sized (C := Try.checked) ownKnobs started (by kernel_rfl) Try.func5
    (ChangeSpec.witness6 (enc := enc) (C := Try.checked) false ⟨#[], #[.agg #[.int .i64 0, .slice none 0 0], .agg #[.int .i64 0, .int .i64 0, .int .i64 0]], []⟩ 8 (by kernel_rfl) (by kernel_rfl) (by kernel_rfl) (by kernel_rfl)) ?_
  intro W base args ds gs before hval0 hW hcnd hsz0 _
  have hval : ∀ (j : Nat) t v, Try.f5.params[j]? = some t → args[j]? = some v → Value.okWide Try.prog W .any base t v := hval0
  have hsz : (DataW.weightsEach Try.prog (Try.f5.params.toList ++ Rows.topApartSpec.plain.varTypes Try.prog) (ds ++ gs)).all (· ≤ reachBytes) = true := hsz0
  have hW' := hW
  obtain ⟨p, q, hA0, hV, rfl, hfz, hnd⟩ := hW
  have hA : DataW.TrodAll enc Try.prog W 0 (fun _ => true) true Try.f5.params.toList args.toList ds p := hA0
  rw [Try.params5] at hA hval hsz
  obtain ⟨v0, vs0, d0, ds0, p0, q0, hargs, rfl, rfl, h0, r0⟩ := trodAll_cons hA
  obtain ⟨v1, vs1, d1, ds1, p1, q1, rfl, rfl, rfl, h1, r1⟩ := trodAll_cons r0
  obtain ⟨rfl, rfl, rfl⟩ := trodAll_nil r1
  obtain rfl : args = #[v0, v1] := by cases args; simp_all
  obtain ⟨rfl, rfl⟩ := trodVars_none hV
  have lt0 : ∀ x ∈ p0, x.block < W.heap.size := by obtain ⟨m, hm⟩ := h0; exact DataW.trod_lt m _ _ _ hm
  have lt1 : ∀ x ∈ p1, x.block < W.heap.size := by obtain ⟨m, hm⟩ := h1; exact DataW.trod_lt m _ _ _ hm
  have z0 : SizedP Try.prog 54 d0 := sizedP_each hsz (j := 0) rfl rfl
  obtain ⟨l0, T0, R0⟩ := rd_arg 10 (by kernel_rfl) (hval 0 54 v0 rfl rfl) h0 z0
  have z1 : SizedP Try.prog 50 d1 := sizedP_each hsz (j := 1) rfl rfl
  obtain ⟨l1, T1, R1⟩ := rd_arg 10 (by kernel_rfl) (hval 1 50 v1 rfl rfl) h1 z1
  clear hA0 hval0 hsz0
  refine (law_calls (Tp.Apart_row T0 T1) (argsP_cons R0 (argsP_cons R1 argsP_nil))).mono fun e W' ⟨he, bel⟩ => ?_
  subst he
  exact ⟨_, rfl, _, _, _, [], _, [], hW', trodAll_mk1 (shut_bool Try.underlying4 _), (trodAll_cons_mk (Below.trod laidOut (by kernel_rfl) (of_decide_eq_true (by kernel_rfl)) h0 bel lt0) (trodAll_cons_mk (Below.trod laidOut (by kernel_rfl) (of_decide_eq_true (by kernel_rfl)) h1 bel lt1) trodAll_mk0)), rfl, bel.frame _, fun h => by cases h⟩

theorem topApart_joined : joinedFacts Try.prog 5 Try.f5 Rows.topApartSpec Rows.topApartRow = true := by
  simp only [joinedFacts, Bool.and_eq_true]
  repeat' apply And.intro
  all_goals first | with_reducible exact laidOut | with_reducible exact mapsR | with_reducible exact stopsH | with_reducible exact mayE | (rw [lift0]; kernel_rfl) | (rw [make0]; kernel_rfl) | kernel_rfl

theorem topApart_holds : Rows.TopApartSaid :=
  OpenClaim.holds_of_wide 5 Try.f5 rfl rfl rfl rfl rfl rfl rfl ⟨rfl, rfl, rfl, rfl, rfl⟩ rfl rfl rfl rfl rfl (by kernel_rfl) Try.func5 topApart_joined
    (of_decide_eq_true (by kernel_rfl)) (by unfold Func.isWrapper; first | (rw [if_pos (by decide +kernel)]; kernel_rfl) | (rw [if_neg (by decide +kernel)]; exact ⟨rfl, rfl⟩))
    (fun os started H enc _ => topApart_lifted os started H enc)
end Go.Proofs.Ytlbolnlcncjijaa
