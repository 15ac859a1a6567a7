/- Mathematics of maker: a horse that numbers choose, rightly seen. Law helpers: a horse that numbers choose, rightly seen. Law: MakerTrue. -/
import Derived.Test.YthaplmohhbdfeaaGa15
import Derived.Test.YthaplmohhbdfeaaZm06
import Derived.Test.YthaplmohhbdfeaaZm07
import Derived.Test.YthaplmohhbdfeaaGa16
namespace Go.Proofs.Ythaplmohhbdfeaa.Mk
open Go.RowKit Ls
theorem grows_filt {n : Nat} (hn : n ≤ 64) (p : Nat → Bool) : growsI (natL ((List.range n).filter p)) n := by
  obtain ⟨s, -, hs⟩ := bitsN p n
  have : natL ((List.range n).filter p) = listI (s : Nat) n := by
    unfold natL listI
    refine congrArg _ (List.filter_congr fun i hi => ?_)
    have := List.mem_range.1 hi
    rw [of_bit (by omega), hs i this]
  rw [this]
  exact grows_list ..
def chB (b : MBook) (bits : List Int) (k many : Nat) : Bool := decide ((many : Int) < b.repairs) && !(fixN b).testBit k && decide ((takeL bits k).tmod 3 = 0)
/-- How many kinds were changed before a kind. -/
def hM (b : MBook) (bits : List Int) : Nat → Nat
  | 0 => 0
  | j + 1 => if chB b bits j (hM b bits j) then hM b bits j + 1 else hM b bits j
def chK (b : MBook) (bits : List Int) (k : Nat) : Bool := chB b bits k (hM b bits k)
def setN (b : MBook) (bits : List Int) : Nat → Nat
  | 0 => 0
  | j + 1 => if chK b bits j then setN b bits j ||| 2 ^ j else setN b bits j
theorem hM_next (b : MBook) (bits : List Int) (j : Nat) : hM b bits (j + 1) = if chK b bits j then hM b bits j + 1 else hM b bits j := rfl
theorem hM_cnt (b : MBook) (bits : List Int) : ∀ j, hM b bits j = ((List.range j).filter (chK b bits)).length
  | 0 => rfl
  | j + 1 => by
    rw [hM_next, hM_cnt b bits j, List.range_succ, List.filter_append, List.length_append]
    simp only [List.filter_cons, List.filter_nil]
    split <;> simp_all
theorem hM_le (b : MBook) (bits : List Int) (j : Nat) : hM b bits j ≤ j := by
  rw [hM_cnt]
  exact Nat.le_trans (List.length_filter_le ..) (by simp)
theorem hM_rep {b : MBook} (h : 0 ≤ b.repairs) (bits : List Int) : ∀ j, (hM b bits j : Int) ≤ b.repairs
  | 0 => h
  | j + 1 => by
    have ih := hM_rep h bits j
    rw [hM_next]
    split
    · rename_i hc
      unfold chK chB at hc
      rw [Bool.and_eq_true, Bool.and_eq_true, decide_eq_true_eq] at hc
      have := hc.1.1
      push_cast
      omega
    · exact ih
theorem set_bit (b : MBook) (bits : List Int) (i : Nat) : ∀ j, (setN b bits j).testBit i = (decide (i < j) && chK b bits i)
  | 0 => by simp [setN]
  | j + 1 => by
    have ih := set_bit b bits i j
    unfold setN
    split
    · rename_i hc
      rw [Nat.testBit_or, ih, Nat.testBit_two_pow]
      by_cases e : j = i
      · subst e
        simp [hc]
      · by_cases h1 : i < j
        · simp [h1, e, show i < j + 1 by omega]
        · simp [h1, e, show ¬ i < j + 1 by omega]
    · rename_i hc
      rw [ih]
      by_cases e : j = i
      · subst e
        simp [hc]
      · by_cases h1 : i < j
        · simp [h1, show i < j + 1 by omega]
        · simp [h1, show ¬ i < j + 1 by omega]
theorem set_lt (b : MBook) (bits : List Int) (j : Nat) : setN b bits j < 2 ^ j :=
  Nat.lt_pow_two_of_testBit _ fun i hi => by
    rw [set_bit, decide_eq_false (show ¬ i < j by omega)]
    rfl
def vsN (b : MBook) (bits : List Int) (m k : Nat) : Nat := if chK b bits k then 31 else mkN b m k
def hvI (b : MBook) (bits : List Int) (m k : Nat) : Int := takeL (listI (vsN b bits m k : Nat) 5) (takeL bits ((k : Int) + 2))
def hvL (b : MBook) (bits : List Int) (m j : Nat) : List Int := (List.range j).map (hvI b bits m)
theorem hvL_next (b : MBook) (bits : List Int) (m j : Nat) : (hvL b bits m (j + 1)).map (fun x => [pi x]) = (hvL b bits m j).map (fun x => [pi x]) ++ [[pi (hvI b bits m j)]] := by
  unfold hvL
  rw [List.range_succ, List.map_append, List.map_append]
  rfl
theorem hvL_len (b : MBook) (bits : List Int) (m j : Nat) : (hvL b bits m j).length = j := by simp [hvL]
theorem take_mem {l : List Int} (h : 0 < l.length) (n : Int) : takeL l n ∈ l := by
  have := rndI_range (n := n) (m := (l.length : Int)) (by omega)
  unfold takeL
  rw [List.getD_eq_getElem?_getD, List.getElem?_eq_getElem (show (rndI n l.length).toNat < l.length by omega)]
  exact List.getElem_mem _
theorem take_bit {s : Nat} (h : 1 ≤ s ∧ s < 32) (n : Int) : ∃ v : Nat, takeL (listI (s : Nat) 5) n = (v : Int) ∧ v < 5 ∧ s.testBit v = true := by
  obtain ⟨i, hi⟩ := ne_bit.1 (show s ≠ 0 by omega)
  have hi5 : i < 5 := bit_lt (n := 5) (by omega) hi
  have hm : (i : Int) ∈ listI (s : Nat) 5 := (mem_listI hi5).2 (by rw [of_bit (by omega)]; exact hi)
  have hx := take_mem (List.length_pos_of_mem hm) n
  unfold listI at hx ⊢
  obtain ⟨v, hv, ev⟩ := List.mem_map.1 hx
  obtain ⟨hv5, hb⟩ := List.mem_filter.1 hv
  have hv6 := List.mem_range.1 hv5
  rw [of_bit (by omega)] at hb
  exact ⟨v, ev.symm, hv6, hb⟩
theorem hv_bit {b : MBook} (h : okC b) (bits : List Int) {m k : Nat} (hm : m < b.makers.length) (hk : k < nK b) : ∃ v : Nat, hvI b bits m k = (v : Int) ∧ v < 5 ∧ (vsN b bits m k).testBit v = true := by
  refine take_bit ?_ _
  have := h.mk hm hk
  unfold vsN
  split <;> omega
theorem hvL_get {b : MBook} (bits : List Int) {m j k : Nat} (hk : k < j) : (hvL b bits m j).getD k 0 = hvI b bits m k := by
  unfold hvL
  simp [List.getD_eq_getElem?_getD, hk]
/-- Marks that are right, if the horse has these values. -/
def markR (l : List Int) (m : Int × Int) : Int × Int := (m.1, ((m.2.toNat ||| 2 ^ (l.getD m.1.toNat 0).toNat : Nat) : Int))
def rightlyB (b : MBook) (l : List Int) : MBook := { b with seen := b.seen.map (markR l) }
theorem mark_ok {b : MBook} (h : okC b) (bits : List Int) {m : Nat} (hm : m < b.makers.length) {y : Int × Int} (hy : y ∈ b.seen) :
    ∃ k v : Nat, y.1 = (k : Int) ∧ k < nK b ∧ (hvL b bits m (nK b)).getD k 0 = (v : Int) ∧ v < 5 ∧ (vsN b bits m k).testBit v = true ∧ ∃ w : Nat, y.2 = (w : Int) ∧ 1 ≤ w ∧ w ≤ 31 ∧ markR (hvL b bits m (nK b)) y = ((k : Int), ((w ||| 2 ^ v : Nat) : Int)) ∧ (w ||| 2 ^ v) < 32 ∧ 1 ≤ (w ||| 2 ^ v) := by
  obtain ⟨⟨q1, q2⟩, q3, q4⟩ := h.2.2.2.1 _ hy
  obtain ⟨k, ek⟩ : ∃ k : Nat, y.1 = (k : Int) := ⟨y.1.toNat, by omega⟩
  obtain ⟨w, ew⟩ : ∃ w : Nat, y.2 = (w : Int) := ⟨y.2.toNat, by omega⟩
  have hk : k < nK b := by omega
  obtain ⟨v, hv, hv5, hb⟩ := hv_bit h bits hm hk
  have hlt : (w ||| 2 ^ v) < 2 ^ 5 := Nat.or_lt_two_pow (by omega) (Nat.pow_lt_pow_right (by decide) hv5)
  have hge : w ≤ (w ||| 2 ^ v) := Nat.left_le_or
  refine ⟨k, v, ek, hk, by rw [hvL_get bits hk, hv], hv5, hb, w, ew, by omega, by omega, ?_, hlt, by omega⟩
  unfold markR
  rw [ek, ew, Int.toNat_natCast, Int.toNat_natCast, hvL_get bits hk, hv, Int.toNat_natCast]
theorem rightly_ok {b : MBook} (h : okBook b) (bits : List Int) {m : Nat} (hm : m < b.makers.length) : okBook (rightlyB b (hvL b bits m (nK b))) := by
  obtain ⟨hc, h8⟩ := h
  refine ⟨⟨hc.1, hc.2.1, hc.2.2.1, fun y hy => ?_, hc.2.2.2.2⟩, ?_⟩
  · obtain ⟨z, hz, rfl⟩ := List.mem_map.1 hy
    obtain ⟨k, v, -, hk, -, -, -, w, -, -, -, e, h1, h2⟩ := mark_ok hc bits hm hz
    rw [e]
    show (0 ≤ (k : Int) ∧ (k : Int) < (nK b : Int)) ∧ 1 ≤ ((w ||| 2 ^ v : Nat) : Int) ∧ ((w ||| 2 ^ v : Nat) : Int) ≤ 31
    omega
  · show (b.seen.map _).length ≤ 8
    rw [List.length_map]
    exact h8
theorem rightly_seen {b : MBook} (h : okC b) (bits : List Int) {m k v : Nat} (hm : m < b.makers.length) (hv : hvI b bits m k = (v : Int)) (hv5 : v < 5) : (seenN (rightlyB b (hvL b bits m (nK b))) k).testBit v = true := by
  refine seen_bit.2 ⟨hv5, fun y hy he => ?_⟩
  obtain ⟨z, hz, rfl⟩ := List.mem_map.1 hy
  obtain ⟨k', v', ek, hk, hg, -, -, w, -, -, -, e, -, -⟩ := mark_ok h bits hm hz
  rw [e] at he ⊢
  have ekk : k' = k := by
    have h9 : (k' : Int) = (k : Int) := he
    omega
  subst ekk
  rw [hvL_get bits hk, hv] at hg
  have evv : v' = v := by omega
  subst evv
  show ((w ||| 2 ^ v' : Nat) : Int).toNat.testBit v' = true
  rw [Int.toNat_natCast, Nat.testBit_or, Nat.testBit_two_pow_self, Bool.or_true]
theorem true_truth {b : MBook} (h : okC b) (bits : List Int) {m : Nat} (hm : m < b.makers.length) : TruthP (rightlyB b (hvL b bits m (nK b))) m (setN b bits (nK b)) ∧ ∀ k v : Nat, k < nK b → hvI b bits m k = (v : Int) → (valN (rightlyB b (hvL b bits m (nK b))) m (setN b bits (nK b)) k).testBit v = true := by
  have hval : ∀ k v : Nat, k < nK b → hvI b bits m k = (v : Int) → (valN (rightlyB b (hvL b bits m (nK b))) m (setN b bits (nK b)) k).testBit v = true := fun k v hk hv => by
    obtain ⟨v', ev, hv5, hb⟩ := hv_bit h bits hm hk
    have e : v = v' := by omega
    subst e
    have hs := rightly_seen h bits hm hv hv5
    unfold valN
    rw [set_bit, decide_eq_true hk, Bool.true_and]
    split
    · exact hs
    · rename_i hc
      unfold vsN at hb
      rw [if_neg hc] at hb
      unfold ownN
      rw [Nat.testBit_and, hs, Bool.and_true]
      exact hb
  refine ⟨⟨fun k hk => ?_, ?_, fun k hk => ?_⟩, hval⟩
  · rw [set_bit, Bool.and_eq_true] at hk
    have hc := hk.2
    unfold chK chB at hc
    rw [Bool.and_eq_true, Bool.and_eq_true] at hc
    have h3 := hc.1.2
    show (fixN b).testBit k = false
    simpa using h3
  · have e : cntN (setN b bits (nK b)) (nK b) = hM b bits (nK b) := by
      rw [hM_cnt]
      exact cnt_bits fun k hk => by rw [set_bit, decide_eq_true hk, Bool.true_and]
    show (cntN (setN b bits (nK b)) (nK b) : Int) ≤ b.repairs
    rw [e]
    exact hM_rep h.2.2.2.2.1.1 bits _
  · obtain ⟨v, ev, -, -⟩ := hv_bit h bits hm hk
    exact ne_bit.2 ⟨v, hval k v hk ev⟩
theorem verdict_true {x : MBook} {m c k : Nat} (hc : c ∈ truthsL x m) : ∃ v : Int, verdictI x m k = v ∧ ((v = 0 ∧ c.testBit k = false) ∨ (v = 1 ∧ (fixN x).testBit k = false) ∨ (v = 2 ∧ c.testBit k = true ∧ (fixN x).testBit k = false)) := by
  unfold verdictI
  by_cases h1 : ((truthsL x m).all fun c => c.testBit k) = true
  · have h2 := List.all_eq_true.1 h1 c hc
    exact ⟨2, if_pos h1, .inr (.inr ⟨rfl, h2, (mem_truths.1 hc).2.fix k h2⟩)⟩
  · by_cases h2 : ((truthsL x m).any fun c => c.testBit k) = true
    · obtain ⟨c', hc', hb⟩ := List.any_eq_true.1 h2
      exact ⟨1, by rw [if_neg h1, if_pos h2], .inr (.inl ⟨rfl, (mem_truths.1 hc').2.fix k hb⟩)⟩
    · refine ⟨0, by rw [if_neg h1, if_neg h2], .inl ⟨rfl, ?_⟩⟩
      rw [Bool.eq_false_iff]
      exact fun h => h2 (List.any_eq_true.2 ⟨c, hc, h⟩)
end Go.Proofs.Ythaplmohhbdfeaa.Mk
namespace Go.Proofs.Ythaplmohhbdfeaa.Mk
open Go.RowKit Ls
def ac38 : AC := (AC.seq (AC.ops [(AOp.mk (some 3) (AK.box 4 (AX.t 0)) none 0 false true), (AOp.mk (some 6) (AK.mv (AX.c (PV.sl SK.full 0 []))) none 1 false true), (AOp.mk (some 7) (AK.mv (AX.c (PV.val (Value.int IntKind.i64 0)))) none 2 false true)]) (AC.seq (AC.ops [(AOp.mk (some 13) (AK.bslice false 3 1 0 [(PV.val (Value.int IntKind.i64 0))] []) none 0 false true), (AOp.mk (some 8) (AK.mv (AX.t 13)) none 1 false true), (AOp.mk (some 9) (AK.mv (AX.c (PV.val (Value.int IntKind.i64 0)))) none 2 false true), (AOp.mk (some 10) (AK.mv (AX.c (PV.val (Value.int IntKind.i64 0)))) none 3 false true)]) (AC.seq (AC.seq (AC.ops [(AOp.mk (some 11) (AK.mv (AX.c (PV.val (Value.int IntKind.i64 0)))) none 0 false true)]) (AC.block 0 (AC.loop (AC.seq (AC.seq (AC.ops [(AOp.mk (some 14) (AK.mv (AX.t 11)) none 0 false true), (AOp.mk (some 15) (AK.fadr 0 (AX.t 3)) none 1 false true), (AOp.mk (some 16) (AK.ld none (AX.t 15)) none 2 false true), (AOp.mk (some 17) (AK.iadrS 1 (AX.t 16) (AX.c (PV.val (Value.int IntKind.i64 0)))) none 3 false true), (AOp.mk (some 18) (AK.ld none (AX.t 17)) none 4 false true), (AOp.mk (some 19) (AK.len (AX.t 18)) none 5 false true), (AOp.mk (some 20) (AK.bin false BinOp.lss (AX.t 14) (AX.t 19)) none 6 false true)]) (AC.cond (AX.t 20) AC.skip (AC.exit 0))) (AC.seq (AC.block 1 (AC.seq (AC.ops [(AOp.mk (some 23) (AK.fadr 0 (AX.t 3)) none 0 false true), (AOp.mk (some 24) (AK.ld none (AX.t 23)) none 1 false true), (AOp.mk (some 25) (AK.mv (AX.t 1)) none 2 false true), (AOp.mk (some 26) (AK.iadrS 1 (AX.t 24) (AX.t 25)) none 3 false true), (AOp.mk (some 27) (AK.ld none (AX.t 26)) none 4 false true), (AOp.mk (some 28) (AK.mv (AX.t 11)) none 5 false true), (AOp.mk (some 29) (AK.iadrS 1 (AX.t 27) (AX.t 28)) none 6 false true), (AOp.mk (some 30) (AK.ld none (AX.t 29)) none 7 false true), (AOp.mk (some 12) (AK.mv (AX.t 30)) none 8 false true)]) (AC.seq (AC.seq (AC.ops [(AOp.mk (some 31) (AK.mv (AX.t 10)) none 0 false true), (AOp.mk (some 32) (AK.fadr 2 (AX.t 3)) none 1 false true), (AOp.mk (some 33) (AK.ld none (AX.t 32)) none 2 false true), (AOp.mk (some 34) (AK.bin false BinOp.lss (AX.t 31) (AX.t 33)) none 3 false true), (AOp.mk (some 35) (AK.mv (AX.t 34)) none 4 false true), (AOp.mk (some 36) (AK.fadr 3 (AX.t 3)) (some (35, true)) 5 false true), (AOp.mk (some 37) (AK.ld none (AX.t 36)) (some (35, true)) 6 false true), (AOp.mk (some 38) (AK.mv (AX.t 11)) (some (35, true)) 7 false true), (AOp.mk (some 39) (AK.call 44 [(AX.t 37), (AX.t 38)]) (some (35, true)) 8 false true), (AOp.mk (some 40) (AK.un UnOp.not (AX.t 39)) (some (35, true)) 9 false true), (AOp.mk (some 41) (AK.pick (AX.t 35) (AX.t 40) (AX.c (PV.val (Value.bool false)))) none 10 false true), (AOp.mk (some 42) (AK.mv (AX.t 41)) none 11 false true), (AOp.mk (some 43) (AK.mv (AX.t 2)) (some (42, true)) 12 false true), (AOp.mk (some 44) (AK.mv (AX.t 11)) (some (42, true)) 13 false true), (AOp.mk (some 45) (AK.call 48 [(AX.t 43), (AX.t 44)]) (some (42, true)) 14 false true), (AOp.mk (some 46) (AK.bin false BinOp.rem (AX.t 45) (AX.c (PV.val (Value.int IntKind.i64 3)))) (some (42, true)) 15 false true), (AOp.mk (some 47) (AK.bin false BinOp.eql (AX.t 46) (AX.c (PV.val (Value.int IntKind.i64 0)))) (some (42, true)) 16 false true), (AOp.mk (some 48) (AK.pick (AX.t 42) (AX.t 47) (AX.c (PV.val (Value.bool false)))) none 17 false true)]) (AC.cond (AX.t 48) (AC.ops [(AOp.mk (some 49) (AK.mv (AX.t 9)) none 0 true false), (AOp.mk (some 50) (AK.mv (AX.t 11)) none 1 true false), (AOp.mk (some 51) (AK.bin false BinOp.shl (AX.c (PV.val (Value.int IntKind.i64 1))) (AX.t 50)) none 2 true false), (AOp.mk (some 52) (AK.bin false BinOp.or (AX.t 49) (AX.t 51)) none 3 true false), (AOp.mk (some 53) (AK.mv (AX.t 10)) none 4 true false), (AOp.mk (some 54) (AK.bin false BinOp.add (AX.t 53) (AX.c (PV.val (Value.int IntKind.i64 1)))) none 5 true false), (AOp.mk (some 12) (AK.mv (AX.c (PV.val (Value.int IntKind.i64 31)))) none 6 true false), (AOp.mk (some 9) (AK.mv (AX.t 52)) none 7 true false), (AOp.mk (some 10) (AK.mv (AX.t 54)) none 8 true true)]) AC.skip)) (AC.ops [(AOp.mk (some 55) (AK.mv (AX.t 8)) none 0 false true), (AOp.mk (some 56) (AK.mv (AX.t 12)) none 1 false true), (AOp.mk (some 57) (AK.call 42 [(AX.t 56), (AX.c (PV.val (Value.int IntKind.i64 5)))]) none 2 false true), (AOp.mk (some 58) (AK.mv (AX.t 2)) none 3 false true), (AOp.mk (some 59) (AK.mv (AX.t 11)) none 4 false true), (AOp.mk (some 60) (AK.bin false BinOp.add (AX.t 59) (AX.c (PV.val (Value.int IntKind.i64 2)))) none 5 false true), (AOp.mk (some 61) (AK.call 48 [(AX.t 58), (AX.t 60)]) none 6 false true), (AOp.mk (some 62) (AK.call 48 [(AX.t 57), (AX.t 61)]) none 7 false true), (AOp.mk (some 63) (AK.bslice false 3 1 1 [(PV.val (Value.int IntKind.i64 0))] [(0, (1, (AX.t 62)))]) none 8 false true), (AOp.mk (some 64) (AK.app false 3 1 8 [(PV.val (Value.int IntKind.i64 0))] (AX.t 55) (AX.t 63)) none 9 false true), (AOp.mk (some 8) (AK.mv (AX.t 64)) none 10 false true)])))) (AC.ops [(AOp.mk (some 21) (AK.mv (AX.t 11)) none 0 false true), (AOp.mk (some 22) (AK.bin false BinOp.add (AX.t 21) (AX.c (PV.val (Value.int IntKind.i64 1)))) none 1 false true), (AOp.mk (some 11) (AK.mv (AX.t 22)) none 2 false true)])))))) (AC.seq (AC.ops [(AOp.mk (some 65) (AK.mv (AX.t 8)) none 0 false true), (AOp.mk (some 66) (AK.mv (AX.t 9)) none 1 false true), (AOp.mk (some 6) (AK.mv (AX.t 65)) none 2 false true), (AOp.mk (some 7) (AK.mv (AX.t 66)) none 3 false true)]) AC.ret))))
theorem ac38_ok : cCode Try.prog (fun _ => false) Try.f38.ntmps (Try.f38.body.getD .skip) = some ac38 := by kernel_rfl
def ac39 : AC := (AC.seq (AC.ops [(AOp.mk (some 2) (AK.box 4 (AX.t 0)) none 0 false true), (AOp.mk (some 4) (AK.new (PV.agg [(PV.sl SK.full 0 []), (PV.sl SK.full 0 []), (PV.val (Value.int IntKind.i64 0)), (PV.val (Value.int IntKind.i64 0))])) none 1 false true)]) (AC.seq (AC.ops [(AOp.mk (some 8) (AK.ld (some 4) (AX.t 2)) none 0 false true), (AOp.mk (some 5) (AK.new (PV.agg [(PV.sl SK.full 0 []), (PV.sl SK.full 0 []), (PV.val (Value.int IntKind.i64 0)), (PV.val (Value.int IntKind.i64 0))])) none 1 false true), (AOp.mk none (AK.st 4 (AX.t 5) (AX.t 8)) none 2 false true)]) (AC.seq (AC.ops [(AOp.mk (some 9) (AK.fadr 1 (AX.t 5)) none 0 false true), (AOp.mk none (AK.st 1 (AX.t 9) (AX.c (PV.sl SK.full 0 []))) none 1 false true)]) (AC.seq (AC.seq (AC.ops [(AOp.mk (some 6) (AK.mv (AX.c (PV.val (Value.int IntKind.i64 0)))) none 0 false true)]) (AC.block 0 (AC.loop (AC.seq (AC.seq (AC.ops [(AOp.mk (some 10) (AK.mv (AX.t 6)) none 0 false true), (AOp.mk (some 11) (AK.fadr 1 (AX.t 2)) none 1 false true), (AOp.mk (some 12) (AK.ld none (AX.t 11)) none 2 false true), (AOp.mk (some 13) (AK.len (AX.t 12)) none 3 false true), (AOp.mk (some 14) (AK.bin false BinOp.lss (AX.t 10) (AX.t 13)) none 4 false true)]) (AC.cond (AX.t 14) AC.skip (AC.exit 0))) (AC.seq (AC.block 1 (AC.seq (AC.ops [(AOp.mk (some 17) (AK.fadr 1 (AX.t 2)) none 0 false true), (AOp.mk (some 18) (AK.ld none (AX.t 17)) none 1 false true), (AOp.mk (some 19) (AK.mv (AX.t 6)) none 2 false true), (AOp.mk (some 20) (AK.iadrS 2 (AX.t 18) (AX.t 19)) none 3 false true), (AOp.mk (some 21) (AK.ld (some 2) (AX.t 20)) none 4 false true), (AOp.mk (some 7) (AK.new (PV.agg [(PV.val (Value.int IntKind.i64 0)), (PV.val (Value.int IntKind.i64 0))])) none 5 false true), (AOp.mk none (AK.st 2 (AX.t 7) (AX.t 21)) none 6 false true)]) (AC.seq (AC.ops [(AOp.mk (some 22) (AK.fadr 1 (AX.t 7)) none 0 true false), (AOp.mk (some 23) (AK.ld none (AX.t 22)) none 1 true false), (AOp.mk (some 24) (AK.mv (AX.t 1)) none 2 true false), (AOp.mk (some 25) (AK.fadr 0 (AX.t 7)) none 3 true false), (AOp.mk (some 26) (AK.ld none (AX.t 25)) none 4 true false), (AOp.mk (some 27) (AK.iadrS 1 (AX.t 24) (AX.t 26)) none 5 true false), (AOp.mk (some 28) (AK.ld none (AX.t 27)) none 6 true false), (AOp.mk (some 29) (AK.bin false BinOp.shl (AX.c (PV.val (Value.int IntKind.i64 1))) (AX.t 28)) none 7 true false), (AOp.mk (some 30) (AK.bin false BinOp.or (AX.t 23) (AX.t 29)) none 8 true true), (AOp.mk (some 31) (AK.fadr 1 (AX.t 7)) none 9 true true), (AOp.mk none (AK.st 1 (AX.t 31) (AX.t 30)) none 10 false true)]) (AC.ops [(AOp.mk (some 32) (AK.fadr 1 (AX.t 5)) none 0 false true), (AOp.mk (some 33) (AK.ld none (AX.t 32)) none 1 false true), (AOp.mk (some 34) (AK.ld (some 2) (AX.t 7)) none 2 false true), (AOp.mk (some 35) (AK.bslice false 59 2 1 [(PV.val (Value.int IntKind.i64 0)), (PV.val (Value.int IntKind.i64 0))] [(0, (2, (AX.t 34)))]) none 3 false true), (AOp.mk (some 36) (AK.app false 59 2 16 [(PV.val (Value.int IntKind.i64 0)), (PV.val (Value.int IntKind.i64 0))] (AX.t 33) (AX.t 35)) none 4 false true), (AOp.mk (some 37) (AK.fadr 1 (AX.t 5)) none 5 false true), (AOp.mk none (AK.st 1 (AX.t 37) (AX.t 36)) none 6 false true)])))) (AC.ops [(AOp.mk (some 15) (AK.mv (AX.t 6)) none 0 false true), (AOp.mk (some 16) (AK.bin false BinOp.add (AX.t 15) (AX.c (PV.val (Value.int IntKind.i64 1)))) none 1 false true), (AOp.mk (some 6) (AK.mv (AX.t 16)) none 2 false true)])))))) (AC.seq (AC.ops [(AOp.mk (some 38) (AK.ld (some 4) (AX.t 5)) none 0 false true), (AOp.mk none (AK.st 4 (AX.t 4) (AX.t 38)) none 1 false true)]) AC.ret)))))
theorem ac39_ok : cCode Try.prog (fun _ => false) Try.f39.ntmps (Try.f39.body.getD .skip) = some ac39 := by kernel_rfl
theorem bin_orG {x y : Nat} (hx : x < 2 ^ 62) (hy : y < 2 ^ 62) : binS false .or (.p (pi x)) (.p (pi y)) = some (.p (pi ((x ||| y : Nat) : Int))) := by
  rw [bin_or]
  have h3 : (x ||| y) < 2 ^ 62 := Nat.or_lt_two_pow hx hy
  have e : (BitVec.ofInt 64 (x : Int) ||| BitVec.ofInt 64 (y : Int)).toNat = x ||| y := by
    rw [BitVec.ofInt_natCast, BitVec.ofInt_natCast, BitVec.toNat_or, BitVec.toNat_ofNat, BitVec.toNat_ofNat, Nat.mod_eq_of_lt (by omega), Nat.mod_eq_of_lt (by omega)]
  have e2 : IntKind.i64.wrap ((BitVec.ofInt 64 (x : Int) ||| BitVec.ofInt 64 (y : Int)).toNat : Int) = ((x ||| y : Nat) : Int) := by
    rw [e]
    exact wrap_id (by omega) (by omega)
  exact congrArg (fun n => some (AV.p (pi n))) e2
set_option maxRecDepth 100000 in
set_option maxHeartbeats 2000000 in
theorem horse_sem (k k2 : SK) {b : MBook} (ho : okBook b) (bits : List Int) {m : Nat} (hm : m < b.makers.length) : Sem1 38 [.agg (bookC k k2 b), pi m, pis bits] (.tup [pis (hvL b bits m (nK b)), pi (setN b bits (nK b) : Nat)]) := by
  have hoc := ho.1
  have h2 := hoc.2.1
  have hfx := hoc.fix.1
  obtain ⟨hz, hfl⟩ := hoc.first
  have e0 : iadrS' 1 (.p (.sl k 1 (rowsC b.makers))) (.p (pi 0)) = some (.p (.ptr [pis b.makers[0]] 0)) := iadr_map (f := fun h => [pis h]) (kd := k) (sz := 1) hz
  have em := iadr_map (f := fun h => [pis h]) (kd := k) (sz := 1) hm
  obtain ⟨hrow, -⟩ := hoc.row hm
  refine semC_of_exec' mixed Try.func38 (by kernel_rfl) (by kernel_rfl) ac38_ok 3 rfl (by decide) [(.tmp 6), (.tmp 7)] (by kernel_rfl) ?_
  intro hr C hC hI
  unfold ac38
  simp only [go_sem, Nat.reduceBEq, Nat.reduceAdd]
  refine loop_g (α := Nat × Option Nat) (fun a => a.1 ≤ nK b ∧ (a.2 = none → a.1 = 0)) (fun a => nK b - a.1) [1, 2, 3] (fun a => [(8, .p (slG 3 a.2 ((hvL b bits m a.1).map fun x => [pi x]))), (9, .p (pi (setN b bits a.1 : Nat))), (10, .p (pi (hM b bits a.1 : Nat))), (11, .p (pi a.1))]) (fun _ => [.cells ((bookC k k2 b).map .p)]) (fun a => a.2.toList) (0, none) ⟨by omega, fun _ => rfl⟩ (by simp [Wk, wkT, wkL, look, AV.lo, AV.lo.loL, upS_eq, keepS_nil, keepS_cons, slG, setN, hM]) ?_
  rintro ⟨j, o⟩ ⟨hj, hok⟩
  replace hj : j ≤ nK b := hj
  replace hok : o = none → j = 0 := hok
  have h0 : o = none → ((hvL b bits m j).map fun x => [pi x]) = [] := fun e => by rw [hok e]; rfl
  simp only [go_sem, Nat.reduceBEq, e0, hfl, List.length_map]
  refine ⟨fun c5 => ?_, fun c5 => ?_⟩
  · have hj2 : j < nK b := by omega
    have hjl : j < b.makers[m].length := by omega
    obtain ⟨q1, q3, q4⟩ := hoc.mk hm hj2
    have hval := mk_get hm hjl
    rw [q4] at hval
    have hnx := hvL_next b bits m j
    have hMn := hM_next b bits j
    have hSn : setN b bits (j + 1) = if chK b bits j then setN b bits j ||| 2 ^ j else setN b bits j := rfl
    have hvs : vsN b bits m j = if chK b bits j then 31 else mkN b m j := rfl
    have hch : chK b bits j = (decide ((hM b bits j : Int) < b.repairs) && !(fixN b).testBit j && decide ((takeL bits j).tmod 3 = 0)) := rfl
    have hMl := hM_le b bits j
    have hSl := set_lt b bits j
    have hp64 : 2 ^ j ≤ 64 := Nat.pow_le_pow_right (n := 2) (by decide) (show j ≤ 6 by omega)
    have hor : binS false .or (.p (pi (setN b bits j : Nat))) (.p (pi (2 ^ j : Nat))) = some (.p (pi ((setN b bits j ||| 2 ^ j : Nat) : Int))) := bin_orG (by omega) (by omega)
    have hrem := bin_rem (k := .i64) (a := takeL bits j) (b := 3) (by decide)
    have hI : hvI b bits m j = takeL (listI (vsN b bits m j : Nat) 5) (takeL bits ((j : Int) + 2)) := rfl
    simp only [go_sem, Nat.reduceBEq, em, iadr_pis hjl, hval]
    refine ⟨fun d5 => ?_, fun d5 => ?_⟩
    · rw [decide_eq_true d5, Bool.true_and] at hch
      rw [hfx]
      refine call_pure2 hC (Of_sem (fixN b : Nat) j (by omega)) rfl (PVleL_refl _) ?_
      rintro r rfl
      simp only [go_sem, Nat.reduceBEq, of_bit (s := fixN b) (i := j) (by omega)]
      cases hb : (fixN b).testBit j
      · rw [hb, Bool.not_false, Bool.true_and] at hch
        simp only [go_sem, Nat.reduceBEq]
        refine call_pure2 hC (Take_sem bits j) rfl (PVleL_refl _) ?_
        rintro r rfl
        simp only [go_sem, Nat.reduceBEq, hrem]
        refine ⟨fun e5 => ?_, fun e5 => ?_⟩
        · rw [decide_eq_true e5] at hch
          rw [hch, if_pos rfl] at hMn hSn hvs
          simp only [go_sem, Nat.reduceBEq, bin_shl (show ¬ (j : Int) < 0 by omega), shl6 (m := j) (by omega), hor, wrap_succ (k := hM b bits j) (by omega)]
          have hL5 : Sem1 42 [pi 31, pi 5] (pis (listI (vsN b bits m j : Nat) 5)) := by
            rw [hvs]
            exact List_sem 31 5 (by decide)
          refine call_pure2 hC (hL5) rfl (PVleL_refl _) ?_
          rintro r rfl
          simp only [go_sem, Nat.reduceBEq, wrap_id (n := (j : Int) + 2) (by omega) (by omega)]
          refine call_pure2 hC (Take_sem bits ((j : Int) + 2)) rfl (PVleL_refl _) ?_
          rintro r rfl
          simp only [go_sem, Nat.reduceBEq]
          refine call_pure2 hC (Take_sem (listI (vsN b bits m j : Nat) 5) (takeL bits ((j : Int) + 2))) rfl (PVleL_refl _) ?_
          rintro r rfl
          simp only [go_sem, Nat.reduceBEq]
          refine app_slG h0 (by rw [List.length_map, hvL_len]; omega) (by simp) fun tk htk => ?_
          simp only [go_sem, Nat.reduceBEq, wrap_succ (k := j) (by omega)]
          refine ⟨⟨(j + 1, some tk), hj2, (fun h => by cases h)⟩, by simp only; omega, ?_⟩
          simp only [hnx, hMn, hSn, hI]
          refine ⟨by simp [wkT, look, AV.lo], by simp [wkL, AV.lo, AV.lo.loL, ABlk.toZ], by simp, by simp, rfl, rfl, by simp⟩
        · rw [decide_eq_false e5] at hch
          rw [hch, if_neg (by decide)] at hMn hSn hvs
          have hL5 : Sem1 42 [pi (mkN b m j : Nat), pi 5] (pis (listI (vsN b bits m j : Nat) 5)) := by
            rw [hvs]
            exact List_sem (mkN b m j : Nat) 5 (by decide)
          refine call_pure2 hC (hL5) rfl (PVleL_refl _) ?_
          rintro r rfl
          simp only [go_sem, Nat.reduceBEq, wrap_id (n := (j : Int) + 2) (by omega) (by omega)]
          refine call_pure2 hC (Take_sem bits ((j : Int) + 2)) rfl (PVleL_refl _) ?_
          rintro r rfl
          simp only [go_sem, Nat.reduceBEq]
          refine call_pure2 hC (Take_sem (listI (vsN b bits m j : Nat) 5) (takeL bits ((j : Int) + 2))) rfl (PVleL_refl _) ?_
          rintro r rfl
          simp only [go_sem, Nat.reduceBEq]
          refine app_slG h0 (by rw [List.length_map, hvL_len]; omega) (by simp) fun tk htk => ?_
          simp only [go_sem, Nat.reduceBEq, wrap_succ (k := j) (by omega)]
          refine ⟨⟨(j + 1, some tk), hj2, (fun h => by cases h)⟩, by simp only; omega, ?_⟩
          simp only [hnx, hMn, hSn, hI]
          refine ⟨by simp [wkT, look, AV.lo], by simp [wkL, AV.lo, AV.lo.loL, ABlk.toZ], by simp, by simp, rfl, rfl, by simp⟩
      · rw [hb, Bool.not_true, Bool.false_and] at hch
        rw [hch, if_neg (by decide)] at hMn hSn hvs
        simp only [go_sem, Nat.reduceBEq]
        have hL5 : Sem1 42 [pi (mkN b m j : Nat), pi 5] (pis (listI (vsN b bits m j : Nat) 5)) := by
          rw [hvs]
          exact List_sem (mkN b m j : Nat) 5 (by decide)
        refine call_pure2 hC (hL5) rfl (PVleL_refl _) ?_
        rintro r rfl
        simp only [go_sem, Nat.reduceBEq, wrap_id (n := (j : Int) + 2) (by omega) (by omega)]
        refine call_pure2 hC (Take_sem bits ((j : Int) + 2)) rfl (PVleL_refl _) ?_
        rintro r rfl
        simp only [go_sem, Nat.reduceBEq]
        refine call_pure2 hC (Take_sem (listI (vsN b bits m j : Nat) 5) (takeL bits ((j : Int) + 2))) rfl (PVleL_refl _) ?_
        rintro r rfl
        simp only [go_sem, Nat.reduceBEq]
        refine app_slG h0 (by rw [List.length_map, hvL_len]; omega) (by simp) fun tk htk => ?_
        simp only [go_sem, Nat.reduceBEq, wrap_succ (k := j) (by omega)]
        refine ⟨⟨(j + 1, some tk), hj2, (fun h => by cases h)⟩, by simp only; omega, ?_⟩
        simp only [hnx, hMn, hSn, hI]
        refine ⟨by simp [wkT, look, AV.lo], by simp [wkL, AV.lo, AV.lo.loL, ABlk.toZ], by simp, by simp, rfl, rfl, by simp⟩
    · rw [decide_eq_false d5, Bool.false_and, Bool.false_and] at hch
      rw [hch, if_neg (by decide)] at hMn hSn hvs
      have hL5 : Sem1 42 [pi (mkN b m j : Nat), pi 5] (pis (listI (vsN b bits m j : Nat) 5)) := by
        rw [hvs]
        exact List_sem (mkN b m j : Nat) 5 (by decide)
      refine call_pure2 hC (hL5) rfl (PVleL_refl _) ?_
      rintro r rfl
      simp only [go_sem, Nat.reduceBEq, wrap_id (n := (j : Int) + 2) (by omega) (by omega)]
      refine call_pure2 hC (Take_sem bits ((j : Int) + 2)) rfl (PVleL_refl _) ?_
      rintro r rfl
      simp only [go_sem, Nat.reduceBEq]
      refine call_pure2 hC (Take_sem (listI (vsN b bits m j : Nat) 5) (takeL bits ((j : Int) + 2))) rfl (PVleL_refl _) ?_
      rintro r rfl
      simp only [go_sem, Nat.reduceBEq]
      refine app_slG h0 (by rw [List.length_map, hvL_len]; omega) (by simp) fun tk htk => ?_
      simp only [go_sem, Nat.reduceBEq, wrap_succ (k := j) (by omega)]
      refine ⟨⟨(j + 1, some tk), hj2, (fun h => by cases h)⟩, by simp only; omega, ?_⟩
      simp only [hnx, hMn, hSn, hI]
      refine ⟨by simp [wkT, look, AV.lo], by simp [wkL, AV.lo, AV.lo.loL, ABlk.toZ], by simp, by simp, rfl, rfl, by simp⟩
  · have hjn : j = nK b := by omega
    subst hjn
    exact retQ_two_le rfl rfl (slG_le h0) (PVle.refl _) rfl
def rightL (b : MBook) (bits : List Int) (m j : Nat) : List (Int × Int) := (b.seen.take j).map (markR (hvL b bits m (nK b)))
set_option maxRecDepth 100000 in
set_option maxHeartbeats 2000000 in
theorem rightly_sem (k k2 : SK) {b : MBook} (ho : okBook b) (bits : List Int) {m : Nat} (hm : m < b.makers.length) : Sem1 39 [.agg (bookC k k2 b), pis (hvL b bits m (nK b))] (.agg (bookC k .sh (rightlyB b (hvL b bits m (nK b))))) := by
  have h8 := ho.2
  refine semC_of_exec' mixed Try.func39 (by kernel_rfl) (by kernel_rfl) ac39_ok 2 rfl (by decide) [(.cell 4 25)] (by kernel_rfl) ?_
  intro hr C hC hI
  unfold ac39
  simp only [go_sem, Nat.reduceBEq, Nat.reduceAdd, Nat.reduceLeDiff, putCells]
  refine loop_g (α := Nat × Option Nat) (fun a => a.1 ≤ b.seen.length ∧ (a.2 = none → seenC (rightL b bits m a.1) = [])) (fun a => b.seen.length - a.1) [1, 2, 4, 5] (fun a => [(6, .p (pi a.1))]) (fun a => [.cells ((bookC k k2 b).map .p), .cells [.p (.sl .full 0 []), .p (.sl .full 0 []), .p (pi 0), .p (pi 0)], .cells [.p (.sl k 1 (rowsC b.makers)), .p (slZ 59 2 a.2 (seenC (rightL b bits m a.1))), .p (pi b.repairs), .p (pi b.fixed)]]) (fun a => a.2.toList) (0, none) ⟨by omega, fun _ => by simp [rightL]⟩ (by simp [Wk, wkT, wkL, look, AV.lo, AV.lo.loL, upS_eq, keepS_nil, keepS_cons, slZ]) ?_
  rintro ⟨j, o⟩ ⟨hj, h0⟩
  replace hj : j ≤ b.seen.length := hj
  replace h0 : o = none → seenC (rightL b bits m j) = [] := h0
  simp only [go_sem, Nat.reduceBEq, Nat.reduceAdd, List.length_map]
  refine ⟨fun h5 => ?_, fun h5 => ?_⟩
  · have hj2 : j < b.seen.length := by omega
    obtain ⟨q, v, ek, hq, hg, hv5, -, w, ew, hw1, hw2, emr, hlt, -⟩ := mark_ok ho.1 bits hm (List.getElem_mem hj2)
    have hql : q < (hvL b bits m (nK b)).length := by rw [hvL_len]; exact hq
    have hgv : (hvL b bits m (nK b))[q] = (v : Int) := by
      rw [← hg, List.getD_eq_getElem?_getD, List.getElem?_eq_getElem hql]
      rfl
    have hnx2 : seenC (rightL b bits m (j + 1)) = seenC (rightL b bits m j) ++ [[pi q, pi ((w ||| 2 ^ v : Nat) : Int)]] := by
      unfold rightL
      rw [List.take_succ_eq_append_getElem hj2, List.map_append, List.map_cons, List.map_nil, emr]
      simp
    have hrl : (rightL b bits m j).length ≤ b.seen.length := by
      unfold rightL
      rw [List.length_map, List.length_take]
      omega
    have hp16 : 2 ^ v ≤ 16 := Nat.pow_le_pow_right (n := 2) (by decide) (show v ≤ 4 by omega)
    have hor : binS false .or (.p (pi (w : Nat))) (.p (pi (2 ^ v : Nat))) = some (.p (pi ((w ||| 2 ^ v : Nat) : Int))) := bin_orG (by omega) (by omega)
    have ej := iadr_map (f := fun m : Int × Int => [pi m.1, pi m.2]) (kd := k2) (sz := 2) hj2
    rw [ek, ew] at ej
    simp only [go_sem, Nat.reduceBEq, Nat.reduceAdd, ej, iadr_pis hql, hgv, bin_shl (show ¬ (v : Int) < 0 by omega), shl6 (m := v) (by omega), hor, putCells]
    refine app_slZ h0 (by rw [List.length_map]; omega) (by simp) fun tk htk => ?_
    simp only [go_sem, Nat.reduceBEq]
    refine ⟨.inl rfl, by simp, ?_⟩
    simp only [go_sem, Nat.reduceBEq, Nat.reduceAdd, putCells, wrap_succ (k := j) (by omega)]
    refine ⟨⟨(j + 1, some tk), hj2, (fun h => by cases h)⟩, by simp only; omega, ?_⟩
    simp only [hnx2]
    refine ⟨by simp [wkT, look, AV.lo], by simp [wkL, AV.lo, AV.lo.loL, ABlk.toZ], by simp, by simp, rfl, rfl, by simp⟩
  · have hjn : j = b.seen.length := by omega
    subst hjn
    have hre : rightL b bits m b.seen.length = (rightlyB b (hvL b bits m (nK b))).seen := by
      unfold rightL
      rw [List.take_length]
      rfl
    rw [hre] at h0 ⊢
    refine retQ_cell_le (n := some 4) (by kernel_rfl) rfl ?_ rfl
    exact PVle.agg (show PVleL [_, _, _, _] [_, _, _, _] from ⟨PVle.refl _, slZ_le h0, PVle.refl _, PVle.refl _, trivial⟩)
end Go.Proofs.Ythaplmohhbdfeaa.Mk
namespace Go.Proofs.Ythaplmohhbdfeaa.Mk
open Go.RowKit Ls
def ac6 : AC := (AC.seq (AC.ops [(AOp.mk (some 3) (AK.box 4 (AX.t 0)) none 0 false true), (AOp.mk (some 6) (AK.mv (AX.c (PV.val (Value.bool false)))) none 1 false true)]) (AC.seq (AC.seq (AC.ops [(AOp.mk (some 24) (AK.ld (some 4) (AX.t 3)) none 0 false true), (AOp.mk (some 25) (AK.call 36 [(AX.t 24)]) none 1 false true), (AOp.mk (some 26) (AK.un UnOp.not (AX.t 25)) none 2 false true)]) (AC.cond (AX.t 26) (AC.seq (AC.ops [(AOp.mk (some 27) (AK.call 27 []) none 0 false true), (AOp.mk (some 6) (AK.mv (AX.t 27)) none 1 false true)]) AC.ret) AC.skip)) (AC.seq (AC.ops [(AOp.mk (some 28) (AK.mv (AX.t 1)) none 0 false true), (AOp.mk (some 29) (AK.fadr 0 (AX.t 3)) none 1 false true), (AOp.mk (some 30) (AK.ld none (AX.t 29)) none 2 false true), (AOp.mk (some 31) (AK.len (AX.t 30)) none 3 false true), (AOp.mk (some 32) (AK.call 37 [(AX.t 28), (AX.t 31)]) none 4 false true), (AOp.mk (some 7) (AK.mv (AX.t 32)) none 5 false true)]) (AC.seq (AC.ops [(AOp.mk (some 34) (AK.ld (some 4) (AX.t 3)) none 0 false true), (AOp.mk (some 35) (AK.mv (AX.t 7)) none 1 false true), (AOp.mk (some 36) (AK.mv (AX.t 2)) none 2 false true), (AOp.mk (some 37) (AK.call 38 [(AX.t 34), (AX.t 35), (AX.t 36)]) none 3 false true), (AOp.mk (some 33) (AK.mv (AX.t 37)) none 4 false true), (AOp.mk (some 38) (AK.ext (AX.t 33) 0) none 5 false true), (AOp.mk (some 39) (AK.ext (AX.t 33) 1) none 6 false true), (AOp.mk (some 8) (AK.mv (AX.t 38)) none 7 false true), (AOp.mk (some 9) (AK.mv (AX.t 39)) none 8 false true)]) (AC.seq (AC.ops [(AOp.mk (some 40) (AK.ld (some 4) (AX.t 3)) none 0 false true), (AOp.mk (some 41) (AK.mv (AX.t 8)) none 1 false true), (AOp.mk (some 42) (AK.call 39 [(AX.t 40), (AX.t 41)]) none 2 false true), (AOp.mk (some 10) (AK.new (PV.agg [(PV.sl SK.full 0 []), (PV.sl SK.full 0 []), (PV.val (Value.int IntKind.i64 0)), (PV.val (Value.int IntKind.i64 0))])) none 3 false true), (AOp.mk none (AK.st 4 (AX.t 10) (AX.t 42)) none 4 false true)]) (AC.seq (AC.ops [(AOp.mk (some 44) (AK.ld (some 4) (AX.t 10)) none 0 false true), (AOp.mk (some 45) (AK.call 16 [(AX.t 44)]) none 1 false true), (AOp.mk (some 43) (AK.mv (AX.t 45)) none 2 false true), (AOp.mk (some 46) (AK.ext (AX.t 43) 0) none 3 false true), (AOp.mk (some 47) (AK.ext (AX.t 43) 1) none 4 false true), (AOp.mk (some 11) (AK.mv (AX.t 46)) none 5 false true), (AOp.mk (some 12) (AK.mv (AX.t 47)) none 6 false true)]) (AC.seq (AC.ops [(AOp.mk (some 49) (AK.ld (some 4) (AX.t 10)) none 0 false true), (AOp.mk (some 50) (AK.call 20 [(AX.t 49)]) none 1 false true), (AOp.mk (some 48) (AK.mv (AX.t 50)) none 2 false true), (AOp.mk (some 51) (AK.ext (AX.t 48) 0) none 3 false true), (AOp.mk (some 52) (AK.ext (AX.t 48) 1) none 4 false true), (AOp.mk (some 13) (AK.mv (AX.t 51)) none 5 false true), (AOp.mk (some 14) (AK.mv (AX.t 52)) none 6 false true)]) (AC.seq (AC.ops [(AOp.mk (some 54) (AK.ld (some 4) (AX.t 10)) none 0 false true), (AOp.mk (some 55) (AK.call 34 [(AX.t 54)]) none 1 false true), (AOp.mk (some 53) (AK.mv (AX.t 55)) none 2 false true), (AOp.mk (some 56) (AK.ext (AX.t 53) 0) none 3 false true), (AOp.mk (some 57) (AK.ext (AX.t 53) 1) none 4 false true), (AOp.mk (some 15) (AK.mv (AX.t 56)) none 5 false true), (AOp.mk (some 16) (AK.mv (AX.t 57)) none 6 false true)]) (AC.seq (AC.ops [(AOp.mk (some 59) (AK.ld (some 4) (AX.t 10)) none 0 false true), (AOp.mk (some 60) (AK.mv (AX.t 7)) none 1 false true), (AOp.mk (some 61) (AK.call 23 [(AX.t 59), (AX.t 60)]) none 2 false true), (AOp.mk (some 58) (AK.mv (AX.t 61)) none 3 false true), (AOp.mk (some 62) (AK.ext (AX.t 58) 0) none 4 false true), (AOp.mk (some 63) (AK.ext (AX.t 58) 1) none 5 false true), (AOp.mk (some 17) (AK.mv (AX.t 62)) none 6 false true), (AOp.mk (some 18) (AK.mv (AX.t 63)) none 7 false true)]) (AC.seq (AC.seq (AC.ops [(AOp.mk (some 64) (AK.mv (AX.t 12)) none 0 false true), (AOp.mk (some 65) (AK.bin false BinOp.neq (AX.t 64) (AX.c (PV.val (Value.int IntKind.i64 0)))) none 1 false true), (AOp.mk (some 66) (AK.mv (AX.t 65)) none 2 false true), (AOp.mk (some 67) (AK.mv (AX.t 14)) (some (66, false)) 3 false true), (AOp.mk (some 68) (AK.bin false BinOp.neq (AX.t 67) (AX.c (PV.val (Value.int IntKind.i64 0)))) (some (66, false)) 4 false true), (AOp.mk (some 69) (AK.pick (AX.t 66) (AX.c (PV.val (Value.bool true))) (AX.t 68)) none 5 false true), (AOp.mk (some 70) (AK.mv (AX.t 69)) none 6 false true), (AOp.mk (some 71) (AK.mv (AX.t 16)) (some (70, false)) 7 false true), (AOp.mk (some 72) (AK.bin false BinOp.neq (AX.t 71) (AX.c (PV.val (Value.int IntKind.i64 0)))) (some (70, false)) 8 false true), (AOp.mk (some 73) (AK.pick (AX.t 70) (AX.c (PV.val (Value.bool true))) (AX.t 72)) none 9 false true), (AOp.mk (some 74) (AK.mv (AX.t 73)) none 10 false true), (AOp.mk (some 75) (AK.mv (AX.t 18)) (some (74, false)) 11 false true), (AOp.mk (some 76) (AK.bin false BinOp.neq (AX.t 75) (AX.c (PV.val (Value.int IntKind.i64 0)))) (some (74, false)) 12 false true), (AOp.mk (some 77) (AK.pick (AX.t 74) (AX.c (PV.val (Value.bool true))) (AX.t 76)) none 13 false true), (AOp.mk (some 78) (AK.mv (AX.t 77)) none 14 false true), (AOp.mk (some 79) (AK.mv (AX.t 11)) (some (78, false)) 15 false true), (AOp.mk (some 80) (AK.un UnOp.not (AX.t 79)) (some (78, false)) 16 false true), (AOp.mk (some 81) (AK.pick (AX.t 78) (AX.c (PV.val (Value.bool true))) (AX.t 80)) none 17 false true), (AOp.mk (some 82) (AK.mv (AX.t 81)) none 18 false true), (AOp.mk (some 83) (AK.mv (AX.t 15)) (some (82, false)) 19 false true), (AOp.mk (some 84) (AK.len (AX.t 83)) (some (82, false)) 20 false true), (AOp.mk (some 85) (AK.bin false BinOp.neq (AX.t 84) (AX.c (PV.val (Value.int IntKind.i64 0)))) (some (82, false)) 21 false true), (AOp.mk (some 86) (AK.pick (AX.t 82) (AX.c (PV.val (Value.bool true))) (AX.t 85)) none 22 false true), (AOp.mk (some 87) (AK.mv (AX.t 86)) none 23 false true), (AOp.mk (some 88) (AK.mv (AX.t 13)) (some (87, false)) 24 false true), (AOp.mk (some 89) (AK.fadr 0 (AX.t 3)) (some (87, false)) 25 false true), (AOp.mk (some 90) (AK.ld none (AX.t 89)) (some (87, false)) 26 false true), (AOp.mk (some 91) (AK.len (AX.t 90)) (some (87, false)) 27 false true), (AOp.mk (some 92) (AK.call 40 [(AX.t 88), (AX.t 91)]) (some (87, false)) 28 false true), (AOp.mk (some 93) (AK.un UnOp.not (AX.t 92)) (some (87, false)) 29 false true), (AOp.mk (some 94) (AK.pick (AX.t 87) (AX.c (PV.val (Value.bool true))) (AX.t 93)) none 30 false true), (AOp.mk (some 95) (AK.mv (AX.t 94)) none 31 false true), (AOp.mk (some 96) (AK.mv (AX.t 13)) (some (95, false)) 32 false true), (AOp.mk (some 97) (AK.mv (AX.t 7)) (some (95, false)) 33 false true), (AOp.mk (some 98) (AK.call 41 [(AX.t 96), (AX.t 97)]) (some (95, false)) 34 false true), (AOp.mk (some 99) (AK.bin false BinOp.lss (AX.t 98) (AX.c (PV.val (Value.int IntKind.i64 0)))) (some (95, false)) 35 false true), (AOp.mk (some 100) (AK.pick (AX.t 95) (AX.c (PV.val (Value.bool true))) (AX.t 99)) none 36 false true), (AOp.mk (some 101) (AK.mv (AX.t 100)) none 37 false true), (AOp.mk (some 102) (AK.mv (AX.t 17)) (some (101, false)) 38 false true), (AOp.mk (some 103) (AK.mv (AX.t 9)) (some (101, false)) 39 false true), (AOp.mk (some 104) (AK.mv (AX.t 8)) (some (101, false)) 40 false true), (AOp.mk (some 105) (AK.len (AX.t 104)) (some (101, false)) 41 false true), (AOp.mk (some 106) (AK.call 42 [(AX.t 103), (AX.t 105)]) (some (101, false)) 42 false true), (AOp.mk (some 107) (AK.len (AX.t 106)) (some (101, false)) 43 false true), (AOp.mk (some 108) (AK.bin false BinOp.gtr (AX.t 102) (AX.t 107)) (some (101, false)) 44 false true), (AOp.mk (some 109) (AK.pick (AX.t 101) (AX.c (PV.val (Value.bool true))) (AX.t 108)) none 45 false true), (AOp.mk (some 110) (AK.mv (AX.t 109)) none 46 false true), (AOp.mk (some 111) (AK.mv (AX.t 17)) (some (110, false)) 47 false true), (AOp.mk (some 112) (AK.bin false BinOp.lss (AX.t 111) (AX.c (PV.val (Value.int IntKind.i64 0)))) (some (110, false)) 48 false true), (AOp.mk (some 113) (AK.pick (AX.t 110) (AX.c (PV.val (Value.bool true))) (AX.t 112)) none 49 false true)]) (AC.cond (AX.t 113) (AC.seq (AC.ops [(AOp.mk (some 6) (AK.mv (AX.c (PV.val (Value.bool false)))) none 0 false true)]) AC.ret) AC.skip)) (AC.seq (AC.seq (AC.ops [(AOp.mk (some 19) (AK.mv (AX.c (PV.val (Value.int IntKind.i64 0)))) none 0 false true)]) (AC.block 0 (AC.loop (AC.seq (AC.seq (AC.ops [(AOp.mk (some 114) (AK.mv (AX.t 19)) none 0 false true), (AOp.mk (some 115) (AK.mv (AX.t 8)) none 1 false true), (AOp.mk (some 116) (AK.len (AX.t 115)) none 2 false true), (AOp.mk (some 117) (AK.bin false BinOp.lss (AX.t 114) (AX.t 116)) none 3 false true)]) (AC.cond (AX.t 117) AC.skip (AC.exit 0))) (AC.seq (AC.block 1 (AC.seq (AC.ops [(AOp.mk (some 121) (AK.ld (some 4) (AX.t 10)) none 0 false true), (AOp.mk (some 122) (AK.mv (AX.t 19)) none 1 false true), (AOp.mk (some 123) (AK.call 28 [(AX.t 121), (AX.t 122)]) none 2 false true), (AOp.mk (some 120) (AK.mv (AX.t 123)) none 3 false true), (AOp.mk (some 124) (AK.ext (AX.t 120) 0) none 4 false true), (AOp.mk (some 125) (AK.ext (AX.t 120) 1) none 5 false true), (AOp.mk (some 20) (AK.mv (AX.t 124)) none 6 false true), (AOp.mk (some 21) (AK.mv (AX.t 125)) none 7 false true)]) (AC.seq (AC.ops [(AOp.mk (some 127) (AK.ld (some 4) (AX.t 10)) none 0 false true), (AOp.mk (some 128) (AK.mv (AX.t 7)) none 1 false true), (AOp.mk (some 129) (AK.mv (AX.t 19)) none 2 false true), (AOp.mk (some 130) (AK.call 25 [(AX.t 127), (AX.t 128), (AX.t 129)]) none 3 false true), (AOp.mk (some 126) (AK.mv (AX.t 130)) none 4 false true), (AOp.mk (some 131) (AK.ext (AX.t 126) 0) none 5 false true), (AOp.mk (some 132) (AK.ext (AX.t 126) 1) none 6 false true), (AOp.mk (some 22) (AK.mv (AX.t 131)) none 7 false true), (AOp.mk (some 23) (AK.mv (AX.t 132)) none 8 false true)]) (AC.seq (AC.ops [(AOp.mk (some 133) (AK.mv (AX.t 21)) none 0 false true), (AOp.mk (some 134) (AK.bin false BinOp.neq (AX.t 133) (AX.c (PV.val (Value.int IntKind.i64 0)))) none 1 false true), (AOp.mk (some 135) (AK.mv (AX.t 134)) none 2 false true), (AOp.mk (some 136) (AK.mv (AX.t 23)) (some (135, false)) 3 false true), (AOp.mk (some 137) (AK.bin false BinOp.neq (AX.t 136) (AX.c (PV.val (Value.int IntKind.i64 0)))) (some (135, false)) 4 false true), (AOp.mk (some 138) (AK.pick (AX.t 135) (AX.c (PV.val (Value.bool true))) (AX.t 137)) none 5 false true), (AOp.mk (some 139) (AK.mv (AX.t 138)) none 6 false true), (AOp.mk (some 140) (AK.mv (AX.t 20)) (some (139, false)) 7 false true), (AOp.mk (some 141) (AK.call 40 [(AX.t 140), (AX.c (PV.val (Value.int IntKind.i64 5)))]) (some (139, false)) 8 false true), (AOp.mk (some 142) (AK.un UnOp.not (AX.t 141)) (some (139, false)) 9 false true), (AOp.mk (some 143) (AK.pick (AX.t 139) (AX.c (PV.val (Value.bool true))) (AX.t 142)) none 10 false true), (AOp.mk (some 144) (AK.mv (AX.t 143)) none 11 false true), (AOp.mk (some 145) (AK.mv (AX.t 20)) (some (144, false)) 12 false true), (AOp.mk (some 146) (AK.mv (AX.t 8)) (some (144, false)) 13 false true), (AOp.mk (some 147) (AK.mv (AX.t 19)) (some (144, false)) 14 false true), (AOp.mk (some 148) (AK.iadrS 1 (AX.t 146) (AX.t 147)) (some (144, false)) 15 false true), (AOp.mk (some 149) (AK.ld none (AX.t 148)) (some (144, false)) 16 false true), (AOp.mk (some 150) (AK.call 41 [(AX.t 145), (AX.t 149)]) (some (144, false)) 17 false true), (AOp.mk (some 151) (AK.bin false BinOp.lss (AX.t 150) (AX.c (PV.val (Value.int IntKind.i64 0)))) (some (144, false)) 18 false true), (AOp.mk (some 152) (AK.pick (AX.t 144) (AX.c (PV.val (Value.bool true))) (AX.t 151)) none 19 false true), (AOp.mk (some 153) (AK.mv (AX.t 152)) none 20 false true), (AOp.mk (some 154) (AK.mv (AX.t 22)) (some (153, false)) 21 false true), (AOp.mk (some 155) (AK.call 43 [(AX.t 154), (AX.c (PV.val (Value.int IntKind.i64 0))), (AX.c (PV.val (Value.int IntKind.i64 2)))]) (some (153, false)) 22 false true), (AOp.mk (some 156) (AK.un UnOp.not (AX.t 155)) (some (153, false)) 23 false true), (AOp.mk (some 157) (AK.pick (AX.t 153) (AX.c (PV.val (Value.bool true))) (AX.t 156)) none 24 false true), (AOp.mk (some 158) (AK.mv (AX.t 157)) none 25 false true), (AOp.mk (some 159) (AK.mv (AX.t 22)) (some (158, false)) 26 false true), (AOp.mk (some 160) (AK.bin false BinOp.eql (AX.t 159) (AX.c (PV.val (Value.int IntKind.i64 0)))) (some (158, false)) 27 false true), (AOp.mk (some 161) (AK.mv (AX.t 160)) (some (158, false)) 28 false true), (AOp.mk (some 162) (AK.mv (AX.t 9)) (some (161, true)) 29 false true), (AOp.mk (some 163) (AK.mv (AX.t 19)) (some (161, true)) 30 false true), (AOp.mk (some 164) (AK.call 44 [(AX.t 162), (AX.t 163)]) (some (161, true)) 31 false true), (AOp.mk (some 165) (AK.pick (AX.t 161) (AX.t 164) (AX.c (PV.val (Value.bool false)))) (some (158, false)) 32 false true), (AOp.mk (some 166) (AK.pick (AX.t 158) (AX.c (PV.val (Value.bool true))) (AX.t 165)) none 33 false true), (AOp.mk (some 167) (AK.mv (AX.t 166)) none 34 false true), (AOp.mk (some 168) (AK.mv (AX.t 22)) (some (167, false)) 35 false true), (AOp.mk (some 169) (AK.bin false BinOp.eql (AX.t 168) (AX.c (PV.val (Value.int IntKind.i64 2)))) (some (167, false)) 36 false true), (AOp.mk (some 170) (AK.mv (AX.t 169)) (some (167, false)) 37 false true), (AOp.mk (some 171) (AK.mv (AX.t 9)) (some (170, true)) 38 false true), (AOp.mk (some 172) (AK.mv (AX.t 19)) (some (170, true)) 39 false true), (AOp.mk (some 173) (AK.call 44 [(AX.t 171), (AX.t 172)]) (some (170, true)) 40 false true), (AOp.mk (some 174) (AK.un UnOp.not (AX.t 173)) (some (170, true)) 41 false true), (AOp.mk (some 175) (AK.pick (AX.t 170) (AX.t 174) (AX.c (PV.val (Value.bool false)))) (some (167, false)) 42 false true), (AOp.mk (some 176) (AK.pick (AX.t 167) (AX.c (PV.val (Value.bool true))) (AX.t 175)) none 43 false true), (AOp.mk (some 177) (AK.mv (AX.t 176)) none 44 false true), (AOp.mk (some 178) (AK.fadr 3 (AX.t 3)) (some (177, false)) 45 false true), (AOp.mk (some 179) (AK.ld none (AX.t 178)) (some (177, false)) 46 false true), (AOp.mk (some 180) (AK.mv (AX.t 19)) (some (177, false)) 47 false true), (AOp.mk (some 181) (AK.call 44 [(AX.t 179), (AX.t 180)]) (some (177, false)) 48 false true), (AOp.mk (some 182) (AK.mv (AX.t 181)) (some (177, false)) 49 false true), (AOp.mk (some 183) (AK.mv (AX.t 22)) (some (182, true)) 50 false true), (AOp.mk (some 184) (AK.bin false BinOp.neq (AX.t 183) (AX.c (PV.val (Value.int IntKind.i64 0)))) (some (182, true)) 51 false true), (AOp.mk (some 185) (AK.pick (AX.t 182) (AX.t 184) (AX.c (PV.val (Value.bool false)))) (some (177, false)) 52 false true), (AOp.mk (some 186) (AK.pick (AX.t 177) (AX.c (PV.val (Value.bool true))) (AX.t 185)) none 53 false true)]) (AC.cond (AX.t 186) (AC.seq (AC.ops [(AOp.mk (some 6) (AK.mv (AX.c (PV.val (Value.bool false)))) none 0 false true)]) AC.ret) AC.skip))))) (AC.ops [(AOp.mk (some 118) (AK.mv (AX.t 19)) none 0 false true), (AOp.mk (some 119) (AK.bin false BinOp.add (AX.t 118) (AX.c (PV.val (Value.int IntKind.i64 1)))) none 1 false true), (AOp.mk (some 19) (AK.mv (AX.t 119)) none 2 false true)])))))) (AC.seq (AC.ops [(AOp.mk (some 187) (AK.call 27 []) none 0 false true), (AOp.mk (some 6) (AK.mv (AX.t 187)) none 1 false true)]) AC.ret))))))))))))
theorem ac6_ok : cCode Try.prog (fun _ => false) Try.f6.ntmps (Try.f6.body.getD .skip) = some ac6 := by kernel_rfl
set_option maxRecDepth 100000 in
set_option maxHeartbeats 2000000 in
theorem True_law (k k2 : SK) (b : MBook) (n : Int) (bits : List Int) : Sem1 6 [.agg (bookC k k2 b), pi n, pis bits] (pb true) := by
  by_cases ho : okBook b
  rotate_left
  · refine semC_of_exec' mixed Try.func6 (by kernel_rfl) (by kernel_rfl) ac6_ok 3 rfl (by decide) [(.tmp 6)] (by kernel_rfl) ?_
    intro hr C hC hI
    unfold ac6
    simp only [go_sem, Nat.reduceBEq, Nat.reduceAdd]
    refine call_pure2 hC (sound_sem k k2 b) rfl (PVleL_refl _) ?_
    rintro r rfl
    simp only [go_sem, Nat.reduceBEq, eq_false ho, decide_false]
    refine call_pure2 hC (marked_sem) rfl (PVleL_refl _) ?_
    rintro r rfl
    simp only [go_sem, Nat.reduceBEq]
    exact retQ_one rfl rfl
  have hoc := ho.1
  have h1 := hoc.1
  have h2 := hoc.2.1
  obtain ⟨m, em, hm⟩ := rnd_maker hoc n
  have hH := horse_sem k k2 ho bits hm
  have hR := rightly_sem k k2 ho bits hm
  obtain ⟨htr, hvb⟩ := true_truth hoc bits hm
  have hox := rightly_ok ho bits hm
  have hlt := set_lt b bits (nK b)
  have hhl := hvL_len b bits m (nK b)
  obtain ⟨l, hl⟩ : ∃ l, hvL b bits m (nK b) = l := ⟨_, rfl⟩
  obtain ⟨c, hc⟩ : ∃ c, setN b bits (nK b) = c := ⟨_, rfl⟩
  rw [hl] at hH hR htr hvb hox hhl
  rw [hc] at hH htr hvb hlt
  obtain ⟨x, hx⟩ : ∃ x, rightlyB b l = x := ⟨_, rfl⟩
  have hxm : x.makers = b.makers := by rw [← hx]; rfl
  have hxk : nK x = nK b := by rw [← hx]; rfl
  have hxf : fixN x = fixN b := by rw [← hx]; rfl
  rw [hx] at hR htr hvb hox
  have hcm : c ∈ truthsL x m := mem_truths.2 ⟨by rw [hxk]; exact hlt, htr⟩
  have hr0 := truth_right htr
  have hmx : m < x.makers.length := by rw [hxm]; exact hm
  have hp : possB x m = true := poss_iff.2 ⟨c, by rw [hxk]; exact hlt, htr⟩
  have hmw : m ∈ whoL x := mem_who.2 ⟨hmx, hp⟩
  have hWr := Wrong_ok k .sh hox
  rw [(wrong_nil hox.1 (by have := hox.2; omega)).2 (fun h => by rw [h] at hmw; cases hmw)] at hWr
  have hWho := Who_ok k .sh hox hr0
  have hNe := Needs_ok k .sh hox hr0 hmx
  rw [needs_eq, if_pos ⟨hr0, truth_free htr⟩] at hNe
  have hzc := truth_cnt htr
  rw [hxk] at hzc
  have hgw : growsI (natL (whoL x)) x.makers.length := grows_filt (by rw [hxm]; omega) (possB x)
  rw [hxm] at hgw
  have hfx := hoc.fix.1
  have hlj : ∀ (j : Nat) (h : j < l.length), l[j] = hvI b bits m j := by
    rw [← hl]
    intro j h
    simp [hvL]
  have hCh : ∀ j, j < nK b → Sem1 25 [.agg (bookC k .sh x), pi m, pi j] (.tup [pi (verdictI x m j), pi 0]) := fun j hj => by
    have := Changed_ok k .sh hox hr0 hmx (q := j) (by rw [hxk]; exact hj)
    rw [hp, if_pos rfl] at this
    exact this
  have hcl : (listI (c : Nat) (nK b)).length = cntN c (nK b) := by
    unfold listI cntN
    rw [List.length_map]
    exact filt_eq fun i hi => by rw [of_bit (by omega)]
  have hRi := Right_ok k .sh hox
  rw [hr0] at hRi
  obtain ⟨Z, hZ⟩ : ∃ Z, zeros x m = Z := ⟨_, rfl⟩
  rw [hZ] at hNe hzc
  have hNe2 : Sem1 23 [.agg (bookC k .sh x), pi m] (.tup [pi Z, pi 0]) := hNe
  have hLs := List_sem (c : Nat) (nK b) (by omega)
  refine semC_of_exec' mixed Try.func6 (by kernel_rfl) (by kernel_rfl) ac6_ok 3 rfl (by decide) [(.tmp 6)] (by kernel_rfl) ?_
  intro hr C hC hI
  unfold ac6
  simp only [go_sem, Nat.reduceBEq, Nat.reduceAdd]
  refine call_pure2 hC (sound_sem k k2 b) rfl (PVleL_refl _) ?_
  rintro r rfl
  simp only [go_sem, Nat.reduceBEq, eq_true ho, List.length_map, decide_true]
  refine call_pure2 hC (Round_sem n b.makers.length) rfl (PVleL_refl _) ?_
  rintro r rfl
  simp only [go_sem, Nat.reduceBEq, Nat.reduceAdd, em]
  refine call_pure2 hC (hH) rfl (PVleL_refl _) ?_
  rintro r rfl
  simp only [go_sem, Nat.reduceBEq, Nat.reduceAdd]
  refine call_pure2 hC (hR) rfl (PVleL_refl _) ?_
  rintro r rfl
  simp only [go_sem, Nat.reduceBEq, Nat.reduceAdd, putCells]
  refine call_pure2 hC (hRi) rfl (PVleL_refl _) ?_
  rintro r rfl
  simp only [go_sem, Nat.reduceBEq, Nat.reduceAdd]
  refine call_pure2 hC (hWho) rfl (PVleL_refl _) ?_
  rintro r rfl
  simp only [go_sem, Nat.reduceBEq, Nat.reduceAdd]
  refine call_pure2 hC (hWr) rfl (PVleL_refl _) ?_
  rintro r rfl
  simp only [go_sem, Nat.reduceBEq, Nat.reduceAdd]
  refine call_pure2 hC (hNe2) rfl (PVleL_refl _) ?_
  rintro r rfl
  simp only [go_sem, Nat.reduceBEq, List.length_nil, List.map_nil, Int.natCast_zero, List.length_map, decide_false, not_true_eq_false]
  refine call_pure2 hC (Grows_sem (natL (whoL x)) b.makers.length) rfl (PVleL_refl _) ?_
  rintro r ⟨t, rfl, ht⟩
  obtain rfl : t = true := ht.2 hgw
  simp only [go_sem, Nat.reduceBEq]
  refine call_pure2 hC (Find_sem (natL (whoL x)) m) rfl (PVleL_refl _) ?_
  rintro r ⟨i1, rfl, hi1⟩
  have n1 : ¬ i1 < 0 := fun h => hi1.1 h (mem_natL.2 hmw)
  simp only [go_sem, Nat.reduceBEq, eq_false n1, List.length_map, hhl, decide_false]
  refine call_pure2 hC (hLs) rfl (PVleL_refl _) ?_
  rintro r rfl
  simp only [go_sem, Nat.reduceBEq, List.length_map, hcl, eq_false (show ¬ (cntN c (nK b) : Int) < (Z : Int) by omega), decide_eq_false (show ¬ (cntN c (nK b) : Int) < (Z : Int) by omega), eq_false (show ¬ (Z : Int) < 0 by omega), decide_eq_false (show ¬ (Z : Int) < 0 by omega), decide_false]
  refine loop_k (nK b) (fun _ => True) [3, 7, 8, 9, 10] (fun j => [(19, .p (pi j))]) trivial (by simp [loAll, look, AV.lo]) ⟨by simp [loBlk, AV.lo, AV.lo.loL], by simp, by simp⟩ (by simp [wkT, look, AV.lo]) ?_
  rintro j ⟨hj, -⟩
  simp only [go_sem, Nat.reduceBEq, Nat.reduceAdd, List.length_map, hhl]
  refine ⟨fun c5 => ?_, fun c5 => ?_⟩
  · have hj2 : j < nK b := by omega
    have hjl : j < l.length := by omega
    have hVal := Values_ok k .sh hox hr0 (q := j) (by rw [hxk]; exact hj2)
    have hChj := hCh j hj2
    obtain ⟨w, ew, hw5, -⟩ := hv_bit hoc bits hm hj2
    have hljj := hlj j hjl
    rw [ew] at hljj
    have hmv : w ∈ valuesL x j := List.mem_filter.2 ⟨List.mem_range.2 hw5, can_bit.2 ⟨m, c, hmx, hcm, hvb j w hj2 ew⟩⟩
    have hgv : growsI (natL (valuesL x j)) 5 := grows_filt (n := 5) (by decide) _
    have hOc := Of_sem (c : Nat) j (by omega)
    rw [of_bit (s := c) (i := j) (by omega)] at hOc
    obtain ⟨v, ev, hcase⟩ := verdict_true (k := j) hcm
    rw [ev] at hChj
    rw [hxf] at hcase
    refine call_pure2 hC (hVal) rfl (PVleL_refl _) ?_
    rintro r rfl
    simp only [go_sem, Nat.reduceBEq, Nat.reduceAdd]
    rcases hcase with ⟨rfl, hcb⟩ | ⟨rfl, hfb⟩ | ⟨rfl, hcb, hfb⟩
    · skip
      refine call_pure2 hC (hChj) rfl (PVleL_refl _) ?_
      rintro r rfl
      simp only [go_sem, Nat.reduceBEq, decide_false, not_true_eq_false]
      refine call_pure2 hC (Grows_sem (natL (valuesL x j)) 5) rfl (PVleL_refl _) ?_
      rintro r ⟨t, rfl, ht⟩
      obtain rfl : t = true := ht.2 hgv
      simp only [go_sem, Nat.reduceBEq, iadr_pis hjl, hljj]
      refine call_pure2 hC (Find_sem (natL (valuesL x j)) w) rfl (PVleL_refl _) ?_
      rintro r ⟨i2, rfl, hi2⟩
      have n2 : ¬ i2 < 0 := fun h => hi2.1 h (mem_natL.2 hmv)
      simp only [go_sem, Nat.reduceBEq, eq_false n2, decide_false]
      refine call_pure2 hC (In_sem ..) rfl (PVleL_refl _) ?_
      rintro r rfl
      simp only [go_sem, Nat.reduceBEq, decide_true, Int.reduceLE]
      refine call_pure2 hC (hOc) rfl (PVleL_refl _) ?_
      rintro r rfl
      simp only [go_sem, Nat.reduceBEq, hcb, decide_false, Int.reduceEq]
      rw [hfx]
      refine call_pure2 hC (Of_sem (fixN b : Nat) j (by omega)) rfl (PVleL_refl _) ?_
      rintro r rfl
      simp only [go_sem, Nat.reduceBEq, of_bit (s := fixN b) (i := j) (by omega)]
      cases (fixN b).testBit j
      · simp only [go_sem, Nat.reduceBEq, wrap_succ (k := j) (by omega)]
        refine ⟨⟨j + 1, hj2, trivial⟩, by simp only; omega, by simp [Wk, wkT, wkL, look, AV.lo, AV.lo.loL, ABlk.toZ]⟩
      · simp only [go_sem, Nat.reduceBEq, wrap_succ (k := j) (by omega), decide_false, not_true_eq_false]
        refine ⟨⟨j + 1, hj2, trivial⟩, by simp only; omega, by simp [Wk, wkT, wkL, look, AV.lo, AV.lo.loL, ABlk.toZ]⟩
    · skip
      refine call_pure2 hC (hChj) rfl (PVleL_refl _) ?_
      rintro r rfl
      simp only [go_sem, Nat.reduceBEq, decide_false, not_true_eq_false]
      refine call_pure2 hC (Grows_sem (natL (valuesL x j)) 5) rfl (PVleL_refl _) ?_
      rintro r ⟨t, rfl, ht⟩
      obtain rfl : t = true := ht.2 hgv
      simp only [go_sem, Nat.reduceBEq, iadr_pis hjl, hljj]
      refine call_pure2 hC (Find_sem (natL (valuesL x j)) w) rfl (PVleL_refl _) ?_
      rintro r ⟨i2, rfl, hi2⟩
      have n2 : ¬ i2 < 0 := fun h => hi2.1 h (mem_natL.2 hmv)
      simp only [go_sem, Nat.reduceBEq, eq_false n2, decide_false]
      refine call_pure2 hC (In_sem ..) rfl (PVleL_refl _) ?_
      rintro r rfl
      simp only [go_sem, Nat.reduceBEq, decide_true, decide_false, Int.reduceEq, Int.reduceLE]
      rw [hfx]
      refine call_pure2 hC (Of_sem (fixN b : Nat) j (by omega)) rfl (PVleL_refl _) ?_
      rintro r rfl
      simp only [go_sem, Nat.reduceBEq, of_bit (s := fixN b) (i := j) (by omega), hfb]
      simp only [go_sem, wrap_succ (k := j) (by omega)]
      refine ⟨⟨j + 1, hj2, trivial⟩, by simp only; omega, by simp [Wk, wkT, wkL, look, AV.lo, AV.lo.loL, ABlk.toZ]⟩
    · skip
      refine call_pure2 hC (hChj) rfl (PVleL_refl _) ?_
      rintro r rfl
      simp only [go_sem, Nat.reduceBEq, decide_false, not_true_eq_false]
      refine call_pure2 hC (Grows_sem (natL (valuesL x j)) 5) rfl (PVleL_refl _) ?_
      rintro r ⟨t, rfl, ht⟩
      obtain rfl : t = true := ht.2 hgv
      simp only [go_sem, Nat.reduceBEq, iadr_pis hjl, hljj]
      refine call_pure2 hC (Find_sem (natL (valuesL x j)) w) rfl (PVleL_refl _) ?_
      rintro r ⟨i2, rfl, hi2⟩
      have n2 : ¬ i2 < 0 := fun h => hi2.1 h (mem_natL.2 hmv)
      simp only [go_sem, Nat.reduceBEq, eq_false n2, decide_false]
      refine call_pure2 hC (In_sem ..) rfl (PVleL_refl _) ?_
      rintro r rfl
      simp only [go_sem, Nat.reduceBEq, decide_true, decide_false, Int.reduceEq, Int.reduceLE]
      refine call_pure2 hC (hOc) rfl (PVleL_refl _) ?_
      rintro r rfl
      simp only [go_sem, Nat.reduceBEq, hcb]
      rw [hfx]
      refine call_pure2 hC (Of_sem (fixN b : Nat) j (by omega)) rfl (PVleL_refl _) ?_
      rintro r rfl
      simp only [go_sem, Nat.reduceBEq, of_bit (s := fixN b) (i := j) (by omega), hfb]
      simp only [go_sem, wrap_succ (k := j) (by omega)]
      refine ⟨⟨j + 1, hj2, trivial⟩, by simp only; omega, by simp [Wk, wkT, wkL, look, AV.lo, AV.lo.loL, ABlk.toZ]⟩
  · refine call_pure2 hC (marked_sem) rfl (PVleL_refl _) ?_
    rintro r rfl
    simp only [go_sem, Nat.reduceBEq]
    exact retQ_one rfl rfl
set_option maxRecDepth 100000 in
theorem True_row {l0 l1 l2 : List PV} (T0 : Ty Try.prog 10 25 l0) (T1 : Ty Try.prog 10 3 l1) (T2 : Ty Try.prog 10 31 l2) : SemC Try.prog 6 [argPV Try.prog 25 l0, argPV Try.prog 3 l1, argPV Try.prog 31 l2] (fun r => r = pb true) := by
  obtain ⟨b, rfl⟩ := ty_book T0
  obtain ⟨n, rfl⟩ := tyInt uInt T1
  obtain ⟨bits, rfl⟩ := ty_ints T2
  rw [argStruct Try.underlying25, argInt uInt, argSlice Try.underlying31]
  exact True_law .sh .sh b n bits
end Go.Proofs.Ythaplmohhbdfeaa.Mk
