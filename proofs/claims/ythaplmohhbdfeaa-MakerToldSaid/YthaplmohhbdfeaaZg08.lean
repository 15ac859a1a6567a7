/- MakerTold two makers that can be told apart are never both possible once all values are known; of two others there are values with which both are; for every book and all numbers; no condition. Law: MakerTold. Law: MakerTold. Mathematics of maker: what is told of two makers, and lists of values. -/
import Derived.Test.YthaplmohhbdfeaaGa15
import Derived.Test.YthaplmohhbdfeaaZg04
import Derived.Test.YthaplmohhbdfeaaZg07
import Derived.Test.YthaplmohhbdfeaaZg06
import Derived.Test.YthaplmohhbdfeaaGa16
namespace Go.Proofs.Ythaplmohhbdfeaa.Mk
open Go.RowKit Ls
theorem both_iff {b : MBook} (h : okC b) {o u : Nat} : bothB b o u = true ↔ bothP b o u := by
  have h6 := h.2.1.2
  have key : ∀ c1 c2, (!lackB fun q => valA (unseenB b) o c1 q &&& valA (unseenB b) u c2 q) = true ↔ ∀ k, k < nK b → valN (unseenB b) o c1 k &&& valN (unseenB b) u c2 k ≠ 0 := fun c1 c2 => by
    rw [Bool.not_eq_true', Bool.eq_false_iff, ne_eq, lack_iff]
    constructor
    · intro H k hk he
      refine H ⟨k, by omega, ?_⟩
      unfold valA
      rw [if_pos (show k < nK (unseenB b) from hk), if_pos (show k < nK (unseenB b) from hk)]
      exact he
    · rintro H ⟨k, hk, he⟩
      unfold valA at he
      by_cases hn : k < nK b
      · rw [if_pos (show k < nK (unseenB b) from hn), if_pos (show k < nK (unseenB b) from hn)] at he
        exact H k hn he
      · rw [if_neg (show ¬ k < nK (unseenB b) from hn), if_neg (show ¬ k < nK (unseenB b) from hn)] at he
        cases he
  unfold bothB bothP
  rw [List.any_eq_true]
  constructor
  · rintro ⟨c1, h1, h2⟩
    obtain ⟨c2, h3, h4⟩ := List.any_eq_true.1 h2
    exact ⟨c1, h1, c2, h3, (key c1 c2).1 h4⟩
  · rintro ⟨c1, h1, c2, h3, h4⟩
    exact ⟨c1, h1, List.any_eq_true.2 ⟨c2, h3, (key c1 c2).2 h4⟩⟩
theorem bothP_comm {b : MBook} {o u : Nat} (h : bothP b o u) : bothP b u o := by
  obtain ⟨c1, h1, c2, h2, h3⟩ := h
  exact ⟨c2, h2, c1, h1, fun k hk => by rw [Nat.and_comm]; exact h3 k hk⟩
theorem bothB_comm {b : MBook} (h : okC b) (o u : Nat) : bothB b o u = bothB b u o := by
  rw [Bool.eq_iff_iff, both_iff h, both_iff h]
  exact ⟨bothP_comm, bothP_comm⟩
/-- Marks of which each one tells the value of its kind. -/
def exL (l : List Int) (j : Nat) : List (Int × Int) := (List.range j).map fun (k : Nat) => ((k : Int), 2 ^ exV l k)
theorem exactB_eq (b : MBook) (l : List Int) : exactB b l = { b with seen := exL l l.length } := rfl
theorem exL_next (l : List Int) (j : Nat) : exL l (j + 1) = exL l j ++ [((j : Int), 2 ^ exV l j)] := by
  unfold exL
  rw [List.range_succ, List.map_append]
  rfl
theorem exV_get {l : List Int} (h : fiveL l) {j : Nat} (hj : j < l.length) : l[j] = (exV l j : Int) := by
  have := h _ (List.getElem_mem hj)
  unfold exV
  rw [List.getD_eq_getElem?_getD, List.getElem?_eq_getElem hj]
  show l[j] = ((l[j]).toNat : Int)
  omega
theorem exL_len (l : List Int) (j : Nat) : (exL l j).length = j := by simp [exL]
theorem exact_ok {b : MBook} (h : okBook b) {l : List Int} (hf : fiveL l) (hl : l.length = nK b) : okBook (exactB b l) := by
  obtain ⟨⟨h1, h2, h3, h4, h5⟩, h8⟩ := h
  refine ⟨⟨h1, h2, h3, ?_, h5⟩, ?_⟩
  · intro m hm
    obtain ⟨k, hk, rfl⟩ := List.mem_map.1 hm
    have hk2 := List.mem_range.1 hk
    have h9 := ex_five hf k
    have hp : (2 : Int) ^ (l.getD k 0).toNat = ((2 ^ exV l k : Nat) : Int) := by
      unfold exV
      norm_cast
    have hle : 2 ^ exV l k ≤ 16 := Nat.pow_le_pow_right (n := 2) (by decide) (show exV l k ≤ 4 by omega)
    have hge : 1 ≤ 2 ^ exV l k := Nat.one_le_two_pow
    show (0 ≤ (k : Int) ∧ (k : Int) < (nK b : Int)) ∧ 1 ≤ (2 : Int) ^ (l.getD k 0).toNat ∧ (2 : Int) ^ (l.getD k 0).toNat ≤ 31
    rw [hp]
    omega
  · show (exL l l.length).length ≤ 8
    rw [exL_len]
    omega
def pickI (b : MBook) (o u k : Nat) : Int := (listI (pickN b o u k : Nat) 5).getD 0 0
def pickL (b : MBook) (o u j : Nat) : List Int := (List.range j).map (pickI b o u)
theorem pickL_next (b : MBook) (o u j : Nat) : (pickL b o u (j + 1)).map (fun x => [pi x]) = (pickL b o u j).map (fun x => [pi x]) ++ [[pi (pickI b o u j)]] := by
  unfold pickL
  rw [List.range_succ, List.map_append, List.map_append]
  rfl
theorem pick_pos {b : MBook} (h : okC b) {o u k : Nat} (ho : o < b.makers.length) (hu : u < b.makers.length) (hk : k < nK b) : 1 ≤ pickN b o u k ∧ pickN b o u k < 32 := by
  have h1 := h.mk ho hk
  have h2 := h.mk hu hk
  unfold pickN
  split
  · split <;> omega
  · rename_i hd
    unfold dK at hd
    rw [decide_eq_true_eq] at hd
    have := Nat.and_le_left (n := mkN b o k) (m := mkN b u k)
    omega
theorem pick_head {s : Nat} (h : 1 ≤ s ∧ s < 32) : ∃ h0 : 0 < (listI (s : Nat) 5).length, ∃ v : Nat, (listI (s : Nat) 5)[0] = (v : Int) ∧ v < 5 ∧ s.testBit v = true := by
  obtain ⟨i, hi⟩ := ne_bit.1 (show s ≠ 0 by omega)
  have hi5 : i < 5 := bit_lt (n := 5) (by omega) hi
  have hm : (i : Int) ∈ listI (s : Nat) 5 := (mem_listI hi5).2 (by rw [of_bit (by omega)]; exact hi)
  have h0 : 0 < (listI (s : Nat) 5).length := List.length_pos_of_mem hm
  have hx := List.getElem_mem h0
  unfold listI at hx
  obtain ⟨v, hv, ev⟩ := List.mem_map.1 hx
  obtain ⟨hv5, hb⟩ := List.mem_filter.1 hv
  have hv6 := List.mem_range.1 hv5
  rw [of_bit (by omega)] at hb
  exact ⟨h0, v, ev.symm, hv6, hb⟩
theorem pick_get {b : MBook} (h : okC b) {o u k : Nat} (ho : o < b.makers.length) (hu : u < b.makers.length) (hk : k < nK b) : ∃ h0 : 0 < (listI (pickN b o u k : Nat) 5).length, (listI (pickN b o u k : Nat) 5)[0] = pickI b o u k ∧ ∃ v : Nat, pickI b o u k = (v : Int) ∧ v < 5 ∧ (pickN b o u k).testBit v = true := by
  obtain ⟨h0, v, ev, hv, hb⟩ := pick_head (pick_pos h ho hu hk)
  have e : pickI b o u k = (listI (pickN b o u k : Nat) 5)[0] := by
    unfold pickI
    rw [List.getD_eq_getElem?_getD, List.getElem?_eq_getElem h0]
    rfl
  exact ⟨h0, e.symm, v, e.trans ev, hv, hb⟩
theorem pickL_len (b : MBook) (o u j : Nat) : (pickL b o u j).length = j := by simp [pickL]
theorem pickL_five {b : MBook} (h : okC b) {o u : Nat} (ho : o < b.makers.length) (hu : u < b.makers.length) : fiveL (pickL b o u (nK b)) := by
  intro x hx
  obtain ⟨k, hk, rfl⟩ := List.mem_map.1 hx
  obtain ⟨-, -, v, e, hv, -⟩ := pick_get h ho hu (List.mem_range.1 hk)
  rw [e]
  omega
theorem pickL_bit {b : MBook} (h : okC b) {o u : Nat} (ho : o < b.makers.length) (hu : u < b.makers.length) {k : Nat} (hk : k < nK b) : (pickN b o u k).testBit (exV (pickL b o u (nK b)) k) = true := by
  obtain ⟨-, -, v, e, hv, hb⟩ := pick_get h ho hu hk
  have : exV (pickL b o u (nK b)) k = v := by
    unfold exV pickL
    simp [List.getD_eq_getElem?_getD, hk, e]
  rw [this]
  exact hb
def anyL (bits : List Int) (j : Nat) : List Int := (List.range j).map fun (k : Nat) => rndI (takeL bits k) 5
theorem anyL_next (bits : List Int) (j : Nat) : (anyL bits (j + 1)).map (fun x => [pi x]) = (anyL bits j).map (fun x => [pi x]) ++ [[pi (rndI (takeL bits j) 5)]] := by
  unfold anyL
  rw [List.range_succ, List.map_append, List.map_append]
  rfl
theorem anyL_len (bits : List Int) (j : Nat) : (anyL bits j).length = j := by simp [anyL]
theorem anyL_five (bits : List Int) (j : Nat) : fiveL (anyL bits j) := by
  intro x hx
  obtain ⟨k, hk, rfl⟩ := List.mem_map.1 hx
  have := rndI_range (n := takeL bits k) (m := 5) (by decide)
  omega
theorem two_ne {len : Nat} {o : Nat} {r : Int} (ho : o < len) (h2 : 2 ≤ len) (hr : 0 ≤ r ∧ r < (len : Int) - 1) : ∃ u : Nat, rndI ((o : Int) + 1 + r) len = u ∧ u < len ∧ u ≠ o := by
  unfold rndI
  rw [if_neg (by omega)]
  by_cases h : (o : Int) + 1 + r < len
  · rw [Int.emod_eq_of_lt (by omega) h]
    exact ⟨((o : Int) + 1 + r).toNat, by omega, by omega, by omega⟩
  · have : ((o : Int) + 1 + r) / len = 1 ∧ ((o : Int) + 1 + r) % len = (o : Int) + 1 + r - len := (Int.ediv_emod_unique (by omega)).2 ⟨by omega, by omega, by omega⟩
    rw [this.2]
    exact ⟨((o : Int) + 1 + r - len).toNat, by omega, by omega, by omega⟩
end Go.Proofs.Ythaplmohhbdfeaa.Mk
namespace Go.Proofs.Ythaplmohhbdfeaa.Mk
open Go.RowKit Ls
def ac49 : AC := (AC.seq (AC.ops [(AOp.mk (some 2) (AK.box 4 (AX.t 0)) none 0 false true), (AOp.mk (some 4) (AK.new (PV.agg [(PV.sl SK.full 0 []), (PV.sl SK.full 0 []), (PV.val (Value.int IntKind.i64 0)), (PV.val (Value.int IntKind.i64 0))])) none 1 false true)]) (AC.seq (AC.ops [(AOp.mk (some 7) (AK.ld (some 4) (AX.t 2)) none 0 false true), (AOp.mk (some 5) (AK.new (PV.agg [(PV.sl SK.full 0 []), (PV.sl SK.full 0 []), (PV.val (Value.int IntKind.i64 0)), (PV.val (Value.int IntKind.i64 0))])) none 1 false true), (AOp.mk none (AK.st 4 (AX.t 5) (AX.t 7)) none 2 false true)]) (AC.seq (AC.ops [(AOp.mk (some 8) (AK.fadr 1 (AX.t 5)) none 0 false true), (AOp.mk none (AK.st 1 (AX.t 8) (AX.c (PV.sl SK.full 0 []))) none 1 false true)]) (AC.seq (AC.seq (AC.ops [(AOp.mk (some 6) (AK.mv (AX.c (PV.val (Value.int IntKind.i64 0)))) none 0 false true)]) (AC.block 0 (AC.loop (AC.seq (AC.seq (AC.ops [(AOp.mk (some 9) (AK.mv (AX.t 6)) none 0 false true), (AOp.mk (some 10) (AK.mv (AX.t 1)) none 1 false true), (AOp.mk (some 11) (AK.len (AX.t 10)) none 2 false true), (AOp.mk (some 12) (AK.bin false BinOp.lss (AX.t 9) (AX.t 11)) none 3 false true)]) (AC.cond (AX.t 12) AC.skip (AC.exit 0))) (AC.seq (AC.block 1 (AC.ops [(AOp.mk (some 15) (AK.fadr 1 (AX.t 5)) none 0 true false), (AOp.mk (some 16) (AK.ld none (AX.t 15)) none 1 true false), (AOp.mk (some 17) (AK.mv (AX.t 6)) none 2 true false), (AOp.mk (some 18) (AK.mv (AX.t 1)) none 3 true false), (AOp.mk (some 19) (AK.mv (AX.t 6)) none 4 true false), (AOp.mk (some 20) (AK.iadrS 1 (AX.t 18) (AX.t 19)) none 5 true false), (AOp.mk (some 21) (AK.ld none (AX.t 20)) none 6 true false), (AOp.mk (some 22) (AK.bin false BinOp.shl (AX.c (PV.val (Value.int IntKind.i64 1))) (AX.t 21)) none 7 true false), (AOp.mk (some 23) (AK.call 57 [(AX.t 17), (AX.t 22)]) none 8 false false), (AOp.mk (some 24) (AK.bslice false 59 2 1 [(PV.val (Value.int IntKind.i64 0)), (PV.val (Value.int IntKind.i64 0))] [(0, (2, (AX.t 23)))]) none 9 false false), (AOp.mk (some 25) (AK.app false 59 2 16 [(PV.val (Value.int IntKind.i64 0)), (PV.val (Value.int IntKind.i64 0))] (AX.t 16) (AX.t 24)) none 10 false true), (AOp.mk (some 26) (AK.fadr 1 (AX.t 5)) none 11 true true), (AOp.mk none (AK.st 1 (AX.t 26) (AX.t 25)) none 12 false true)])) (AC.ops [(AOp.mk (some 13) (AK.mv (AX.t 6)) none 0 false true), (AOp.mk (some 14) (AK.bin false BinOp.add (AX.t 13) (AX.c (PV.val (Value.int IntKind.i64 1)))) none 1 false true), (AOp.mk (some 6) (AK.mv (AX.t 14)) none 2 false true)])))))) (AC.seq (AC.ops [(AOp.mk (some 27) (AK.ld (some 4) (AX.t 5)) none 0 false true), (AOp.mk none (AK.st 4 (AX.t 4) (AX.t 27)) none 1 false true)]) AC.ret)))))
theorem ac49_ok : cCode Try.prog (fun _ => false) Try.f49.ntmps (Try.f49.body.getD .skip) = some ac49 := by kernel_rfl
theorem lexact_sem (k k2 : SK) (b : MBook) {l : List Int} (hf : fiveL l) (hl : l.length ≤ 1000) : Sem1 49 [.agg (bookC k k2 b), pis l] (.agg (bookC k .sh (exactB b l))) := by
  refine semC_of_exec' mixed Try.func49 (by kernel_rfl) (by kernel_rfl) ac49_ok 2 rfl (by decide) [(.cell 4 25)] (by kernel_rfl) ?_
  intro hr C hC hI
  unfold ac49
  simp only [go_sem, Nat.reduceBEq, Nat.reduceAdd, Nat.reduceLeDiff, putCells]
  refine loop_g (α := Nat × Option Nat) (fun a => a.1 ≤ l.length ∧ (a.2 = none → seenC (exL l a.1) = [])) (fun a => l.length - a.1) [1, 4, 5] (fun a => [(6, .p (pi a.1))]) (fun a => [.cells ((bookC k k2 b).map .p), .cells [.p (.sl .full 0 []), .p (.sl .full 0 []), .p (pi 0), .p (pi 0)], .cells [.p (.sl k 1 (rowsC b.makers)), .p (slZ 59 2 a.2 (seenC (exL l a.1))), .p (pi b.repairs), .p (pi b.fixed)]]) (fun a => a.2.toList) (0, none) ⟨by omega, fun _ => by simp [exL]⟩ (by simp [Wk, wkT, wkL, look, AV.lo, AV.lo.loL, upS_eq, keepS_nil, keepS_cons, slZ]) ?_
  rintro ⟨j, o⟩ ⟨hj, h0⟩
  replace hj : j ≤ l.length := hj
  replace h0 : o = none → seenC (exL l j) = [] := h0
  simp only [go_sem, Nat.reduceBEq, Nat.reduceAdd, List.length_map]
  refine ⟨fun h5 => ?_, fun h5 => ?_⟩
  · have hj2 : j < l.length := by omega
    have h9 := ex_five hf j
    have hnx2 : seenC (exL l (j + 1)) = seenC (exL l j) ++ [[pi j, pi ((2 ^ exV l j : Nat) : Int)]] := by
      rw [exL_next]
      have : (2 : Int) ^ exV l j = ((2 ^ exV l j : Nat) : Int) := by norm_cast
      rw [this]
      simp [seenC]
    have hel := exL_len l j
    simp only [go_sem, Nat.reduceBEq, iadr_pis hj2, exV_get hf hj2, bin_shl (show ¬ (exV l j : Int) < 0 by omega), shl6 (m := exV l j) (by omega)]
    refine call_pure2 hC (saw_sem j ((2 ^ exV l j : Nat) : Int)) rfl (PVleL_refl _) ?_
    rintro r rfl
    simp only [go_sem, Nat.reduceBEq, Nat.reduceAdd, putCells]
    refine app_slZ h0 (by rw [List.length_map]; omega) (by simp) fun tk htk => ?_
    simp only [go_sem, Nat.reduceBEq]
    refine ⟨.inl rfl, by simp, ?_⟩
    simp only [go_sem, Nat.reduceBEq, Nat.reduceAdd, putCells, wrap_succ (k := j) (by omega)]
    refine ⟨⟨(j + 1, some tk), hj2, (fun h => by cases h)⟩, by simp only; omega, ?_⟩
    simp only [hnx2]
    refine ⟨by simp [wkT, look, AV.lo], by simp [wkL, AV.lo, AV.lo.loL, ABlk.toZ], by simp, by simp, rfl, rfl, by simp⟩
  · have hjn : j = l.length := by omega
    subst hjn
    refine retQ_cell_le (n := some 4) (by kernel_rfl) rfl ?_ rfl
    exact PVle.agg (show PVleL [_, _, _, _] [_, _, _, _] from ⟨PVle.refl _, slZ_le h0, PVle.refl _, PVle.refl _, trivial⟩)
end Go.Proofs.Ythaplmohhbdfeaa.Mk
namespace Go.Proofs.Ythaplmohhbdfeaa.Mk
open Go.RowKit Ls
def ac10 : AC := (AC.seq (AC.ops [(AOp.mk (some 3) (AK.box 4 (AX.t 0)) none 0 false true), (AOp.mk (some 4) (AK.box 2 (AX.t 1)) none 1 false true), (AOp.mk (some 6) (AK.mv (AX.c (PV.val (Value.bool false)))) none 2 false true)]) (AC.seq (AC.seq (AC.ops [(AOp.mk (some 22) (AK.ld (some 4) (AX.t 3)) none 0 false true), (AOp.mk (some 23) (AK.call 36 [(AX.t 22)]) none 1 false true), (AOp.mk (some 24) (AK.un UnOp.not (AX.t 23)) none 2 false true), (AOp.mk (some 25) (AK.mv (AX.t 24)) none 3 false true), (AOp.mk (some 26) (AK.fadr 0 (AX.t 3)) (some (25, false)) 4 false true), (AOp.mk (some 27) (AK.ld none (AX.t 26)) (some (25, false)) 5 false true), (AOp.mk (some 28) (AK.len (AX.t 27)) (some (25, false)) 6 false true), (AOp.mk (some 29) (AK.bin false BinOp.lss (AX.t 28) (AX.c (PV.val (Value.int IntKind.i64 2)))) (some (25, false)) 7 false true), (AOp.mk (some 30) (AK.pick (AX.t 25) (AX.c (PV.val (Value.bool true))) (AX.t 29)) none 8 false true)]) (AC.cond (AX.t 30) (AC.seq (AC.ops [(AOp.mk (some 31) (AK.call 27 []) none 0 false true), (AOp.mk (some 6) (AK.mv (AX.t 31)) none 1 false true)]) AC.ret) AC.skip)) (AC.seq (AC.ops [(AOp.mk (some 32) (AK.iadrA 1 2 (AX.t 4) (AX.c (PV.val (Value.int IntKind.i64 0)))) none 0 false true), (AOp.mk (some 33) (AK.ld none (AX.t 32)) none 1 false true), (AOp.mk (some 34) (AK.fadr 0 (AX.t 3)) none 2 false true), (AOp.mk (some 35) (AK.ld none (AX.t 34)) none 3 false true), (AOp.mk (some 36) (AK.len (AX.t 35)) none 4 false true), (AOp.mk (some 37) (AK.call 37 [(AX.t 33), (AX.t 36)]) none 5 false true), (AOp.mk (some 7) (AK.mv (AX.t 37)) none 6 false true)]) (AC.seq (AC.ops [(AOp.mk (some 38) (AK.mv (AX.t 7)) none 0 true false), (AOp.mk (some 39) (AK.bin false BinOp.add (AX.t 38) (AX.c (PV.val (Value.int IntKind.i64 1)))) none 1 true false), (AOp.mk (some 40) (AK.iadrA 1 2 (AX.t 4) (AX.c (PV.val (Value.int IntKind.i64 1)))) none 2 true false), (AOp.mk (some 41) (AK.ld none (AX.t 40)) none 3 true false), (AOp.mk (some 42) (AK.fadr 0 (AX.t 3)) none 4 true false), (AOp.mk (some 43) (AK.ld none (AX.t 42)) none 5 true false), (AOp.mk (some 44) (AK.len (AX.t 43)) none 6 true false), (AOp.mk (some 45) (AK.bin false BinOp.sub (AX.t 44) (AX.c (PV.val (Value.int IntKind.i64 1)))) none 7 true false), (AOp.mk (some 48) (AK.fadr 0 (AX.t 3)) none 10 true false), (AOp.mk (some 49) (AK.ld none (AX.t 48)) none 11 true false), (AOp.mk (some 50) (AK.len (AX.t 49)) none 12 true false), (AOp.mk (some 46) (AK.call 37 [(AX.t 41), (AX.t 45)]) none 8 false false), (AOp.mk (some 47) (AK.bin false BinOp.add (AX.t 39) (AX.t 46)) none 9 true false), (AOp.mk (some 51) (AK.call 37 [(AX.t 47), (AX.t 50)]) none 13 false true), (AOp.mk (some 8) (AK.mv (AX.t 51)) none 14 true true)]) (AC.seq (AC.ops [(AOp.mk (some 53) (AK.ld (some 4) (AX.t 3)) none 0 false true), (AOp.mk (some 54) (AK.mv (AX.t 7)) none 1 false true), (AOp.mk (some 55) (AK.mv (AX.t 8)) none 2 false true), (AOp.mk (some 56) (AK.call 30 [(AX.t 53), (AX.t 54), (AX.t 55)]) none 3 false true), (AOp.mk (some 52) (AK.mv (AX.t 56)) none 4 false true), (AOp.mk (some 57) (AK.ext (AX.t 52) 0) none 5 false true), (AOp.mk (some 58) (AK.ext (AX.t 52) 1) none 6 false true), (AOp.mk (some 9) (AK.mv (AX.t 57)) none 7 false true), (AOp.mk (some 10) (AK.mv (AX.t 58)) none 8 false true)]) (AC.seq (AC.ops [(AOp.mk (some 60) (AK.ld (some 4) (AX.t 3)) none 0 false true), (AOp.mk (some 61) (AK.mv (AX.t 8)) none 1 false true), (AOp.mk (some 62) (AK.mv (AX.t 7)) none 2 false true), (AOp.mk (some 63) (AK.call 30 [(AX.t 60), (AX.t 61), (AX.t 62)]) none 3 false true), (AOp.mk (some 59) (AK.mv (AX.t 63)) none 4 false true), (AOp.mk (some 64) (AK.ext (AX.t 59) 0) none 5 false true), (AOp.mk (some 65) (AK.ext (AX.t 59) 1) none 6 false true), (AOp.mk (some 11) (AK.mv (AX.t 64)) none 7 false true), (AOp.mk (some 12) (AK.mv (AX.t 65)) none 8 false true)]) (AC.seq (AC.seq (AC.ops [(AOp.mk (some 66) (AK.mv (AX.t 10)) none 0 false true), (AOp.mk (some 67) (AK.bin false BinOp.neq (AX.t 66) (AX.c (PV.val (Value.int IntKind.i64 0)))) none 1 false true), (AOp.mk (some 68) (AK.mv (AX.t 67)) none 2 false true), (AOp.mk (some 69) (AK.mv (AX.t 12)) (some (68, false)) 3 false true), (AOp.mk (some 70) (AK.bin false BinOp.neq (AX.t 69) (AX.c (PV.val (Value.int IntKind.i64 0)))) (some (68, false)) 4 false true), (AOp.mk (some 71) (AK.pick (AX.t 68) (AX.c (PV.val (Value.bool true))) (AX.t 70)) none 5 false true), (AOp.mk (some 72) (AK.mv (AX.t 71)) none 6 false true), (AOp.mk (some 73) (AK.mv (AX.t 9)) (some (72, false)) 7 false true), (AOp.mk (some 74) (AK.mv (AX.t 11)) (some (72, false)) 8 false true), (AOp.mk (some 75) (AK.bin true BinOp.neq (AX.t 73) (AX.t 74)) (some (72, false)) 9 false true), (AOp.mk (some 76) (AK.pick (AX.t 72) (AX.c (PV.val (Value.bool true))) (AX.t 75)) none 10 false true)]) (AC.cond (AX.t 76) (AC.seq (AC.ops [(AOp.mk (some 6) (AK.mv (AX.c (PV.val (Value.bool false)))) none 0 false true)]) AC.ret) AC.skip)) (AC.seq (AC.ops [(AOp.mk (some 77) (AK.bslice false 3 1 0 [(PV.val (Value.int IntKind.i64 0))] []) none 0 false true), (AOp.mk (some 78) (AK.bslice false 3 1 0 [(PV.val (Value.int IntKind.i64 0))] []) none 1 false true), (AOp.mk (some 13) (AK.mv (AX.t 77)) none 2 false true), (AOp.mk (some 14) (AK.mv (AX.t 78)) none 3 false true), (AOp.mk (some 15) (AK.mv (AX.c (PV.val (Value.int IntKind.i64 0)))) none 4 false true)]) (AC.seq (AC.seq (AC.ops [(AOp.mk (some 16) (AK.mv (AX.c (PV.val (Value.int IntKind.i64 0)))) none 0 false true)]) (AC.block 0 (AC.loop (AC.seq (AC.seq (AC.ops [(AOp.mk (some 79) (AK.mv (AX.t 16)) none 0 false true), (AOp.mk (some 80) (AK.fadr 0 (AX.t 3)) none 1 false true), (AOp.mk (some 81) (AK.ld none (AX.t 80)) none 2 false true), (AOp.mk (some 82) (AK.iadrS 1 (AX.t 81) (AX.c (PV.val (Value.int IntKind.i64 0)))) none 3 false true), (AOp.mk (some 83) (AK.ld none (AX.t 82)) none 4 false true), (AOp.mk (some 84) (AK.len (AX.t 83)) none 5 false true), (AOp.mk (some 85) (AK.bin false BinOp.lss (AX.t 79) (AX.t 84)) none 6 false true)]) (AC.cond (AX.t 85) AC.skip (AC.exit 0))) (AC.seq (AC.block 1 (AC.seq (AC.ops [(AOp.mk (some 88) (AK.mv (AX.t 13)) none 0 false true), (AOp.mk (some 89) (AK.mv (AX.t 2)) none 1 false true), (AOp.mk (some 90) (AK.mv (AX.t 16)) none 2 false true), (AOp.mk (some 91) (AK.call 48 [(AX.t 89), (AX.t 90)]) none 3 false true), (AOp.mk (some 92) (AK.call 37 [(AX.t 91), (AX.c (PV.val (Value.int IntKind.i64 5)))]) none 4 false true), (AOp.mk (some 93) (AK.bslice false 3 1 1 [(PV.val (Value.int IntKind.i64 0))] [(0, (1, (AX.t 92)))]) none 5 false true), (AOp.mk (some 94) (AK.app false 3 1 8 [(PV.val (Value.int IntKind.i64 0))] (AX.t 88) (AX.t 93)) none 6 false true), (AOp.mk (some 13) (AK.mv (AX.t 94)) none 7 false true)]) (AC.seq (AC.ops [(AOp.mk (some 95) (AK.fadr 0 (AX.t 3)) none 0 true false), (AOp.mk (some 96) (AK.ld none (AX.t 95)) none 1 true false), (AOp.mk (some 97) (AK.mv (AX.t 7)) none 2 true false), (AOp.mk (some 98) (AK.iadrS 1 (AX.t 96) (AX.t 97)) none 3 true false), (AOp.mk (some 99) (AK.ld none (AX.t 98)) none 4 true false), (AOp.mk (some 100) (AK.mv (AX.t 16)) none 5 true false), (AOp.mk (some 101) (AK.iadrS 1 (AX.t 99) (AX.t 100)) none 6 true false), (AOp.mk (some 102) (AK.ld none (AX.t 101)) none 7 true false), (AOp.mk (some 103) (AK.fadr 0 (AX.t 3)) none 8 true false), (AOp.mk (some 104) (AK.ld none (AX.t 103)) none 9 true false), (AOp.mk (some 105) (AK.mv (AX.t 8)) none 10 true false), (AOp.mk (some 106) (AK.iadrS 1 (AX.t 104) (AX.t 105)) none 11 true false), (AOp.mk (some 107) (AK.ld none (AX.t 106)) none 12 true false), (AOp.mk (some 108) (AK.mv (AX.t 16)) none 13 true false), (AOp.mk (some 109) (AK.iadrS 1 (AX.t 107) (AX.t 108)) none 14 true false), (AOp.mk (some 110) (AK.ld none (AX.t 109)) none 15 true false), (AOp.mk (some 111) (AK.bin false BinOp.and (AX.t 102) (AX.t 110)) none 16 true true), (AOp.mk (some 17) (AK.mv (AX.t 111)) none 17 true true)]) (AC.seq (AC.seq (AC.ops [(AOp.mk (some 112) (AK.mv (AX.t 17)) none 0 false true), (AOp.mk (some 113) (AK.bin false BinOp.eql (AX.t 112) (AX.c (PV.val (Value.int IntKind.i64 0)))) none 1 false true)]) (AC.cond (AX.t 113) (AC.seq (AC.ops [(AOp.mk (some 114) (AK.fadr 0 (AX.t 3)) none 0 false true), (AOp.mk (some 115) (AK.ld none (AX.t 114)) none 1 false true), (AOp.mk (some 116) (AK.mv (AX.t 7)) none 2 false true), (AOp.mk (some 117) (AK.iadrS 1 (AX.t 115) (AX.t 116)) none 3 false true), (AOp.mk (some 118) (AK.ld none (AX.t 117)) none 4 false true), (AOp.mk (some 119) (AK.mv (AX.t 16)) none 5 false true), (AOp.mk (some 120) (AK.iadrS 1 (AX.t 118) (AX.t 119)) none 6 false true), (AOp.mk (some 121) (AK.ld none (AX.t 120)) none 7 false true), (AOp.mk (some 17) (AK.mv (AX.t 121)) none 8 false true)]) (AC.seq (AC.seq (AC.ops [(AOp.mk (some 122) (AK.mv (AX.t 15)) none 0 false true), (AOp.mk (some 123) (AK.fadr 2 (AX.t 3)) none 1 false true), (AOp.mk (some 124) (AK.ld none (AX.t 123)) none 2 false true), (AOp.mk (some 125) (AK.bin false BinOp.geq (AX.t 122) (AX.t 124)) none 3 false true)]) (AC.cond (AX.t 125) (AC.ops [(AOp.mk (some 126) (AK.fadr 0 (AX.t 3)) none 0 false true), (AOp.mk (some 127) (AK.ld none (AX.t 126)) none 1 false true), (AOp.mk (some 128) (AK.mv (AX.t 8)) none 2 false true), (AOp.mk (some 129) (AK.iadrS 1 (AX.t 127) (AX.t 128)) none 3 false true), (AOp.mk (some 130) (AK.ld none (AX.t 129)) none 4 false true), (AOp.mk (some 131) (AK.mv (AX.t 16)) none 5 false true), (AOp.mk (some 132) (AK.iadrS 1 (AX.t 130) (AX.t 131)) none 6 false true), (AOp.mk (some 133) (AK.ld none (AX.t 132)) none 7 false true), (AOp.mk (some 17) (AK.mv (AX.t 133)) none 8 false true)]) AC.skip)) (AC.ops [(AOp.mk (some 134) (AK.mv (AX.t 15)) none 0 false true), (AOp.mk (some 135) (AK.bin false BinOp.add (AX.t 134) (AX.c (PV.val (Value.int IntKind.i64 1)))) none 1 false true), (AOp.mk (some 15) (AK.mv (AX.t 135)) none 2 false true)]))) AC.skip)) (AC.ops [(AOp.mk (some 136) (AK.mv (AX.t 14)) none 0 false true), (AOp.mk (some 137) (AK.mv (AX.t 17)) none 1 false true), (AOp.mk (some 138) (AK.call 42 [(AX.t 137), (AX.c (PV.val (Value.int IntKind.i64 5)))]) none 2 false true), (AOp.mk (some 139) (AK.iadrS 1 (AX.t 138) (AX.c (PV.val (Value.int IntKind.i64 0)))) none 3 false true), (AOp.mk (some 140) (AK.ld none (AX.t 139)) none 4 false true), (AOp.mk (some 141) (AK.bslice false 3 1 1 [(PV.val (Value.int IntKind.i64 0))] [(0, (1, (AX.t 140)))]) none 5 false true), (AOp.mk (some 142) (AK.app false 3 1 8 [(PV.val (Value.int IntKind.i64 0))] (AX.t 136) (AX.t 141)) none 6 false true), (AOp.mk (some 14) (AK.mv (AX.t 142)) none 7 false true)]))))) (AC.ops [(AOp.mk (some 86) (AK.mv (AX.t 16)) none 0 false true), (AOp.mk (some 87) (AK.bin false BinOp.add (AX.t 86) (AX.c (PV.val (Value.int IntKind.i64 1)))) none 1 false true), (AOp.mk (some 16) (AK.mv (AX.t 87)) none 2 false true)])))))) (AC.seq (AC.ops [(AOp.mk (some 144) (AK.ld (some 4) (AX.t 3)) none 0 false true), (AOp.mk (some 145) (AK.mv (AX.t 13)) none 1 false true), (AOp.mk (some 146) (AK.call 49 [(AX.t 144), (AX.t 145)]) none 2 false true), (AOp.mk (some 147) (AK.call 20 [(AX.t 146)]) none 3 false true), (AOp.mk (some 143) (AK.mv (AX.t 147)) none 4 false true), (AOp.mk (some 148) (AK.ext (AX.t 143) 0) none 5 false true), (AOp.mk (some 149) (AK.ext (AX.t 143) 1) none 6 false true), (AOp.mk (some 18) (AK.mv (AX.t 148)) none 7 false true), (AOp.mk (some 19) (AK.mv (AX.t 149)) none 8 false true)]) (AC.seq (AC.ops [(AOp.mk (some 151) (AK.ld (some 4) (AX.t 3)) none 0 false true), (AOp.mk (some 152) (AK.mv (AX.t 14)) none 1 false true), (AOp.mk (some 153) (AK.call 49 [(AX.t 151), (AX.t 152)]) none 2 false true), (AOp.mk (some 154) (AK.call 20 [(AX.t 153)]) none 3 false true), (AOp.mk (some 150) (AK.mv (AX.t 154)) none 4 false true), (AOp.mk (some 155) (AK.ext (AX.t 150) 0) none 5 false true), (AOp.mk (some 156) (AK.ext (AX.t 150) 1) none 6 false true), (AOp.mk (some 20) (AK.mv (AX.t 155)) none 7 false true), (AOp.mk (some 21) (AK.mv (AX.t 156)) none 8 false true)]) (AC.seq (AC.seq (AC.ops [(AOp.mk (some 157) (AK.mv (AX.t 19)) none 0 false true), (AOp.mk (some 158) (AK.bin false BinOp.neq (AX.t 157) (AX.c (PV.val (Value.int IntKind.i64 0)))) none 1 false true), (AOp.mk (some 159) (AK.mv (AX.t 158)) none 2 false true), (AOp.mk (some 160) (AK.mv (AX.t 21)) (some (159, false)) 3 false true), (AOp.mk (some 161) (AK.bin false BinOp.neq (AX.t 160) (AX.c (PV.val (Value.int IntKind.i64 0)))) (some (159, false)) 4 false true), (AOp.mk (some 162) (AK.pick (AX.t 159) (AX.c (PV.val (Value.bool true))) (AX.t 161)) none 5 false true), (AOp.mk (some 163) (AK.mv (AX.t 162)) none 6 false true), (AOp.mk (some 164) (AK.mv (AX.t 9)) (some (163, false)) 7 false true), (AOp.mk (some 165) (AK.mv (AX.t 164)) (some (163, false)) 8 false true), (AOp.mk (some 166) (AK.mv (AX.t 18)) (some (165, true)) 9 false true), (AOp.mk (some 167) (AK.mv (AX.t 7)) (some (165, true)) 10 false true), (AOp.mk (some 168) (AK.call 41 [(AX.t 166), (AX.t 167)]) (some (165, true)) 11 false true), (AOp.mk (some 169) (AK.bin false BinOp.geq (AX.t 168) (AX.c (PV.val (Value.int IntKind.i64 0)))) (some (165, true)) 12 false true), (AOp.mk (some 170) (AK.pick (AX.t 165) (AX.t 169) (AX.c (PV.val (Value.bool false)))) (some (163, false)) 13 false true), (AOp.mk (some 171) (AK.mv (AX.t 170)) (some (163, false)) 14 false true), (AOp.mk (some 172) (AK.mv (AX.t 18)) (some (171, true)) 15 false true), (AOp.mk (some 173) (AK.mv (AX.t 8)) (some (171, true)) 16 false true), (AOp.mk (some 174) (AK.call 41 [(AX.t 172), (AX.t 173)]) (some (171, true)) 17 false true), (AOp.mk (some 175) (AK.bin false BinOp.geq (AX.t 174) (AX.c (PV.val (Value.int IntKind.i64 0)))) (some (171, true)) 18 false true), (AOp.mk (some 176) (AK.pick (AX.t 171) (AX.t 175) (AX.c (PV.val (Value.bool false)))) (some (163, false)) 19 false true), (AOp.mk (some 177) (AK.pick (AX.t 163) (AX.c (PV.val (Value.bool true))) (AX.t 176)) none 20 false true)]) (AC.cond (AX.t 177) (AC.seq (AC.ops [(AOp.mk (some 6) (AK.mv (AX.c (PV.val (Value.bool false)))) none 0 false true)]) AC.ret) AC.skip)) (AC.seq (AC.ops [(AOp.mk (some 178) (AK.mv (AX.t 9)) none 0 false true), (AOp.mk (some 179) (AK.mv (AX.t 178)) none 1 false true), (AOp.mk (some 180) (AK.mv (AX.t 20)) (some (179, false)) 2 false true), (AOp.mk (some 181) (AK.mv (AX.t 7)) (some (179, false)) 3 false true), (AOp.mk (some 182) (AK.call 41 [(AX.t 180), (AX.t 181)]) (some (179, false)) 4 false true), (AOp.mk (some 183) (AK.bin false BinOp.geq (AX.t 182) (AX.c (PV.val (Value.int IntKind.i64 0)))) (some (179, false)) 5 false true), (AOp.mk (some 184) (AK.mv (AX.t 183)) (some (179, false)) 6 false true), (AOp.mk (some 185) (AK.mv (AX.t 20)) (some (184, true)) 7 false true), (AOp.mk (some 186) (AK.mv (AX.t 8)) (some (184, true)) 8 false true), (AOp.mk (some 187) (AK.call 41 [(AX.t 185), (AX.t 186)]) (some (184, true)) 9 false true), (AOp.mk (some 188) (AK.bin false BinOp.geq (AX.t 187) (AX.c (PV.val (Value.int IntKind.i64 0)))) (some (184, true)) 10 false true), (AOp.mk (some 189) (AK.pick (AX.t 184) (AX.t 188) (AX.c (PV.val (Value.bool false)))) (some (179, false)) 11 false true), (AOp.mk (some 190) (AK.pick (AX.t 179) (AX.c (PV.val (Value.bool true))) (AX.t 189)) none 12 false true), (AOp.mk (some 191) (AK.mv (AX.t 190)) none 13 false true), (AOp.mk (some 192) (AK.call 27 []) (some (191, true)) 14 false true), (AOp.mk (some 193) (AK.pick (AX.t 191) (AX.t 192) (AX.c (PV.val (Value.bool false)))) none 15 false true), (AOp.mk (some 6) (AK.mv (AX.t 193)) none 16 false true)]) AC.ret)))))))))))))
theorem ac10_ok : cCode Try.prog (fun _ => false) Try.f10.ntmps (Try.f10.body.getD .skip) = some ac10 := by kernel_rfl
theorem Told_ok (k k2 : SK) {b : MBook} (ho : okBook b) {o u : Nat} (hoo : o < b.makers.length) (hu : u < b.makers.length) (hne : u ≠ o) : Sem1 30 [.agg (bookC k k2 b), pi o, pi u] (.tup [pb (!bothB b o u), pi 0]) := (Told_sem k k2 b o u).mono fun _ e => e.trans (by
  have e1 : okT b o u = true := by
    unfold okT
    rw [okM_of hoo, okM_of hu, decide_eq_true (show (o : Int) ≠ (u : Int) by omega)]
    rfl
  rw [e1, if_pos (okA ho), Int.toNat_natCast, Int.toNat_natCast])
theorem drop_app {o1 o2 : Option Nat} (h : (o1.toList ++ o2.toList).Nodup) : dropT o1 (o1.toList ++ o2.toList) = o2.toList := by
  cases o1 with
  | none => rfl
  | some t => simp [dropT]
theorem drop_cons {t : Nat} {o2 : Option Nat} (h : t ∉ o2.toList) : dropT o2 (t :: o2.toList) = [t] := by
  cases o2 with
  | none => rfl
  | some x =>
    have : ¬ t = x := by simpa using h
    simp [dropT, this]
theorem many_le (b : MBook) (o u j : Nat) : manyD b o u j ≤ j := by
  unfold manyD
  exact Nat.le_trans (List.length_filter_le ..) (by simp)
set_option maxRecDepth 100000 in
set_option maxHeartbeats 2000000 in
theorem Told_law (k k2 : SK) (b : MBook) (n p : Int) (bits : List Int) : Sem1 10 [.agg (bookC k k2 b), .agg [pi n, pi p], pis bits] (pb true) := by
  by_cases ho : okBook b
  rotate_left
  · refine semC_of_exec' mixed Try.func10 (by kernel_rfl) (by kernel_rfl) ac10_ok 3 rfl (by decide) [(.tmp 6)] (by kernel_rfl) ?_
    intro hr C hC hI
    unfold ac10
    simp only [go_sem, Nat.reduceBEq, Nat.reduceAdd]
    refine call_pure2 hC (sound_sem k k2 b) rfl (PVleL_refl _) ?_
    rintro r rfl
    simp only [go_sem, Nat.reduceBEq, eq_false ho, decide_false]
    refine call_pure2 hC (marked_sem) rfl (PVleL_refl _) ?_
    rintro r rfl
    simp only [go_sem, Nat.reduceBEq]
    exact retQ_one rfl rfl
  by_cases h2m : b.makers.length < 2
  · refine semC_of_exec' mixed Try.func10 (by kernel_rfl) (by kernel_rfl) ac10_ok 3 rfl (by decide) [(.tmp 6)] (by kernel_rfl) ?_
    intro hr C hC hI
    unfold ac10
    simp only [go_sem, Nat.reduceBEq, Nat.reduceAdd]
    refine call_pure2 hC (sound_sem k k2 b) rfl (PVleL_refl _) ?_
    rintro r rfl
    simp only [go_sem, Nat.reduceBEq, eq_true ho, List.length_map, eq_true (show (b.makers.length : Int) < 2 by omega), decide_true]
    refine call_pure2 hC (marked_sem) rfl (PVleL_refl _) ?_
    rintro r rfl
    simp only [go_sem, Nat.reduceBEq]
    exact retQ_one rfl rfl
  have hoc := ho.1
  have h1 := hoc.1
  have h2 := hoc.2.1
  obtain ⟨o, em, hoo⟩ := rnd_maker hoc n
  have hrr := rndI_range (n := p) (m := (b.makers.length : Int) - 1) (by omega)
  obtain ⟨rr, err⟩ : ∃ rr, rndI p ((b.makers.length : Int) - 1) = rr := ⟨_, rfl⟩
  rw [err] at hrr
  obtain ⟨u, eu, hu, hne⟩ := two_ne (r := rr) hoo (by omega) hrr
  rw [show (o : Int) + 1 + rr = ((o + 1 : Nat) : Int) + rr by omega] at eu
  obtain ⟨hz, hfl⟩ := hoc.first
  have e0 : iadrS' 1 (.p (.sl k 1 (rowsC b.makers))) (.p (pi 0)) = some (.p (.ptr [pis b.makers[0]] 0)) := iadr_map (f := fun h => [pis h]) (kd := k) (sz := 1) hz
  have T1 := Told_ok k k2 ho hoo hu hne
  have T2 := Told_ok k k2 ho hu hoo (Ne.symm hne)
  have hcm := bothB_comm hoc u o
  rw [hcm] at T2
  have hbi := both_iff hoc (o := o) (u := u)
  obtain ⟨T, hT⟩ : ∃ T, bothB b o u = T := ⟨_, rfl⟩
  rw [hT] at T1 T2 hbi
  refine semC_of_exec' mixed Try.func10 (by kernel_rfl) (by kernel_rfl) ac10_ok 3 rfl (by decide) [(.tmp 6)] (by kernel_rfl) ?_
  intro hr C hC hI
  unfold ac10
  simp only [go_sem, Nat.reduceBEq, Nat.reduceAdd]
  refine call_pure2 hC (sound_sem k k2 b) rfl (PVleL_refl _) ?_
  rintro r rfl
  simp only [go_sem, Nat.reduceBEq, eq_true ho, List.length_map, iadr2_0, eq_false (show ¬ (b.makers.length : Int) < 2 by omega), decide_eq_false (show ¬ (b.makers.length : Int) < 2 by omega), decide_true, decide_false]
  refine call_pure2 hC (Round_sem n b.makers.length) rfl (PVleL_refl _) ?_
  rintro r rfl
  simp only [go_sem, Nat.reduceBEq, em, iadr2_1, List.length_map, wrap_succ (k := o) (by omega), wrap_id (n := (b.makers.length : Int) - 1) (by omega) (by omega)]
  refine call_pure2 hC (Round_sem p ((b.makers.length : Int) - 1)) rfl (PVleL_refl _) ?_
  rintro r rfl
  simp only [go_sem, Nat.reduceBEq, err, wrap_id (n := ((o + 1 : Nat) : Int) + rr) (by omega) (by omega)]
  refine call_pure2 hC (Round_sem (((o + 1 : Nat) : Int) + rr) b.makers.length) rfl (PVleL_refl _) ?_
  rintro r rfl
  simp only [go_sem, Nat.reduceBEq, Nat.reduceAdd, eu]
  refine call_pure2 hC (T1) rfl (PVleL_refl _) ?_
  rintro r rfl
  simp only [go_sem, Nat.reduceBEq, Nat.reduceAdd]
  refine call_pure2 hC (T2) rfl (PVleL_refl _) ?_
  rintro r rfl
  simp only [go_sem, Nat.reduceBEq, decide_false, not_true_eq_false]
  refine loop_g (α := Nat × Option Nat × Option Nat) (fun a => a.1 ≤ nK b ∧ (a.2.1 = none → a.1 = 0) ∧ (a.2.2 = none → a.1 = 0) ∧ (a.2.1.toList ++ a.2.2.toList).Nodup) (fun a => nK b - a.1) [2, 3, 7, 8, 9] (fun a => [(13, .p (slG 3 a.2.1 ((anyL bits a.1).map fun x => [pi x]))), (14, .p (slG 3 a.2.2 ((pickL b o u a.1).map fun x => [pi x]))), (15, .p (pi (manyD b o u a.1))), (16, .p (pi a.1))]) (fun _ => [.cells ((bookC k k2 b).map .p), .cells [.p (pi n), .p (pi p)]]) (fun a => a.2.1.toList ++ a.2.2.toList) (0, none, none) ⟨by omega, fun _ => rfl, fun _ => rfl, by simp⟩ (by simp [Wk, wkT, wkL, look, AV.lo, AV.lo.loL, upS_eq, keepS_nil, keepS_cons, slG, manyD]) ?_
  rintro ⟨j, o1, o2⟩ ⟨hj, hk1, hk2, hnd⟩
  replace hj : j ≤ nK b := hj
  replace hk1 : o1 = none → j = 0 := hk1
  replace hk2 : o2 = none → j = 0 := hk2
  replace hnd : (o1.toList ++ o2.toList).Nodup := hnd
  have h01 : o1 = none → ((anyL bits j).map fun x => [pi x]) = [] := fun e => by rw [hk1 e]; rfl
  have h02 : o2 = none → ((pickL b o u j).map fun x => [pi x]) = [] := fun e => by rw [hk2 e]; rfl
  simp only [go_sem, Nat.reduceBEq, Nat.reduceAdd, e0, hfl, List.length_map]
  refine ⟨fun c5 => ?_, fun c5 => ?_⟩
  · have hj2 : j < nK b := by omega
    refine call_pure2 hC (Take_sem bits j) rfl (PVleL_refl _) ?_
    rintro r rfl
    simp only [go_sem, Nat.reduceBEq]
    refine call_pure2 hC (Round_sem (takeL bits j) 5) rfl (PVleL_refl _) ?_
    rintro r rfl
    simp only [go_sem, Nat.reduceBEq]
    refine app_slG h01 (by rw [List.length_map, anyL_len]; omega) (fun t ht => List.mem_append_left _ ht) fun t1 ht1 => ?_
    have hnx := anyL_next bits j
    have hnx2 := pickL_next b o u j
    have hmn := many_next b o u j
    have hml := many_le b o u j
    have eo := iadr_map (f := fun h => [pis h]) (kd := k) (sz := 1) hoo
    have eu2 := iadr_map (f := fun h => [pis h]) (kd := k) (sz := 1) hu
    obtain ⟨ro, -⟩ := hoc.row hoo
    obtain ⟨ru, -⟩ := hoc.row hu
    have jo : j < b.makers[o].length := by omega
    have ju : j < b.makers[u].length := by omega
    obtain ⟨q1, q3, q4⟩ := hoc.mk hoo hj2
    obtain ⟨w1, w3, w4⟩ := hoc.mk hu hj2
    have vo := mk_get hoo jo
    rw [q4] at vo
    have vu := mk_get hu ju
    rw [w4] at vu
    have hand : binS false .and (.p (pi (mkN b o j : Nat))) (.p (pi (mkN b u j : Nat))) = some (.p (pi ((mkN b o j &&& mkN b u j : Nat) : Int))) := bin_andN (by omega) (by omega)
    obtain ⟨hl0, hp0, -⟩ := pick_get hoc hoo hu hj2
    have hi0 : iadrS' 1 (.p (pis (listI (pickN b o u j : Nat) 5))) (.p (pi 0)) = some (.p (.ptr [pi (pickI b o u j)] 0)) := by
      rw [← hp0]
      exact iadr_pis (kd := .sh) hl0
    have hL5 : Sem1 42 [pi (pickN b o u j : Nat), pi 5] (pis (listI (pickN b o u j : Nat) 5)) := List_sem (pickN b o u j : Nat) 5 (by decide)
    have hpd : pickN b o u j = if dK b o u j then (if b.repairs ≤ (manyD b o u j : Int) then mkN b u j else mkN b o j) else mkN b o j &&& mkN b u j := rfl
    have hdd : dK b o u j = decide (mkN b o j &&& mkN b u j = 0) := rfl
    have hdr : dropT o1 (o1.toList ++ o2.toList) = o2.toList := drop_app hnd
    have hm2 : ∀ t ∈ o2.toList, t ∈ t1 :: dropT o1 (o1.toList ++ o2.toList) := fun t ht => by
      rw [hdr]
      exact List.mem_cons_of_mem _ ht
    have ht12 : t1 ∉ o2.toList := fun h => ht1 (List.mem_append_right _ h)
    have hdr2 : dropT o2 (t1 :: dropT o1 (o1.toList ++ o2.toList)) = [t1] := by
      rw [hdr]
      exact drop_cons ht12
    have nd2 : ∀ {t2 : Nat}, t2 ∉ t1 :: dropT o1 (o1.toList ++ o2.toList) → [t1, t2].Nodup := fun h => by
      have : ¬ _ = t1 := fun e => h (e ▸ List.mem_cons_self ..)
      simpa using fun e => this e.symm
    simp only [go_sem, Nat.reduceBEq, eo, eu2, iadr_pis jo, iadr_pis ju, vo, vu, hand]
    refine ⟨fun d5 => ?_, fun d5 => ?_⟩
    · rw [decide_eq_true (show mkN b o j &&& mkN b u j = 0 by omega)] at hdd
      rw [hdd, if_pos rfl] at hpd hmn
      refine ⟨fun g5 => ?_, fun g5 => ?_⟩
      · rw [if_pos g5] at hpd
        simp only [go_sem, wrap_succ (k := manyD b o u j) (by omega)]
        rw [← hpd]
        refine call_pure2 hC (hL5) rfl (PVleL_refl _) ?_
        rintro r rfl
        simp only [go_sem, Nat.reduceBEq, hi0]
        refine app_slG h02 (by rw [List.length_map, pickL_len]; omega) hm2 fun t2 ht2 => ?_
        simp only [go_sem, Nat.reduceBEq, wrap_succ (k := j) (by omega)]
        refine ⟨⟨(j + 1, some t1, some t2), hj2, (fun h => by cases h), (fun h => by cases h), nd2 ht2⟩, by simp only; omega, ?_⟩
        simp only [hnx, hnx2, hmn]
        refine ⟨by simp [wkT, look, AV.lo], by simp [wkL, AV.lo, AV.lo.loL, ABlk.toZ], by simp [hdr2], nd2 ht2, rfl, rfl, by simp⟩
      · rw [if_neg g5] at hpd
        simp only [go_sem, wrap_succ (k := manyD b o u j) (by omega)]
        rw [← hpd]
        refine call_pure2 hC (hL5) rfl (PVleL_refl _) ?_
        rintro r rfl
        simp only [go_sem, Nat.reduceBEq, hi0]
        refine app_slG h02 (by rw [List.length_map, pickL_len]; omega) hm2 fun t2 ht2 => ?_
        simp only [go_sem, Nat.reduceBEq, wrap_succ (k := j) (by omega)]
        refine ⟨⟨(j + 1, some t1, some t2), hj2, (fun h => by cases h), (fun h => by cases h), nd2 ht2⟩, by simp only; omega, ?_⟩
        simp only [hnx, hnx2, hmn]
        refine ⟨by simp [wkT, look, AV.lo], by simp [wkL, AV.lo, AV.lo.loL, ABlk.toZ], by simp [hdr2], nd2 ht2, rfl, rfl, by simp⟩
    · rw [decide_eq_false (show ¬ mkN b o j &&& mkN b u j = 0 by omega)] at hdd
      rw [hdd, if_neg (by decide)] at hpd hmn
      rw [← hpd]
      rw [Nat.add_zero] at hmn
      refine call_pure2 hC (hL5) rfl (PVleL_refl _) ?_
      rintro r rfl
      simp only [go_sem, Nat.reduceBEq, hi0]
      refine app_slG h02 (by rw [List.length_map, pickL_len]; omega) hm2 fun t2 ht2 => ?_
      simp only [go_sem, Nat.reduceBEq, wrap_succ (k := j) (by omega)]
      refine ⟨⟨(j + 1, some t1, some t2), hj2, (fun h => by cases h), (fun h => by cases h), nd2 ht2⟩, by simp only; omega, ?_⟩
      simp only [hnx, hnx2, hmn]
      refine ⟨by simp [wkT, look, AV.lo], by simp [wkL, AV.lo, AV.lo.loL, ABlk.toZ], by simp [hdr2], nd2 ht2, rfl, rfl, by simp⟩
  · have hjn : j = nK b := by omega
    subst hjn
    have f1 := anyL_five bits (nK b)
    have f2 := pickL_five hoc hoo hu
    have l1 := anyL_len bits (nK b)
    have l2 := pickL_len b o u (nK b)
    have W1 := Who_ok k .sh (exact_ok ho f1 l1) (exact_right f1 l1)
    have W2 := Who_ok k .sh (exact_ok ho f2 l2) (exact_right f2 l2)
    refine call_pure2 hC (lexact_sem k k2 b f1 (by omega)) rfl ⟨PVle.refl _, slG_le h01, trivial⟩ ?_
    rintro _ rfl
    simp only [go_sem, Nat.reduceBEq]
    refine call_pure2 hC (W1) rfl (PVleL_refl _) ?_
    rintro r rfl
    simp only [go_sem, Nat.reduceBEq, Nat.reduceAdd]
    refine call_pure2 hC (lexact_sem k k2 b f2 (by omega)) rfl ⟨PVle.refl _, slG_le h02, trivial⟩ ?_
    rintro _ rfl
    simp only [go_sem, Nat.reduceBEq]
    refine call_pure2 hC (W2) rfl (PVleL_refl _) ?_
    rintro r rfl
    simp only [go_sem, Nat.reduceBEq, decide_false, not_true_eq_false]
    cases T
    · have hno : ¬ (o ∈ whoL (exactB b (anyL bits (nK b))) ∧ u ∈ whoL (exactB b (anyL bits (nK b)))) := fun h => by
        have := hbi.2 (exact_both f1 l1 (mem_who.1 h.1).2 (mem_who.1 h.2).2)
        cases this
      simp only [go_sem, Nat.reduceBEq, Bool.not_false]
      refine call_pure2 hC (Find_sem (natL (whoL (exactB b (anyL bits (nK b))))) o) rfl (PVleL_refl _) ?_
      rintro r ⟨i1, rfl, hi1⟩
      by_cases m1 : o ∈ whoL (exactB b (anyL bits (nK b)))
      · have n1 : ¬ i1 < 0 := fun h => hi1.1 h (mem_natL.2 m1)
        simp only [go_sem, Nat.reduceBEq, eq_true (show 0 ≤ i1 by omega), decide_true]
        refine call_pure2 hC (Find_sem (natL (whoL (exactB b (anyL bits (nK b))))) u) rfl (PVleL_refl _) ?_
        rintro r ⟨i2, rfl, hi2⟩
        have n2 : i2 < 0 := hi2.2 fun h => hno ⟨m1, mem_natL.1 h⟩
        simp only [go_sem, Nat.reduceBEq, eq_false (show ¬ 0 ≤ i2 by omega), decide_eq_false (show ¬ 0 ≤ i2 by omega), decide_false]
        refine call_pure2 hC (marked_sem) rfl (PVleL_refl _) ?_
        rintro r rfl
        simp only [go_sem, Nat.reduceBEq]
        exact retQ_one rfl rfl
      · have n1 : i1 < 0 := hi1.2 fun h => m1 (mem_natL.1 h)
        simp only [go_sem, Nat.reduceBEq, eq_false (show ¬ 0 ≤ i1 by omega), decide_eq_false (show ¬ 0 ≤ i1 by omega), decide_false]
        refine call_pure2 hC (marked_sem) rfl (PVleL_refl _) ?_
        rintro r rfl
        simp only [go_sem, Nat.reduceBEq]
        exact retQ_one rfl rfl
    · obtain ⟨g1, g2⟩ := share_exact (b := b) (l := pickL b o u (nK b)) hoc.2.2.2.2.1.1 (both_share (hbi.1 rfl)) f2 l2 fun k hk => pickL_bit hoc hoo hu hk
      have m1 : o ∈ whoL (exactB b (pickL b o u (nK b))) := mem_who.2 ⟨hoo, g1⟩
      have m2 : u ∈ whoL (exactB b (pickL b o u (nK b))) := mem_who.2 ⟨hu, g2⟩
      simp only [go_sem, Nat.reduceBEq, Bool.not_true]
      refine call_pure2 hC (Find_sem (natL (whoL (exactB b (pickL b o u (nK b))))) o) rfl (PVleL_refl _) ?_
      rintro r ⟨i1, rfl, hi1⟩
      have n1 : ¬ i1 < 0 := fun h => hi1.1 h (mem_natL.2 m1)
      simp only [go_sem, Nat.reduceBEq, eq_true (show 0 ≤ i1 by omega), decide_true]
      refine call_pure2 hC (Find_sem (natL (whoL (exactB b (pickL b o u (nK b))))) u) rfl (PVleL_refl _) ?_
      rintro r ⟨i2, rfl, hi2⟩
      have n2 : ¬ i2 < 0 := fun h => hi2.1 h (mem_natL.2 m2)
      simp only [go_sem, Nat.reduceBEq, eq_true (show 0 ≤ i2 by omega), decide_true]
      refine call_pure2 hC (marked_sem) rfl (PVleL_refl _) ?_
      rintro r rfl
      simp only [go_sem, Nat.reduceBEq]
      exact retQ_one rfl rfl
set_option maxRecDepth 100000 in
theorem Told_row {l0 l1 l2 : List PV} (T0 : Ty Try.prog 10 25 l0) (T1 : Ty Try.prog 10 26 l1) (T2 : Ty Try.prog 10 31 l2) : SemC Try.prog 10 [argPV Try.prog 25 l0, argPV Try.prog 26 l1, argPV Try.prog 31 l2] (fun r => r = pb true) := by
  obtain ⟨b, rfl⟩ := ty_book T0
  obtain ⟨n0, n1, rfl⟩ := ty_two T1
  obtain ⟨bits, rfl⟩ := ty_ints T2
  rw [argStruct Try.underlying25, argArray Try.underlying26, argSlice Try.underlying31]
  exact Told_law .sh .sh b n0 n1 bits
end Go.Proofs.Ythaplmohhbdfeaa.Mk
namespace Go.Proofs.Ythaplmohhbdfeaa
open Go.Proofs.Ythaplmohhbdfeaa Go.ChangeShapes Go.WideShapes Go.ChangeAt Go.RowKit Go.Deep

set_option maxRecDepth 100000 in
theorem makerTold_lifted (os : Os) (started : os.Started) (H : Type) (enc : TypeId × Value → H) :
    ReturnsInHanded {} Try.checked os 10 .any (Rows.makerToldSpec.pre6 enc Try.prog Try.f10 Rows.makerToldRow.domain false) (Rows.makerToldSpec.post enc Try.prog Try.f10 false true false false) := by
  refine returnsInHanded_of_change_sized (C := Try.checked) ownKnobs started (by kernel_rfl) Try.func10
    (ChangeSpec.witness6 (enc := enc) (C := Try.checked) false ⟨#[], #[.agg #[.slice none 0 0, .slice none 0 0, .int .i64 0, .int .i64 0], .agg #[.int .i64 0, .int .i64 0], .slice none 0 0], []⟩ 8 (by kernel_rfl) (by kernel_rfl) (by kernel_rfl) (by kernel_rfl)) ?_
  intro W base args ds gs before hval0 hW hcnd hsz0 _
  have hval : ∀ (j : Nat) t v, Try.f10.params[j]? = some t → args[j]? = some v → Value.okWide Try.prog W .any base t v := hval0
  have hsz : (DataW.weightsEach Try.prog (Try.f10.params.toList ++ Rows.makerToldSpec.plain.varTypes Try.prog) (ds ++ gs)).all (· ≤ reachBytes) = true := hsz0
  have hW' := hW
  obtain ⟨p, q, hA0, hV, rfl, hfz, hnd⟩ := hW
  have hA : DataW.TrodAll enc Try.prog W 0 (fun _ => true) true Try.f10.params.toList args.toList ds p := hA0
  rw [Try.params10] at hA hval hsz
  obtain ⟨v0, vs0, d0, ds0, p0, q0, hargs, rfl, rfl, h0, r0⟩ := trodAll_cons hA
  obtain ⟨v1, vs1, d1, ds1, p1, q1, rfl, rfl, rfl, h1, r1⟩ := trodAll_cons r0
  obtain ⟨v2, vs2, d2, ds2, p2, q2, rfl, rfl, rfl, h2, r2⟩ := trodAll_cons r1
  obtain ⟨rfl, rfl, rfl⟩ := trodAll_nil r2
  obtain rfl : args = #[v0, v1, v2] := by cases args; simp_all
  obtain ⟨rfl, rfl⟩ := trodVars_none hV
  have lt0 : ∀ x ∈ p0, x.block < W.heap.size := by obtain ⟨m, hm⟩ := h0; exact DataW.trod_lt m _ _ _ hm
  have lt1 : ∀ x ∈ p1, x.block < W.heap.size := by obtain ⟨m, hm⟩ := h1; exact DataW.trod_lt m _ _ _ hm
  have lt2 : ∀ x ∈ p2, x.block < W.heap.size := by obtain ⟨m, hm⟩ := h2; exact DataW.trod_lt m _ _ _ hm
  have z0 : SizedP Try.prog 25 d0 := sizedP_each hsz (j := 0) rfl rfl
  obtain ⟨l0, T0, R0⟩ := rd_arg 10 (by kernel_rfl) (hval 0 25 v0 rfl rfl) h0 z0
  have z1 : SizedP Try.prog 26 d1 := sizedP_each hsz (j := 1) rfl rfl
  obtain ⟨l1, T1, R1⟩ := rd_arg 10 (by kernel_rfl) (hval 1 26 v1 rfl rfl) h1 z1
  have z2 : SizedP Try.prog 31 d2 := sizedP_each hsz (j := 2) rfl rfl
  obtain ⟨l2, T2, R2⟩ := rd_arg 10 (by kernel_rfl) (hval 2 31 v2 rfl rfl) h2 z2
  clear hA0 hval0 hsz0
  refine (law_calls (Mk.Told_row T0 T1 T2) (argsP_cons R0 (argsP_cons R1 (argsP_cons R2 argsP_nil)))).mono fun e W' ⟨he, bel⟩ => ?_
  subst he
  exact ⟨_, rfl, _, _, _, [], _, [], hW', trodAll_mk1 (shut_bool Try.underlying4 _), (trodAll_cons_mk (Below.trod laidOut (by kernel_rfl) (of_decide_eq_true (by kernel_rfl)) h0 bel lt0) (trodAll_cons_mk (Below.trod laidOut (by kernel_rfl) (of_decide_eq_true (by kernel_rfl)) h1 bel lt1) (trodAll_cons_mk (Below.trod laidOut (by kernel_rfl) (of_decide_eq_true (by kernel_rfl)) h2 bel lt2) trodAll_mk0))), rfl, bel.frame _, fun h => by cases h⟩

theorem makerTold_holds : Rows.MakerToldSaid :=
  OpenClaim.holds_of_wide 10 Try.f10 rfl rfl rfl rfl rfl rfl rfl ⟨rfl, rfl, rfl, rfl, rfl⟩ rfl rfl rfl rfl rfl (by kernel_rfl) Try.func10 (by kernel_rfl)
    (of_decide_eq_true (by kernel_rfl)) (by unfold Func.isWrapper; first | (rw [if_pos (by decide +kernel)]; kernel_rfl) | (rw [if_neg (by decide +kernel)]; exact ⟨rfl, rfl⟩))
    (fun os started H enc _ => makerTold_lifted os started H enc)
end Go.Proofs.Ythaplmohhbdfeaa
