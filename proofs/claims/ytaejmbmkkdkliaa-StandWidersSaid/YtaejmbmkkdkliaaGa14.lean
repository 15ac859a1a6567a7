/- Contracts of what is shared: numbers and spans. Contracts of stand: what is valid. Contracts of stand: valid books. -/
import Derived.Test.YtaejmbmkkdkliaaProg
import Derived.Test.YtaejmbmkkdkliaaGa13
namespace Go.Proofs.Ytaejmbmkkdkliaa
open Go.RowKit
theorem mixed : Try.prog.follows .mixedOrders = true := by kernel_rfl
abbrev Sem1 (f : FuncId) (args : List PV) (r : PV) : Prop := SemC Try.prog f args fun x => x = r
def ac43 : AC := (AC.seq (AC.ops [(AOp.mk (some 6) (AK.mv (AX.c (PV.val (Value.bool false)))) none 0 false true)]) (AC.seq (AC.ops [(AOp.mk (some 7) (AK.mv (AX.t 1)) none 0 false true), (AOp.mk (some 8) (AK.mv (AX.t 0)) none 1 false true), (AOp.mk (some 9) (AK.bin false BinOp.leq (AX.t 7) (AX.t 8)) none 2 false true), (AOp.mk (some 10) (AK.mv (AX.t 9)) none 3 false true), (AOp.mk (some 11) (AK.mv (AX.t 0)) (some (10, true)) 4 false true), (AOp.mk (some 12) (AK.mv (AX.t 2)) (some (10, true)) 5 false true), (AOp.mk (some 13) (AK.bin false BinOp.leq (AX.t 11) (AX.t 12)) (some (10, true)) 6 false true), (AOp.mk (some 14) (AK.pick (AX.t 10) (AX.t 13) (AX.c (PV.val (Value.bool false)))) none 7 false true), (AOp.mk (some 6) (AK.mv (AX.t 14)) none 8 false true)]) AC.ret))
theorem ac43_ok : cCode Try.prog (fun _ => false) Try.f43.ntmps (Try.f43.body.getD .skip) = some ac43 := by kernel_rfl
def ac46 : AC := (AC.seq (AC.ops [(AOp.mk (some 4) (AK.new (PV.agg [(PV.val (Value.int IntKind.i64 0)), (PV.val (Value.int IntKind.i64 0))])) none 0 false true)]) (AC.seq (AC.ops [(AOp.mk (some 5) (AK.mv (AX.t 0)) none 0 false true), (AOp.mk (some 6) (AK.mv (AX.t 1)) none 1 false true), (AOp.mk (some 7) (AK.build [(PV.val (Value.int IntKind.i64 0)), (PV.val (Value.int IntKind.i64 0))] [(0, (1, (AX.t 5))), (1, (1, (AX.t 6)))]) none 2 false true), (AOp.mk none (AK.st 2 (AX.t 4) (AX.t 7)) none 3 false true)]) AC.ret))
theorem ac46_ok : cCode Try.prog (fun _ => false) Try.f46.ntmps (Try.f46.body.getD .skip) = some ac46 := by kernel_rfl
def ac49 : AC := (AC.seq (AC.ops [(AOp.mk (some 2) (AK.new (PV.agg [(PV.val (Value.int IntKind.i64 0)), (PV.val (Value.int IntKind.i64 0))])) none 0 false true)]) (AC.seq (AC.ops [(AOp.mk (some 3) (AK.mv (AX.t 0)) none 0 false true), (AOp.mk (some 4) (AK.mv (AX.t 0)) none 1 false true), (AOp.mk (some 5) (AK.build [(PV.val (Value.int IntKind.i64 0)), (PV.val (Value.int IntKind.i64 0))] [(0, (1, (AX.t 3))), (1, (1, (AX.t 4)))]) none 2 false true), (AOp.mk none (AK.st 2 (AX.t 2) (AX.t 5)) none 3 false true)]) AC.ret))
theorem ac49_ok : cCode Try.prog (fun _ => false) Try.f49.ntmps (Try.f49.body.getD .skip) = some ac49 := by kernel_rfl
def ac91 : AC := (AC.seq (AC.ops [(AOp.mk (some 3) (AK.box 2 (AX.t 0)) none 0 false true), (AOp.mk (some 6) (AK.mv (AX.c (PV.val (Value.bool false)))) none 1 false true)]) (AC.seq (AC.ops [(AOp.mk (some 7) (AK.mv (AX.t 1)) none 0 false true), (AOp.mk (some 8) (AK.fadr 0 (AX.t 3)) none 1 false true), (AOp.mk (some 9) (AK.ld none (AX.t 8)) none 2 false true), (AOp.mk (some 10) (AK.bin false BinOp.leq (AX.t 7) (AX.t 9)) none 3 false true), (AOp.mk (some 11) (AK.mv (AX.t 10)) none 4 false true), (AOp.mk (some 12) (AK.fadr 0 (AX.t 3)) (some (11, true)) 5 false true), (AOp.mk (some 13) (AK.ld none (AX.t 12)) (some (11, true)) 6 false true), (AOp.mk (some 14) (AK.fadr 1 (AX.t 3)) (some (11, true)) 7 false true), (AOp.mk (some 15) (AK.ld none (AX.t 14)) (some (11, true)) 8 false true), (AOp.mk (some 16) (AK.bin false BinOp.leq (AX.t 13) (AX.t 15)) (some (11, true)) 9 false true), (AOp.mk (some 17) (AK.pick (AX.t 11) (AX.t 16) (AX.c (PV.val (Value.bool false)))) none 10 false true), (AOp.mk (some 18) (AK.mv (AX.t 17)) none 11 false true), (AOp.mk (some 19) (AK.fadr 1 (AX.t 3)) (some (18, true)) 12 false true), (AOp.mk (some 20) (AK.ld none (AX.t 19)) (some (18, true)) 13 false true), (AOp.mk (some 21) (AK.mv (AX.t 2)) (some (18, true)) 14 false true), (AOp.mk (some 22) (AK.bin false BinOp.leq (AX.t 20) (AX.t 21)) (some (18, true)) 15 false true), (AOp.mk (some 23) (AK.pick (AX.t 18) (AX.t 22) (AX.c (PV.val (Value.bool false)))) none 16 false true), (AOp.mk (some 6) (AK.mv (AX.t 23)) none 17 false true)]) AC.ret))
theorem ac91_ok : cCode Try.prog (fun _ => false) Try.f91.ntmps (Try.f91.body.getD .skip) = some ac91 := by kernel_rfl
def ac41 : AC := (AC.seq (AC.ops [(AOp.mk (some 4) (AK.mv (AX.c (PV.val (Value.int IntKind.i64 0)))) none 0 false true)]) (AC.seq (AC.seq (AC.ops [(AOp.mk (some 6) (AK.mv (AX.t 1)) none 0 false true), (AOp.mk (some 7) (AK.bin false BinOp.lss (AX.t 6) (AX.c (PV.val (Value.int IntKind.i64 1)))) none 1 false true)]) (AC.cond (AX.t 7) (AC.seq (AC.ops [(AOp.mk (some 4) (AK.mv (AX.c (PV.val (Value.int IntKind.i64 0)))) none 0 false true)]) AC.ret) AC.skip)) (AC.seq (AC.ops [(AOp.mk (some 8) (AK.mv (AX.t 0)) none 0 false true), (AOp.mk (some 9) (AK.mv (AX.t 1)) none 1 false true), (AOp.mk (some 10) (AK.bin false BinOp.rem (AX.t 8) (AX.t 9)) none 2 false true), (AOp.mk (some 5) (AK.mv (AX.t 10)) none 3 false true)]) (AC.seq (AC.seq (AC.ops [(AOp.mk (some 11) (AK.mv (AX.t 5)) none 0 false true), (AOp.mk (some 12) (AK.bin false BinOp.lss (AX.t 11) (AX.c (PV.val (Value.int IntKind.i64 0)))) none 1 false true)]) (AC.cond (AX.t 12) (AC.ops [(AOp.mk (some 13) (AK.mv (AX.t 5)) none 0 false true), (AOp.mk (some 14) (AK.mv (AX.t 1)) none 1 false true), (AOp.mk (some 15) (AK.bin false BinOp.add (AX.t 13) (AX.t 14)) none 2 false true), (AOp.mk (some 5) (AK.mv (AX.t 15)) none 3 false true)]) AC.skip)) (AC.seq (AC.ops [(AOp.mk (some 16) (AK.mv (AX.t 5)) none 0 false true), (AOp.mk (some 4) (AK.mv (AX.t 16)) none 1 false true)]) AC.ret)))))
theorem ac41_ok : cCode Try.prog (fun _ => false) Try.f41.ntmps (Try.f41.body.getD .skip) = some ac41 := by kernel_rfl
def ac92 : AC := (AC.seq (AC.ops [(AOp.mk (some 2) (AK.box 2 (AX.t 0)) none 0 false true), (AOp.mk (some 4) (AK.mv (AX.c (PV.val (Value.int IntKind.i64 0)))) none 1 false true)]) (AC.seq (AC.ops [(AOp.mk (some 5) (AK.fadr 0 (AX.t 2)) none 0 true false), (AOp.mk (some 6) (AK.ld none (AX.t 5)) none 1 true false), (AOp.mk (some 7) (AK.mv (AX.t 1)) none 2 true false), (AOp.mk (some 8) (AK.fadr 1 (AX.t 2)) none 3 true false), (AOp.mk (some 9) (AK.ld none (AX.t 8)) none 4 true false), (AOp.mk (some 10) (AK.fadr 0 (AX.t 2)) none 5 true false), (AOp.mk (some 11) (AK.ld none (AX.t 10)) none 6 true false), (AOp.mk (some 12) (AK.bin false BinOp.sub (AX.t 9) (AX.t 11)) none 7 true false), (AOp.mk (some 13) (AK.bin false BinOp.add (AX.t 12) (AX.c (PV.val (Value.int IntKind.i64 1)))) none 8 true false), (AOp.mk (some 14) (AK.call 41 [(AX.t 7), (AX.t 13)]) none 9 false false), (AOp.mk (some 15) (AK.bin false BinOp.add (AX.t 6) (AX.t 14)) none 10 true false), (AOp.mk (some 4) (AK.mv (AX.t 15)) none 11 true true)]) AC.ret))
theorem ac92_ok : cCode Try.prog (fun _ => false) Try.f92.ntmps (Try.f92.body.getD .skip) = some ac92 := by kernel_rfl
def ac93 : AC := (AC.seq (AC.ops [(AOp.mk (some 4) (AK.mv (AX.c (PV.val (Value.int IntKind.i64 0)))) none 0 false true)]) (AC.seq (AC.seq (AC.ops [(AOp.mk (some 5) (AK.mv (AX.t 0)) none 0 false true), (AOp.mk (some 6) (AK.len (AX.t 5)) none 1 false true), (AOp.mk (some 7) (AK.bin false BinOp.eql (AX.t 6) (AX.c (PV.val (Value.int IntKind.i64 0)))) none 2 false true)]) (AC.cond (AX.t 7) (AC.seq (AC.ops [(AOp.mk (some 4) (AK.mv (AX.c (PV.val (Value.int IntKind.i64 0)))) none 0 false true)]) AC.ret) AC.skip)) (AC.seq (AC.ops [(AOp.mk (some 8) (AK.mv (AX.t 0)) none 0 false true), (AOp.mk (some 9) (AK.mv (AX.t 1)) none 1 false true), (AOp.mk (some 10) (AK.mv (AX.t 0)) none 2 false true), (AOp.mk (some 11) (AK.len (AX.t 10)) none 3 false true), (AOp.mk (some 12) (AK.call 41 [(AX.t 9), (AX.t 11)]) none 4 false true), (AOp.mk (some 13) (AK.iadrS 1 (AX.t 8) (AX.t 12)) none 5 false true), (AOp.mk (some 14) (AK.ld none (AX.t 13)) none 6 false true), (AOp.mk (some 4) (AK.mv (AX.t 14)) none 7 false true)]) AC.ret)))
theorem ac93_ok : cCode Try.prog (fun _ => false) Try.f93.ntmps (Try.f93.body.getD .skip) = some ac93 := by kernel_rfl
theorem In_sem (n a b : Int) : Sem1 43 [pi n, pi a, pi b] (pb (decide (a ≤ n ∧ n ≤ b))) := by
  refine semC_of_exec' mixed Try.func43 (by kernel_rfl) (by kernel_rfl) ac43_ok 3 rfl (by decide) [(.tmp 6)] (by kernel_rfl) ?_
  intro hr C hC hI
  unfold ac43
  simp only [go_sem, Nat.reduceBEq, Nat.reduceAdd]
  exact ⟨fun h => retQ_one rfl (by simp [h]), fun h => retQ_one rfl (by simp [h])⟩
theorem From_sem (a b : Int) : Sem1 46 [pi a, pi b] (psp a b) := by
  refine semC_of_exec' mixed Try.func46 (by kernel_rfl) (by kernel_rfl) ac46_ok 2 rfl (by decide) [(.cell 4 42)] (by kernel_rfl) ?_
  intro hr C hC hI
  unfold ac46
  simp only [go_sem, Nat.reduceBEq, Nat.reduceAdd, Nat.reduceLeDiff]
  exact retQ_cell (n := some 2) (by kernel_rfl) rfl rfl
theorem One_sem (a : Int) : Sem1 49 [pi a] (psp a a) := by
  refine semC_of_exec' mixed Try.func49 (by kernel_rfl) (by kernel_rfl) ac49_ok 1 rfl (by decide) [(.cell 2 42)] (by kernel_rfl) ?_
  intro hr C hC hI
  unfold ac49
  simp only [go_sem, Nat.reduceBEq, Nat.reduceAdd, Nat.reduceLeDiff]
  exact retQ_cell (n := some 2) (by kernel_rfl) rfl rfl
theorem Ordered_sem (a b x y : Int) : Sem1 91 [psp a b, pi x, pi y] (pb (decide (x ≤ a ∧ a ≤ b ∧ b ≤ y))) := by
  refine semC_of_exec' mixed Try.func91 (by kernel_rfl) (by kernel_rfl) ac91_ok 3 rfl (by decide) [(.tmp 6)] (by kernel_rfl) ?_
  intro hr C hC hI
  unfold ac91
  simp only [go_sem, Nat.reduceBEq, Nat.reduceAdd]
  exact ⟨fun h1 => ⟨fun h2 => retQ_one rfl (by simp [h1, h2]), fun h2 => retQ_one rfl (by simp [h2])⟩, fun h1 => retQ_one rfl (by simp [h1])⟩
def rndI (n m : Int) : Int := if m < 1 then 0 else n % m
theorem rndI_tmod {n m : Int} (h : 1 ≤ m) : rndI n m = if n.tmod m < 0 then n.tmod m + m else n.tmod m := by
  unfold rndI; rw [if_neg (by omega)]
  have h1 := Int.tmod_eq_emod (a := n) (b := m)
  have h2 := Int.emod_nonneg n (show m ≠ 0 by omega)
  have h3 := Int.emod_lt_of_pos n (show 0 < m by omega)
  split <;> split at h1 <;> omega
theorem rndI_range {n m : Int} (h : 1 ≤ m) : 0 ≤ rndI n m ∧ rndI n m < m := by
  unfold rndI; rw [if_neg (by omega)]
  exact ⟨Int.emod_nonneg _ (by omega), Int.emod_lt_of_pos _ (by omega)⟩
theorem Round_sem (n m : Int) : Sem1 41 [pi n, pi m] (pi (rndI n m)) := by
  refine semC_of_exec' mixed Try.func41 (by kernel_rfl) (by kernel_rfl) ac41_ok 2 rfl (by decide) [(.tmp 4)] (by kernel_rfl) ?_
  intro hr C hC hI
  unfold ac41
  simp only [go_sem, Nat.reduceBEq]
  have hm := real_i64 (i := 1) hr rfl
  refine ⟨fun h => retQ_one rfl (by simp [rndI, h]), fun h => ?_⟩
  have hr1 := rndI_tmod (n := n) (m := m) (by omega)
  have hr2 := rndI_range (n := n) (m := m) (by omega)
  simp only [go_sem, Nat.reduceBEq, bin_rem (show ¬ m = 0 by omega)]
  refine ⟨fun h2 => retQ_one rfl ?_, fun h2 => retQ_one rfl ?_⟩
  · rw [if_pos h2] at hr1
    rw [wrap_id (by omega) (by omega), ← hr1]
  · rw [if_neg h2] at hr1
    rw [← hr1]
theorem Any_sem {a b : Int} (n : Int) (h1 : -1000000000000 ≤ a) (h2 : b ≤ 1000000000000) (h3 : a ≤ b) : Sem1 92 [psp a b, pi n] (pi (a + rndI n (b - a + 1))) := by
  refine semC_of_exec' mixed Try.func92 (by kernel_rfl) (by kernel_rfl) ac92_ok 2 rfl (by decide) [(.tmp 4)] (by kernel_rfl) ?_
  intro hr C hC hI
  unfold ac92
  simp only [go_sem, Nat.reduceBEq, Nat.reduceAdd]
  have hr2 := rndI_range (n := n) (m := b - a + 1) (by omega)
  simp only [go_sem, wrap_id (n := b - a) (by omega) (by omega), wrap_id (n := b - a + 1) (by omega) (by omega)]
  refine call_pure hC (l := [pi n, pi (b - a + 1)]) (Round_sem n _) (PVleL_refl _) ?_
  rintro r rfl
  simp only [go_sem, Nat.reduceBEq, wrap_id (n := a + rndI n (b - a + 1)) (by omega) (by omega)]
  exact retQ_one rfl rfl
def takeL (l : List Int) (n : Int) : Int := l.getD (rndI n l.length).toNat 0
theorem Take_sem (l : List Int) (n : Int) : Sem1 93 [pis l, pi n] (pi (takeL l n)) := by
  refine semC_of_exec' mixed Try.func93 (by kernel_rfl) (by kernel_rfl) ac93_ok 2 rfl (by decide) [(.tmp 4)] (by kernel_rfl) ?_
  intro hr C hC hI
  unfold ac93
  simp only [go_sem, Nat.reduceBEq, List.length_map]
  have hlen := real_len (i := 0) hr rfl
  rw [List.length_map] at hlen
  refine ⟨fun h => retQ_one rfl ?_, fun h => ?_⟩
  · have : l = [] := by simpa using h
    subst this; rfl
  · have hr2 := rndI_range (n := n) (m := l.length) (by omega)
    refine call_pure hC (l := [pi n, pi l.length]) (Round_sem n _) (PVleL_refl _) ?_
    rintro r rfl
    have hlt : (rndI n l.length).toNat < l.length := by omega
    have e1 := iadrS_sl (sz := 1) (k := .sh) (es := l.map fun x => [pi x]) (kk := .i64) (i := rndI n l.length) (e := [pi (takeL l n)]) (by omega) (by simp [takeL, hlt])
    simp only [go_sem, Nat.reduceBEq, e1]
    exact retQ_one rfl rfl
end Go.Proofs.Ytaejmbmkkdkliaa
namespace Go.Proofs.Ytaejmbmkkdkliaa
open Go.RowKit
def ac84 : AC := (AC.seq (AC.ops [(AOp.mk (some 6) (AK.mv (AX.c (PV.val (Value.bool false)))) none 0 false true)]) (AC.seq (AC.ops [(AOp.mk (some 7) (AK.mv (AX.t 1)) none 0 false true), (AOp.mk (some 8) (AK.mv (AX.t 0)) none 1 false true), (AOp.mk (some 9) (AK.bin false BinOp.leq (AX.t 7) (AX.t 8)) none 2 false true), (AOp.mk (some 10) (AK.mv (AX.t 9)) none 3 false true), (AOp.mk (some 11) (AK.mv (AX.t 0)) (some (10, true)) 4 false true), (AOp.mk (some 12) (AK.mv (AX.t 2)) (some (10, true)) 5 false true), (AOp.mk (some 13) (AK.bin false BinOp.leq (AX.t 11) (AX.t 12)) (some (10, true)) 6 false true), (AOp.mk (some 14) (AK.pick (AX.t 10) (AX.t 13) (AX.c (PV.val (Value.bool false)))) none 7 false true), (AOp.mk (some 6) (AK.mv (AX.t 14)) none 8 false true)]) AC.ret))
theorem ac84_ok : cCode Try.prog (fun _ => false) Try.f84.ntmps (Try.f84.body.getD .skip) = some ac84 := by kernel_rfl
def ac119 : AC := (AC.seq (AC.ops [(AOp.mk (some 4) (AK.mv (AX.c (PV.val (Value.bool false)))) none 0 false true)]) (AC.seq (AC.ops [(AOp.mk (some 5) (AK.mv (AX.t 0)) none 0 false true), (AOp.mk (some 6) (AK.call 84 [(AX.t 5), (AX.c (PV.val (Value.int IntKind.i64 (-60)))), (AX.c (PV.val (Value.int IntKind.i64 60)))]) none 1 false true), (AOp.mk (some 7) (AK.mv (AX.t 6)) none 2 false true), (AOp.mk (some 8) (AK.mv (AX.t 1)) (some (7, true)) 3 false true), (AOp.mk (some 9) (AK.call 84 [(AX.t 8), (AX.c (PV.val (Value.int IntKind.i64 0))), (AX.c (PV.val (Value.int IntKind.i64 60)))]) (some (7, true)) 4 false true), (AOp.mk (some 10) (AK.pick (AX.t 7) (AX.t 9) (AX.c (PV.val (Value.bool false)))) none 5 false true), (AOp.mk (some 4) (AK.mv (AX.t 10)) none 6 false true)]) AC.ret))
theorem ac119_ok : cCode Try.prog (fun _ => false) Try.f119.ntmps (Try.f119.body.getD .skip) = some ac119 := by kernel_rfl
def ac69 : AC := (AC.seq (AC.ops [(AOp.mk (some 2) (AK.box 10 (AX.t 0)) none 0 false true), (AOp.mk (some 4) (AK.mv (AX.c (PV.val (Value.bool false)))) none 1 false true)]) (AC.seq (AC.ops [(AOp.mk (some 5) (AK.mv (AX.t 1)) none 0 false true), (AOp.mk (some 6) (AK.fadr 8 (AX.t 2)) none 1 false true), (AOp.mk (some 7) (AK.ld none (AX.t 6)) none 2 false true), (AOp.mk (some 8) (AK.call 84 [(AX.t 5), (AX.c (PV.val (Value.int IntKind.i64 1))), (AX.t 7)]) none 3 false true), (AOp.mk (some 4) (AK.mv (AX.t 8)) none 4 false true)]) AC.ret))
theorem ac69_ok : cCode Try.prog (fun _ => false) Try.f69.ntmps (Try.f69.body.getD .skip) = some ac69 := by kernel_rfl
def ac70 : AC := (AC.seq (AC.ops [(AOp.mk (some 2) (AK.box 10 (AX.t 0)) none 0 false true), (AOp.mk (some 4) (AK.mv (AX.c (PV.val (Value.bool false)))) none 1 false true)]) (AC.seq (AC.ops [(AOp.mk (some 5) (AK.mv (AX.t 1)) none 0 false true), (AOp.mk (some 6) (AK.fadr 7 (AX.t 2)) none 1 false true), (AOp.mk (some 7) (AK.ld none (AX.t 6)) none 2 false true), (AOp.mk (some 8) (AK.un UnOp.neg (AX.t 7)) none 3 false true), (AOp.mk (some 9) (AK.fadr 7 (AX.t 2)) none 4 false true), (AOp.mk (some 10) (AK.ld none (AX.t 9)) none 5 false true), (AOp.mk (some 11) (AK.call 84 [(AX.t 5), (AX.t 8), (AX.t 10)]) none 6 false true), (AOp.mk (some 4) (AK.mv (AX.t 11)) none 7 false true)]) AC.ret))
theorem ac70_ok : cCode Try.prog (fun _ => false) Try.f70.ntmps (Try.f70.body.getD .skip) = some ac70 := by kernel_rfl
def ac103 : AC := (AC.seq (AC.ops [(AOp.mk (some 1) (AK.box 4 (AX.t 0)) none 0 false true), (AOp.mk (some 2) (AK.mv (AX.c (PV.val (Value.bool false)))) none 1 false true)]) (AC.seq (AC.ops [(AOp.mk (some 4) (AK.fadr 0 (AX.t 1)) none 0 false true), (AOp.mk (some 5) (AK.ld (some 2) (AX.t 4)) none 1 false true), (AOp.mk (some 3) (AK.new (PV.agg [(PV.val (Value.int IntKind.i64 0)), (PV.val (Value.int IntKind.i64 0))])) none 2 false true), (AOp.mk none (AK.st 2 (AX.t 3) (AX.t 5)) none 3 false true)]) (AC.seq (AC.seq (AC.ops [(AOp.mk (some 6) (AK.fadr 0 (AX.t 3)) none 0 false true), (AOp.mk (some 7) (AK.ld none (AX.t 6)) none 1 false true), (AOp.mk (some 8) (AK.call 84 [(AX.t 7), (AX.c (PV.val (Value.int IntKind.i64 1))), (AX.c (PV.val (Value.int IntKind.i64 99)))]) none 2 false true), (AOp.mk (some 9) (AK.un UnOp.not (AX.t 8)) none 3 false true), (AOp.mk (some 10) (AK.mv (AX.t 9)) none 4 false true), (AOp.mk (some 11) (AK.fadr 1 (AX.t 3)) (some (10, false)) 5 false true), (AOp.mk (some 12) (AK.ld none (AX.t 11)) (some (10, false)) 6 false true), (AOp.mk (some 13) (AK.fadr 0 (AX.t 3)) (some (10, false)) 7 false true), (AOp.mk (some 14) (AK.ld none (AX.t 13)) (some (10, false)) 8 false true), (AOp.mk (some 15) (AK.call 84 [(AX.t 12), (AX.t 14), (AX.c (PV.val (Value.int IntKind.i64 99)))]) (some (10, false)) 9 false true), (AOp.mk (some 16) (AK.un UnOp.not (AX.t 15)) (some (10, false)) 10 false true), (AOp.mk (some 17) (AK.pick (AX.t 10) (AX.c (PV.val (Value.bool true))) (AX.t 16)) none 11 false true), (AOp.mk (some 18) (AK.mv (AX.t 17)) none 12 false true), (AOp.mk (some 19) (AK.fadr 1 (AX.t 3)) (some (18, false)) 13 false true), (AOp.mk (some 20) (AK.ld none (AX.t 19)) (some (18, false)) 14 false true), (AOp.mk (some 21) (AK.fadr 0 (AX.t 3)) (some (18, false)) 15 false true), (AOp.mk (some 22) (AK.ld none (AX.t 21)) (some (18, false)) 16 false true), (AOp.mk (some 23) (AK.bin false BinOp.sub (AX.t 20) (AX.t 22)) (some (18, false)) 17 false true), (AOp.mk (some 24) (AK.bin false BinOp.gtr (AX.t 23) (AX.c (PV.val (Value.int IntKind.i64 4)))) (some (18, false)) 18 false true), (AOp.mk (some 25) (AK.pick (AX.t 18) (AX.c (PV.val (Value.bool true))) (AX.t 24)) none 19 false true)]) (AC.cond (AX.t 25) (AC.seq (AC.ops [(AOp.mk (some 2) (AK.mv (AX.c (PV.val (Value.bool false)))) none 0 false true)]) AC.ret) AC.skip)) (AC.seq (AC.ops [(AOp.mk (some 26) (AK.fadr 2 (AX.t 1)) none 0 false true), (AOp.mk (some 27) (AK.ld none (AX.t 26)) none 1 false true), (AOp.mk (some 28) (AK.fadr 3 (AX.t 1)) none 2 false true), (AOp.mk (some 29) (AK.ld none (AX.t 28)) none 3 false true), (AOp.mk (some 30) (AK.call 119 [(AX.t 27), (AX.t 29)]) none 4 false true), (AOp.mk (some 2) (AK.mv (AX.t 30)) none 5 false true)]) AC.ret))))
theorem ac103_ok : cCode Try.prog (fun _ => false) Try.f103.ntmps (Try.f103.body.getD .skip) = some ac103 := by kernel_rfl
def ac101 : AC := (AC.seq (AC.ops [(AOp.mk (some 1) (AK.box 10 (AX.t 0)) none 0 false true), (AOp.mk (some 2) (AK.mv (AX.c (PV.val (Value.bool false)))) none 1 false true)]) (AC.seq (AC.seq (AC.ops [(AOp.mk (some 3) (AK.fadr 1 (AX.t 1)) none 0 false true), (AOp.mk (some 4) (AK.ld none (AX.t 3)) none 1 false true), (AOp.mk (some 5) (AK.call 84 [(AX.t 4), (AX.c (PV.val (Value.int IntKind.i64 1))), (AX.c (PV.val (Value.int IntKind.i64 60)))]) none 2 false true), (AOp.mk (some 6) (AK.un UnOp.not (AX.t 5)) none 3 false true), (AOp.mk (some 7) (AK.mv (AX.t 6)) none 4 false true), (AOp.mk (some 8) (AK.fadr 2 (AX.t 1)) (some (7, false)) 5 false true), (AOp.mk (some 9) (AK.ld none (AX.t 8)) (some (7, false)) 6 false true), (AOp.mk (some 10) (AK.call 84 [(AX.t 9), (AX.c (PV.val (Value.int IntKind.i64 1))), (AX.c (PV.val (Value.int IntKind.i64 60)))]) (some (7, false)) 7 false true), (AOp.mk (some 11) (AK.un UnOp.not (AX.t 10)) (some (7, false)) 8 false true), (AOp.mk (some 12) (AK.pick (AX.t 7) (AX.c (PV.val (Value.bool true))) (AX.t 11)) none 9 false true)]) (AC.cond (AX.t 12) (AC.seq (AC.ops [(AOp.mk (some 2) (AK.mv (AX.c (PV.val (Value.bool false)))) none 0 false true)]) AC.ret) AC.skip)) (AC.seq (AC.seq (AC.ops [(AOp.mk (some 13) (AK.fadr 0 (AX.t 1)) none 0 false true), (AOp.mk (some 14) (AK.ld none (AX.t 13)) none 1 false true)]) (AC.block 0 (AC.seq (AC.ops [(AOp.mk (some 16) (AK.bin false BinOp.eql (AX.t 14) (AX.c (PV.val (Value.int IntKind.i64 0)))) none 0 false true), (AOp.mk (some 15) (AK.mv (AX.t 16)) none 1 false true)]) (AC.cond (AX.t 15) (AC.seq (AC.ops [(AOp.mk (some 17) (AK.fadr 3 (AX.t 1)) none 0 false true), (AOp.mk (some 18) (AK.ld none (AX.t 17)) none 1 false true), (AOp.mk (some 19) (AK.bin false BinOp.eql (AX.t 18) (AX.c (PV.val (Value.int IntKind.i64 0)))) none 2 false true), (AOp.mk (some 2) (AK.mv (AX.t 19)) none 3 false true)]) AC.ret) (AC.seq (AC.ops [(AOp.mk (some 21) (AK.bin false BinOp.eql (AX.t 14) (AX.c (PV.val (Value.int IntKind.i64 1)))) none 0 false true), (AOp.mk (some 20) (AK.mv (AX.t 21)) none 1 false true)]) (AC.cond (AX.t 20) (AC.seq (AC.ops [(AOp.mk (some 22) (AK.fadr 3 (AX.t 1)) none 0 false true), (AOp.mk (some 23) (AK.ld none (AX.t 22)) none 1 false true), (AOp.mk (some 24) (AK.call 84 [(AX.t 23), (AX.c (PV.val (Value.int IntKind.i64 1))), (AX.c (PV.val (Value.int IntKind.i64 120)))]) none 2 false true), (AOp.mk (some 2) (AK.mv (AX.t 24)) none 3 false true)]) AC.ret) AC.skip)))))) (AC.seq (AC.ops [(AOp.mk (some 2) (AK.mv (AX.c (PV.val (Value.bool false)))) none 0 false true)]) AC.ret))))
theorem ac101_ok : cCode Try.prog (fun _ => false) Try.f101.ntmps (Try.f101.body.getD .skip) = some ac101 := by kernel_rfl
def ac102 : AC := (AC.seq (AC.ops [(AOp.mk (some 1) (AK.box 10 (AX.t 0)) none 0 false true), (AOp.mk (some 2) (AK.mv (AX.c (PV.val (Value.bool false)))) none 1 false true)]) (AC.seq (AC.ops [(AOp.mk (some 3) (AK.fadr 5 (AX.t 1)) none 0 false true), (AOp.mk (some 4) (AK.ld none (AX.t 3)) none 1 false true), (AOp.mk (some 5) (AK.fadr 6 (AX.t 1)) none 2 false true), (AOp.mk (some 6) (AK.ld none (AX.t 5)) none 3 false true), (AOp.mk (some 7) (AK.call 119 [(AX.t 4), (AX.t 6)]) none 4 false true), (AOp.mk (some 8) (AK.mv (AX.t 7)) none 5 false true), (AOp.mk (some 9) (AK.fadr 7 (AX.t 1)) (some (8, true)) 6 false true), (AOp.mk (some 10) (AK.ld none (AX.t 9)) (some (8, true)) 7 false true), (AOp.mk (some 11) (AK.call 84 [(AX.t 10), (AX.c (PV.val (Value.int IntKind.i64 0))), (AX.c (PV.val (Value.int IntKind.i64 12)))]) (some (8, true)) 8 false true), (AOp.mk (some 12) (AK.pick (AX.t 8) (AX.t 11) (AX.c (PV.val (Value.bool false)))) none 9 false true), (AOp.mk (some 13) (AK.mv (AX.t 12)) none 10 false true), (AOp.mk (some 14) (AK.fadr 8 (AX.t 1)) (some (13, true)) 11 false true), (AOp.mk (some 15) (AK.ld none (AX.t 14)) (some (13, true)) 12 false true), (AOp.mk (some 16) (AK.call 84 [(AX.t 15), (AX.c (PV.val (Value.int IntKind.i64 1))), (AX.c (PV.val (Value.int IntKind.i64 60)))]) (some (13, true)) 13 false true), (AOp.mk (some 17) (AK.pick (AX.t 13) (AX.t 16) (AX.c (PV.val (Value.bool false)))) none 14 false true), (AOp.mk (some 2) (AK.mv (AX.t 17)) none 15 false true)]) AC.ret))
theorem ac102_ok : cCode Try.prog (fun _ => false) Try.f102.ntmps (Try.f102.body.getD .skip) = some ac102 := by kernel_rfl
structure SPart where
  lo : Int
  hi : Int
  along : Int
  high : Int
structure STrial where
  weight : Int
  lean : Int
  tipped : Bool
structure SBook where
  kind : Int
  front : Int
  back : Int
  radius : Int
  parts : List SPart
  along : Int
  high : Int
  lean : Int
  limit : Int
  trials : List STrial
def partC (p : SPart) : List PV := [pi p.lo, pi p.hi, pi p.along, pi p.high]
def trialC (t : STrial) : List PV := [pi t.weight, pi t.lean, pb t.tipped]
abbrev bookC (k k2 : SK) (b : SBook) : List PV := [pi b.kind, pi b.front, pi b.back, pi b.radius, .sl k 4 (b.parts.map partC), pi b.along, pi b.high, pi b.lean, pi b.limit, .sl k2 3 (b.trials.map trialC)]
theorem within_sem (n a b : Int) : Sem1 84 [pi n, pi a, pi b] (pb (decide (a ≤ n ∧ n ≤ b))) := by
  refine semC_of_exec' mixed Try.func84 (by kernel_rfl) (by kernel_rfl) ac84_ok 3 rfl (by decide) [(.tmp 6)] (by kernel_rfl) ?_
  intro hr C hC hI
  unfold ac84
  simp only [go_sem, Nat.reduceBEq, Nat.reduceAdd]
  exact ⟨fun h => retQ_one rfl (by simp [h]), fun h => retQ_one rfl (by simp [h])⟩
theorem isPlace_sem (a h : Int) : Sem1 119 [pi a, pi h] (pb (decide ((-60 ≤ a ∧ a ≤ 60) ∧ 0 ≤ h ∧ h ≤ 60))) := by
  refine semC_of_exec' mixed Try.func119 (by kernel_rfl) (by kernel_rfl) ac119_ok 2 rfl (by decide) [(.tmp 4)] (by kernel_rfl) ?_
  intro hr C hC hI
  unfold ac119
  simp only [go_sem, Nat.reduceBEq]
  refine call_pure2 hC (within_sem ..) rfl (PVleL_refl _) ?_
  rintro r rfl
  simp only [go_sem, Nat.reduceBEq]
  refine ⟨fun h1 => ?_, fun h1 => retQ_one rfl (by simp [h1])⟩
  refine call_pure2 hC (within_sem ..) rfl (PVleL_refl _) ?_
  rintro r rfl
  simp only [go_sem, Nat.reduceBEq]
  exact retQ_one rfl (by simp [h1])
theorem hasWeight_sem (k k2 : SK) (b : SBook) (n : Int) : Sem1 69 [.agg (bookC k k2 b), pi n] (pb (decide (1 ≤ n ∧ n ≤ b.limit))) := by
  refine semC_of_exec' mixed Try.func69 (by kernel_rfl) (by kernel_rfl) ac69_ok 2 rfl (by decide) [(.tmp 4)] (by kernel_rfl) ?_
  intro hr C hC hI
  unfold ac69
  simp only [go_sem, Nat.reduceBEq, Nat.reduceAdd]
  refine call_pure2 hC (within_sem ..) rfl (PVleL_refl _) ?_
  rintro r rfl
  simp only [go_sem, Nat.reduceBEq]
  exact retQ_one rfl rfl
theorem hasLean_sem (k k2 : SK) (b : SBook) (n : Int) (h : -1000000 ≤ b.lean) (h2 : b.lean ≤ 1000000) : Sem1 70 [.agg (bookC k k2 b), pi n] (pb (decide (-b.lean ≤ n ∧ n ≤ b.lean))) := by
  refine semC_of_exec' mixed Try.func70 (by kernel_rfl) (by kernel_rfl) ac70_ok 2 rfl (by decide) [(.tmp 4)] (by kernel_rfl) ?_
  intro hr C hC hI
  unfold ac70
  simp only [go_sem, Nat.reduceBEq, Nat.reduceAdd]
  rw [show IntKind.i64.wrap (0 - b.lean) = -b.lean by rw [wrap_id (by omega) (by omega)]; omega]
  refine call_pure2 hC (within_sem ..) rfl (PVleL_refl _) ?_
  rintro r rfl
  simp only [go_sem, Nat.reduceBEq]
  exact retQ_one rfl rfl
def okPart (p : SPart) : Prop := ((1 ≤ p.lo ∧ p.lo ≤ 99) ∧ (p.lo ≤ p.hi ∧ p.hi ≤ 99) ∧ p.hi - p.lo ≤ 4 ∧ (-60 ≤ p.along ∧ p.along ≤ 60) ∧ 0 ≤ p.high ∧ p.high ≤ 60)
instance (p : SPart) : Decidable (okPart p) := by unfold okPart; infer_instance
theorem validPart_sem (p : SPart) : Sem1 103 [.agg (partC p)] (pb (decide (okPart p))) := by
  unfold partC
  rw [show (decide (okPart p)) = decide ((1 ≤ p.lo ∧ p.lo ≤ 99) ∧ (p.lo ≤ p.hi ∧ p.hi ≤ 99) ∧ p.hi - p.lo ≤ 4 ∧ (-60 ≤ p.along ∧ p.along ≤ 60) ∧ 0 ≤ p.high ∧ p.high ≤ 60) from by simp only [okPart]]
  refine semC_of_exec' mixed Try.func103 (by kernel_rfl) (by kernel_rfl) ac103_ok 1 rfl (by decide) [(.tmp 2)] (by kernel_rfl) ?_
  intro hr C hC hI
  unfold ac103
  simp only [go_sem, Nat.reduceBEq, Nat.reduceAdd, Nat.reduceLeDiff]
  refine call_pure2 hC (within_sem ..) rfl (PVleL_refl _) ?_
  rintro r rfl
  simp only [go_sem, Nat.reduceBEq]
  refine ⟨fun h1 => ?_, fun h1 => ?_⟩
  rotate_left
  · skip
    repeat' (first | ((guard_target =~ retQ _ _ _ _; refine retQ_one rfl ?_; clear hr hC hI; first | (simp; done) | (simp; omega) | (simp_all; done) | (simp_all; omega))) | (guard_target =~ _ ∧ _; refine ⟨fun _ => ?_, fun _ => ?_⟩) | (guard_target =~ Con.call _ 84 _ _ _ _; refine call_pure2 hC (within_sem ..) rfl (PVleL_refl _) ?_; rintro r rfl; simp only [go_sem, Nat.reduceBEq, Nat.reduceAdd, Nat.reduceLeDiff, Nat.reduceEqDiff, Nat.reduceMul, reduceIte]) | (guard_target =~ Con.call _ 119 _ _ _ _; refine call_pure2 hC (isPlace_sem ..) rfl (PVleL_refl _) ?_; rintro r rfl; simp only [go_sem, Nat.reduceBEq, Nat.reduceAdd, Nat.reduceLeDiff, Nat.reduceEqDiff, Nat.reduceMul, reduceIte]))
  refine call_pure2 hC (within_sem ..) rfl (PVleL_refl _) ?_
  rintro r rfl
  simp only [go_sem, Nat.reduceBEq]
  refine ⟨fun h2 => ?_, fun h2 => ?_⟩
  rotate_left
  · skip
    repeat' (first | ((guard_target =~ retQ _ _ _ _; refine retQ_one rfl ?_; clear hr hC hI; first | (simp; done) | (simp; omega) | (simp_all; done) | (simp_all; omega))) | (guard_target =~ _ ∧ _; refine ⟨fun _ => ?_, fun _ => ?_⟩) | (guard_target =~ Con.call _ 84 _ _ _ _; refine call_pure2 hC (within_sem ..) rfl (PVleL_refl _) ?_; rintro r rfl; simp only [go_sem, Nat.reduceBEq, Nat.reduceAdd, Nat.reduceLeDiff, Nat.reduceEqDiff, Nat.reduceMul, reduceIte]) | (guard_target =~ Con.call _ 119 _ _ _ _; refine call_pure2 hC (isPlace_sem ..) rfl (PVleL_refl _) ?_; rintro r rfl; simp only [go_sem, Nat.reduceBEq, Nat.reduceAdd, Nat.reduceLeDiff, Nat.reduceEqDiff, Nat.reduceMul, reduceIte]))
  rw [wrap_id (n := p.hi - p.lo) (by omega) (by omega)]
  repeat' (first | ((guard_target =~ retQ _ _ _ _; refine retQ_one rfl ?_; clear hr hC hI; first | (simp; done) | (simp; omega) | (simp_all; done) | (simp_all; omega))) | (guard_target =~ _ ∧ _; refine ⟨fun _ => ?_, fun _ => ?_⟩) | (guard_target =~ Con.call _ 84 _ _ _ _; refine call_pure2 hC (within_sem ..) rfl (PVleL_refl _) ?_; rintro r rfl; simp only [go_sem, Nat.reduceBEq, Nat.reduceAdd, Nat.reduceLeDiff, Nat.reduceEqDiff, Nat.reduceMul, reduceIte]) | (guard_target =~ Con.call _ 119 _ _ _ _; refine call_pure2 hC (isPlace_sem ..) rfl (PVleL_refl _) ?_; rintro r rfl; simp only [go_sem, Nat.reduceBEq]))
theorem validSeat_sem (k k2 : SK) (b : SBook) : Sem1 102 [.agg (bookC k k2 b)] (pb (decide (((-60 ≤ b.along ∧ b.along ≤ 60) ∧ 0 ≤ b.high ∧ b.high ≤ 60) ∧ (0 ≤ b.lean ∧ b.lean ≤ 12) ∧ 1 ≤ b.limit ∧ b.limit ≤ 60))) := by
  refine semC_of_exec' mixed Try.func102 (by kernel_rfl) (by kernel_rfl) ac102_ok 1 rfl (by decide) [(.tmp 2)] (by kernel_rfl) ?_
  intro hr C hC hI
  unfold ac102
  simp only [go_sem, Nat.reduceBEq, Nat.reduceAdd]
  repeat' (first | ((guard_target =~ retQ _ _ _ _; refine retQ_one rfl ?_; clear hr hC hI; first | (simp; done) | (simp; omega) | (simp_all; done) | (simp_all; omega))) | (guard_target =~ _ ∧ _; refine ⟨fun _ => ?_, fun _ => ?_⟩) | (guard_target =~ Con.call _ 84 _ _ _ _; refine call_pure2 hC (within_sem ..) rfl (PVleL_refl _) ?_; rintro r rfl; simp only [go_sem, Nat.reduceBEq]) | (guard_target =~ Con.call _ 119 _ _ _ _; refine call_pure2 hC (isPlace_sem ..) rfl (PVleL_refl _) ?_; rintro r rfl; simp only [go_sem, Nat.reduceBEq]))
def okBase (b : SBook) : Prop := ((1 ≤ b.front ∧ b.front ≤ 60) ∧ (1 ≤ b.back ∧ b.back ≤ 60) ∧ ((b.kind = 0 ∧ b.radius = 0) ∨ (b.kind = 1 ∧ 1 ≤ b.radius ∧ b.radius ≤ 120)))
instance (b : SBook) : Decidable (okBase b) := by unfold okBase; infer_instance
theorem validBase_sem (k k2 : SK) (b : SBook) : Sem1 101 [.agg (bookC k k2 b)] (pb (decide (okBase b))) := by
  rw [show (decide (okBase b)) = decide ((1 ≤ b.front ∧ b.front ≤ 60) ∧ (1 ≤ b.back ∧ b.back ≤ 60) ∧ ((b.kind = 0 ∧ b.radius = 0) ∨ (b.kind = 1 ∧ 1 ≤ b.radius ∧ b.radius ≤ 120))) from by simp only [okBase]]
  refine semC_of_exec' mixed Try.func101 (by kernel_rfl) (by kernel_rfl) ac101_ok 1 rfl (by decide) [(.tmp 2)] (by kernel_rfl) ?_
  intro hr C hC hI
  unfold ac101
  simp only [go_sem, Nat.reduceBEq, Nat.reduceAdd]
  repeat' (first | ((guard_target =~ retQ _ _ _ _; refine retQ_one rfl ?_; clear hr hC hI; first | (simp; done) | (simp; omega) | (simp_all; done) | (simp_all; omega))) | (guard_target =~ _ ∧ _; refine ⟨fun _ => ?_, fun _ => ?_⟩) | (guard_target =~ Con.call _ 84 _ _ _ _; refine call_pure2 hC (within_sem ..) rfl (PVleL_refl _) ?_; rintro r rfl; simp only [go_sem, Nat.reduceBEq]) | (guard_target =~ Con.call _ 119 _ _ _ _; refine call_pure2 hC (isPlace_sem ..) rfl (PVleL_refl _) ?_; rintro r rfl; simp only [go_sem, Nat.reduceBEq, Nat.reduceAdd, Nat.reduceLeDiff, Nat.reduceEqDiff, Nat.reduceMul, reduceIte]))
end Go.Proofs.Ytaejmbmkkdkliaa
namespace Go.Proofs.Ytaejmbmkkdkliaa
open Go.RowKit
def ac64 : AC := (AC.seq (AC.ops [(AOp.mk (some 1) (AK.box 10 (AX.t 0)) none 0 false true), (AOp.mk (some 2) (AK.mv (AX.c (PV.val (Value.bool false)))) none 1 false true)]) (AC.seq (AC.seq (AC.ops [(AOp.mk (some 7) (AK.ld (some 10) (AX.t 1)) none 0 false true), (AOp.mk (some 8) (AK.call 101 [(AX.t 7)]) none 1 false true), (AOp.mk (some 9) (AK.un UnOp.not (AX.t 8)) none 2 false true), (AOp.mk (some 10) (AK.mv (AX.t 9)) none 3 false true), (AOp.mk (some 11) (AK.ld (some 10) (AX.t 1)) (some (10, false)) 4 false true), (AOp.mk (some 12) (AK.call 102 [(AX.t 11)]) (some (10, false)) 5 false true), (AOp.mk (some 13) (AK.un UnOp.not (AX.t 12)) (some (10, false)) 6 false true), (AOp.mk (some 14) (AK.pick (AX.t 10) (AX.c (PV.val (Value.bool true))) (AX.t 13)) none 7 false true), (AOp.mk (some 15) (AK.mv (AX.t 14)) none 8 false true), (AOp.mk (some 16) (AK.fadr 4 (AX.t 1)) (some (15, false)) 9 false true), (AOp.mk (some 17) (AK.ld none (AX.t 16)) (some (15, false)) 10 false true), (AOp.mk (some 18) (AK.len (AX.t 17)) (some (15, false)) 11 false true), (AOp.mk (some 19) (AK.call 84 [(AX.t 18), (AX.c (PV.val (Value.int IntKind.i64 1))), (AX.c (PV.val (Value.int IntKind.i64 4)))]) (some (15, false)) 12 false true), (AOp.mk (some 20) (AK.un UnOp.not (AX.t 19)) (some (15, false)) 13 false true), (AOp.mk (some 21) (AK.pick (AX.t 15) (AX.c (PV.val (Value.bool true))) (AX.t 20)) none 14 false true), (AOp.mk (some 22) (AK.mv (AX.t 21)) none 15 false true), (AOp.mk (some 23) (AK.fadr 9 (AX.t 1)) (some (22, false)) 16 false true), (AOp.mk (some 24) (AK.ld none (AX.t 23)) (some (22, false)) 17 false true), (AOp.mk (some 25) (AK.len (AX.t 24)) (some (22, false)) 18 false true), (AOp.mk (some 26) (AK.bin false BinOp.gtr (AX.t 25) (AX.c (PV.val (Value.int IntKind.i64 5)))) (some (22, false)) 19 false true), (AOp.mk (some 27) (AK.pick (AX.t 22) (AX.c (PV.val (Value.bool true))) (AX.t 26)) none 20 false true)]) (AC.cond (AX.t 27) (AC.seq (AC.ops [(AOp.mk (some 2) (AK.mv (AX.c (PV.val (Value.bool false)))) none 0 false true)]) AC.ret) AC.skip)) (AC.seq (AC.seq (AC.ops [(AOp.mk (some 28) (AK.fadr 4 (AX.t 1)) none 0 false true), (AOp.mk (some 29) (AK.ld none (AX.t 28)) none 1 false true), (AOp.mk (some 30) (AK.len (AX.t 29)) none 2 false true), (AOp.mk (some 31) (AK.mv (AX.c (PV.val (Value.int IntKind.i64 0)))) none 3 false true)]) (AC.block 0 (AC.loop (AC.seq (AC.ops [(AOp.mk (some 32) (AK.bin false BinOp.lss (AX.t 31) (AX.t 30)) none 0 false true)]) (AC.seq (AC.cond (AX.t 32) AC.skip (AC.exit 0)) (AC.seq (AC.block 1 (AC.seq (AC.ops [(AOp.mk (some 33) (AK.iadrS 4 (AX.t 29) (AX.t 31)) none 0 false true), (AOp.mk (some 34) (AK.ld (some 4) (AX.t 33)) none 1 false true), (AOp.mk (some 4) (AK.new (PV.agg [(PV.val (Value.int IntKind.i64 0)), (PV.val (Value.int IntKind.i64 0)), (PV.val (Value.int IntKind.i64 0)), (PV.val (Value.int IntKind.i64 0))])) none 2 false true), (AOp.mk none (AK.st 4 (AX.t 4) (AX.t 34)) none 3 false true)]) (AC.seq (AC.ops [(AOp.mk (some 35) (AK.ld (some 4) (AX.t 4)) none 0 false true), (AOp.mk (some 36) (AK.call 103 [(AX.t 35)]) none 1 false true), (AOp.mk (some 37) (AK.un UnOp.not (AX.t 36)) none 2 false true)]) (AC.cond (AX.t 37) (AC.seq (AC.ops [(AOp.mk (some 2) (AK.mv (AX.c (PV.val (Value.bool false)))) none 0 false true)]) AC.ret) AC.skip)))) (AC.ops [(AOp.mk (some 38) (AK.bin false BinOp.add (AX.t 31) (AX.c (PV.val (Value.int IntKind.i64 1)))) none 0 false true), (AOp.mk (some 31) (AK.mv (AX.t 38)) none 1 false true)]))))))) (AC.seq (AC.seq (AC.ops [(AOp.mk (some 39) (AK.fadr 9 (AX.t 1)) none 0 false true), (AOp.mk (some 40) (AK.ld none (AX.t 39)) none 1 false true), (AOp.mk (some 41) (AK.len (AX.t 40)) none 2 false true), (AOp.mk (some 42) (AK.mv (AX.c (PV.val (Value.int IntKind.i64 0)))) none 3 false true)]) (AC.block 2 (AC.loop (AC.seq (AC.ops [(AOp.mk (some 43) (AK.bin false BinOp.lss (AX.t 42) (AX.t 41)) none 0 false true)]) (AC.seq (AC.cond (AX.t 43) AC.skip (AC.exit 2)) (AC.seq (AC.block 3 (AC.seq (AC.ops [(AOp.mk (some 44) (AK.iadrS 3 (AX.t 40) (AX.t 42)) none 0 false true), (AOp.mk (some 45) (AK.ld (some 3) (AX.t 44)) none 1 false true), (AOp.mk (some 6) (AK.new (PV.agg [(PV.val (Value.int IntKind.i64 0)), (PV.val (Value.int IntKind.i64 0)), (PV.val (Value.bool false))])) none 2 false true), (AOp.mk none (AK.st 3 (AX.t 6) (AX.t 45)) none 3 false true)]) (AC.seq (AC.ops [(AOp.mk (some 46) (AK.ld (some 10) (AX.t 1)) none 0 false true), (AOp.mk (some 47) (AK.fadr 0 (AX.t 6)) none 1 false true), (AOp.mk (some 48) (AK.ld none (AX.t 47)) none 2 false true), (AOp.mk (some 49) (AK.call 69 [(AX.t 46), (AX.t 48)]) none 3 false true), (AOp.mk (some 50) (AK.un UnOp.not (AX.t 49)) none 4 false true), (AOp.mk (some 51) (AK.mv (AX.t 50)) none 5 false true), (AOp.mk (some 52) (AK.ld (some 10) (AX.t 1)) (some (51, false)) 6 false true), (AOp.mk (some 53) (AK.fadr 1 (AX.t 6)) (some (51, false)) 7 false true), (AOp.mk (some 54) (AK.ld none (AX.t 53)) (some (51, false)) 8 false true), (AOp.mk (some 55) (AK.call 70 [(AX.t 52), (AX.t 54)]) (some (51, false)) 9 false true), (AOp.mk (some 56) (AK.un UnOp.not (AX.t 55)) (some (51, false)) 10 false true), (AOp.mk (some 57) (AK.pick (AX.t 51) (AX.c (PV.val (Value.bool true))) (AX.t 56)) none 11 false true)]) (AC.cond (AX.t 57) (AC.seq (AC.ops [(AOp.mk (some 2) (AK.mv (AX.c (PV.val (Value.bool false)))) none 0 false true)]) AC.ret) AC.skip)))) (AC.ops [(AOp.mk (some 58) (AK.bin false BinOp.add (AX.t 42) (AX.c (PV.val (Value.int IntKind.i64 1)))) none 0 false true), (AOp.mk (some 42) (AK.mv (AX.t 58)) none 1 false true)]))))))) (AC.seq (AC.ops [(AOp.mk (some 2) (AK.mv (AX.c (PV.val (Value.bool true)))) none 0 false true)]) AC.ret)))))
theorem ac64_ok : cCode Try.prog (fun _ => false) Try.f64.ntmps (Try.f64.body.getD .skip) = some ac64 := by kernel_rfl
def ac18 : AC := (AC.seq (AC.ops [(AOp.mk (some 1) (AK.box 10 (AX.t 0)) none 0 false true), (AOp.mk (some 2) (AK.mv (AX.c (PV.val (Value.int IntKind.i64 0)))) none 1 false true)]) (AC.seq (AC.seq (AC.ops [(AOp.mk (some 3) (AK.ld (some 10) (AX.t 1)) none 0 false true), (AOp.mk (some 4) (AK.call 64 [(AX.t 3)]) none 1 false true), (AOp.mk (some 5) (AK.un UnOp.not (AX.t 4)) none 2 false true)]) (AC.cond (AX.t 5) (AC.seq (AC.ops [(AOp.mk (some 2) (AK.mv (AX.c (PV.val (Value.int IntKind.i64 20)))) none 0 false true)]) AC.ret) AC.skip)) (AC.seq (AC.ops [(AOp.mk (some 2) (AK.mv (AX.c (PV.val (Value.int IntKind.i64 0)))) none 0 false true)]) AC.ret)))
theorem ac18_ok : cCode Try.prog (fun _ => false) Try.f18.ntmps (Try.f18.body.getD .skip) = some ac18 := by kernel_rfl
def okTrial (b : SBook) (t : STrial) : Prop := (1 ≤ t.weight ∧ t.weight ≤ b.limit) ∧ -b.lean ≤ t.lean ∧ t.lean ≤ b.lean
instance (b : SBook) (t : STrial) : Decidable (okTrial b t) := by unfold okTrial; infer_instance
def okSeat (b : SBook) : Prop := ((-60 ≤ b.along ∧ b.along ≤ 60) ∧ 0 ≤ b.high ∧ b.high ≤ 60) ∧ (0 ≤ b.lean ∧ b.lean ≤ 12) ∧ 1 ≤ b.limit ∧ b.limit ≤ 60
def okBook (b : SBook) : Prop := okBase b ∧ okSeat b ∧ (1 ≤ b.parts.length ∧ b.parts.length ≤ 4) ∧ b.trials.length ≤ 5 ∧ (∀ p ∈ b.parts, okPart p) ∧ ∀ t ∈ b.trials, okTrial b t
instance (b : SBook) : Decidable (okSeat b) := by unfold okSeat; infer_instance
instance (b : SBook) : Decidable (okBook b) := by unfold okBook; infer_instance
theorem validBook_sem (k k2 : SK) (b : SBook) : Sem1 64 [.agg (bookC k k2 b)] (pb (decide (okBook b))) := by
  refine semC_of_exec' mixed Try.func64 (by kernel_rfl) (by kernel_rfl) ac64_ok 1 rfl (by decide) [(.tmp 2)] (by kernel_rfl) ?_
  intro hr C hC hI
  unfold ac64
  simp only [go_sem, Nat.reduceBEq, Nat.reduceAdd]
  have leaf : ¬ okBook b → pb (decide (okBook b)) = pb false := fun h => by simp [h]
  refine call_pure2 hC (validBase_sem ..) rfl (PVleL_refl _) ?_
  rintro r rfl
  simp only [go_sem, Nat.reduceBEq, Nat.reduceAdd]
  refine ⟨fun h1 => ?_, fun h1 => ?_⟩
  rotate_left
  · exact retQ_one rfl (leaf (fun h => h1 h.1)).symm
  refine call_pure2 hC (validSeat_sem ..) rfl (PVleL_refl _) ?_
  rintro r rfl
  simp only [go_sem, Nat.reduceBEq, List.length_map]
  refine ⟨fun h2 => ?_, fun h2 => ?_⟩
  rotate_left
  · exact retQ_one rfl (leaf (fun h => h2 h.2.1)).symm
  refine call_pure2 hC (within_sem ..) rfl (PVleL_refl _) ?_
  rintro r rfl
  simp only [go_sem, Nat.reduceBEq, List.length_map]
  refine ⟨fun h3 => ?_, fun h3 => ?_⟩
  rotate_left
  · exact retQ_one rfl (leaf (fun h => h3 (by have := h.2.2.1; omega))).symm
  refine ⟨fun h4 => ?_, fun h4 => ?_⟩
  · exact retQ_one rfl (leaf (fun h => by have := h.2.2.2.1; omega)).symm
  refine loop_nat b.parts.length (fun j => ∀ i, i < j → ∀ p, b.parts[i]? = some p → okPart p) (fun j => ⟨[(31, .p (pi j)), (30, .p (pi b.parts.length)), (29, .p (.sl k 4 (b.parts.map partC))), (1, .loc 0 0)], [.cells ((bookC k k2 b).map .p)], [], some [], 0⟩) (by omega) (by simp [Wk, wkT, wkL, look, AV.lo, AV.lo.loL]) ?_
  rintro j ⟨hj, hI0⟩
  simp only [go_sem, Nat.reduceBEq]
  refine ⟨fun h5 => ?_, fun h5 => ?_⟩
  · have hj2 : j < b.parts.length := by omega
    simp only [go_sem, Nat.reduceBEq, Nat.reduceAdd, iadr_map hj2, partC]
    refine call_pure2 hC (validPart_sem ..) rfl (PVleL_refl _) ?_
    rintro r rfl
    simp only [go_sem, Nat.reduceBEq, wrap_succ (k := j) (by omega)]
    refine ⟨fun h6 => ?_, fun h6 => ?_⟩
    · exact retQ_one rfl (leaf (fun h => h6 (h.2.2.2.2.1 _ (List.getElem_mem hj2)))).symm
    · refine ⟨⟨j + 1, hj2, fun i hi p hp => ?_⟩, by simp only; omega, by simp [Wk, wkT, wkL, look, AV.lo, AV.lo.loL]⟩
      rcases Nat.lt_succ_iff_lt_or_eq.1 hi with hi | rfl
      · exact hI0 i hi p hp
      · rw [List.getElem?_eq_getElem hj2] at hp
        simp only [Option.some.injEq] at hp
        subst hp
        exact h6
  · have hjn : j = b.parts.length := by omega
    subst hjn
    have hparts : ∀ p ∈ b.parts, okPart p := fun p hp => by
      obtain ⟨i, hi⟩ := List.mem_iff_getElem?.1 hp
      exact hI0 i (List.getElem?_eq_some_iff.1 hi).1 p hi
    clear hI0 hj h5
    refine loop_nat b.trials.length (fun j => ∀ i, i < j → ∀ p, b.trials[i]? = some p → okTrial b p) (fun j => ⟨[(42, .p (pi j)), (41, .p (pi b.trials.length)), (40, .p (.sl k2 3 (b.trials.map trialC))), (1, .loc 0 0)], [.cells ((bookC k k2 b).map .p)], [], some [], 0⟩) (by omega) (by simp [Wk, wkT, wkL, look, AV.lo, AV.lo.loL]) ?_
    rintro j ⟨hj, hI0⟩
    simp only [go_sem, Nat.reduceBEq]
    refine ⟨fun h5 => ?_, fun h5 => ?_⟩
    · have hj2 : j < b.trials.length := by omega
      have hl := h2.2.1
      simp only [go_sem, Nat.reduceBEq, Nat.reduceAdd, iadr_map hj2, trialC]
      refine call_pure2 hC (hasWeight_sem k k2 b ..) rfl (PVleL_refl _) ?_
      rintro r rfl
      simp only [go_sem, Nat.reduceBEq, Nat.reduceAdd]
      refine ⟨fun h6 => ?_, fun h6 => ?_⟩
      · skip
        refine call_pure2 hC (hasLean_sem k k2 b _ (by omega) (by omega)) rfl (PVleL_refl _) ?_
        rintro r rfl
        simp only [go_sem, Nat.reduceBEq, wrap_succ (k := j) (by omega)]
        refine ⟨fun h7 => ?_, fun h7 => ?_⟩
        · exact retQ_one rfl (leaf (fun h => h7 (h.2.2.2.2.2 _ (List.getElem_mem hj2)).2)).symm
        · refine ⟨⟨j + 1, hj2, fun i hi p hp => ?_⟩, by simp only; omega, by simp [Wk, wkT, wkL, look, AV.lo, AV.lo.loL]⟩
          rcases Nat.lt_succ_iff_lt_or_eq.1 hi with hi | rfl
          · exact hI0 i hi p hp
          · rw [List.getElem?_eq_getElem hj2] at hp
            simp only [Option.some.injEq] at hp
            subst hp
            exact ⟨h6, h7⟩
      · exact retQ_one rfl (leaf (fun h => h6 (h.2.2.2.2.2 _ (List.getElem_mem hj2)).1)).symm
    · have hjn : j = b.trials.length := by omega
      subst hjn
      refine retQ_one rfl ?_
      have : okBook b := ⟨h1, h2, by omega, by omega, hparts, fun p hp => by
        obtain ⟨i, hi⟩ := List.mem_iff_getElem?.1 hp
        exact hI0 i (List.getElem?_eq_some_iff.1 hi).1 p hi⟩
      simp [this]
theorem Check_sem (k k2 : SK) (b : SBook) : Sem1 18 [.agg (bookC k k2 b)] (pi (if okBook b then 0 else 20)) := by
  refine semC_of_exec' mixed Try.func18 (by kernel_rfl) (by kernel_rfl) ac18_ok 1 rfl (by decide) [(.tmp 2)] (by kernel_rfl) ?_
  intro hr C hC hI
  unfold ac18
  simp only [go_sem, Nat.reduceBEq, Nat.reduceAdd]
  refine call_pure2 hC (validBook_sem ..) rfl (PVleL_refl _) ?_
  rintro r rfl
  simp only [go_sem, Nat.reduceBEq]
  refine ⟨fun h => retQ_one rfl (by simp [h]), fun h => retQ_one rfl (by simp [h])⟩
end Go.Proofs.Ytaejmbmkkdkliaa
