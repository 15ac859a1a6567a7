/- Contracts of maker: sets, lists, what a book in the calculation has. -/
import Derived.Test.YtlbolnlcncjijaaGa17
import Derived.Test.YtlbolnlcncjijaaTa04
namespace Go.Proofs.Ytlbolnlcncjijaa.Mk
open Go.RowKit Ls
def ac65 : AC := (AC.seq (AC.ops [(AOp.mk (some 4) (AK.mv (AX.c (PV.val (Value.bool false)))) none 0 false true)]) (AC.seq (AC.ops [(AOp.mk (some 5) (AK.mv (AX.t 0)) none 0 false true), (AOp.mk (some 6) (AK.mv (AX.t 1)) none 1 false true), (AOp.mk (some 7) (AK.bin false BinOp.shr (AX.t 5) (AX.t 6)) none 2 false true), (AOp.mk (some 8) (AK.bin false BinOp.and (AX.t 7) (AX.c (PV.val (Value.int IntKind.i64 1)))) none 3 false true), (AOp.mk (some 9) (AK.bin false BinOp.eql (AX.t 8) (AX.c (PV.val (Value.int IntKind.i64 1)))) none 4 false true), (AOp.mk (some 4) (AK.mv (AX.t 9)) none 5 false true)]) AC.ret))
theorem ac65_ok : cCode Try.prog (fun _ => false) Try.f65.ntmps (Try.f65.body.getD .skip) = some ac65 := by kernel_rfl
def ac95 : AC := (AC.seq (AC.ops [(AOp.mk (some 0) (AK.new (PV.agg [(PV.val (Value.int IntKind.i64 0)), (PV.val (Value.int IntKind.i64 0)), (PV.val (Value.int IntKind.i64 0)), (PV.val (Value.int IntKind.i64 0)), (PV.val (Value.int IntKind.i64 0)), (PV.val (Value.int IntKind.i64 0))])) none 0 false true)]) (AC.seq (AC.ops [(AOp.mk (some 1) (AK.new (PV.agg [(PV.val (Value.int IntKind.i64 0)), (PV.val (Value.int IntKind.i64 0)), (PV.val (Value.int IntKind.i64 0)), (PV.val (Value.int IntKind.i64 0)), (PV.val (Value.int IntKind.i64 0)), (PV.val (Value.int IntKind.i64 0))])) none 0 false true)]) (AC.seq (AC.seq (AC.ops [(AOp.mk (some 3) (AK.mv (AX.c (PV.val (Value.int IntKind.i64 0)))) none 0 false true)]) (AC.block 0 (AC.loop (AC.seq (AC.ops [(AOp.mk (some 4) (AK.bin false BinOp.lss (AX.t 3) (AX.c (PV.val (Value.int IntKind.i64 6)))) none 0 false true)]) (AC.seq (AC.cond (AX.t 4) AC.skip (AC.exit 0)) (AC.seq (AC.block 1 (AC.seq (AC.ops [(AOp.mk (some 5) (AK.mv (AX.t 3)) none 0 false true), (AOp.mk (some 2) (AK.mv (AX.t 5)) none 1 false true)]) (AC.ops [(AOp.mk (some 6) (AK.mv (AX.t 2)) none 0 false true), (AOp.mk (some 7) (AK.iadrA 1 6 (AX.t 1) (AX.t 6)) none 1 false true), (AOp.mk none (AK.st 1 (AX.t 7) (AX.c (PV.val (Value.int IntKind.i64 31)))) none 2 false true)]))) (AC.ops [(AOp.mk (some 8) (AK.bin false BinOp.add (AX.t 3) (AX.c (PV.val (Value.int IntKind.i64 1)))) none 0 false true), (AOp.mk (some 3) (AK.mv (AX.t 8)) none 1 false true)]))))))) (AC.seq (AC.ops [(AOp.mk (some 9) (AK.ld (some 6) (AX.t 1)) none 0 false true), (AOp.mk none (AK.st 6 (AX.t 0) (AX.t 9)) none 1 false true)]) AC.ret))))
theorem ac95_ok : cCode Try.prog (fun _ => false) Try.f95.ntmps (Try.f95.body.getD .skip) = some ac95 := by kernel_rfl
def ac96 : AC := (AC.seq (AC.ops [(AOp.mk (some 4) (AK.mv (AX.c (PV.val (Value.int IntKind.i64 0)))) none 0 false true)]) (AC.seq (AC.seq (AC.ops [(AOp.mk (some 6) (AK.mv (AX.t 0)) none 0 false true), (AOp.mk (some 7) (AK.len (AX.t 6)) none 1 false true), (AOp.mk (some 8) (AK.mv (AX.c (PV.val (Value.int IntKind.i64 0)))) none 2 false true)]) (AC.block 0 (AC.loop (AC.seq (AC.ops [(AOp.mk (some 9) (AK.bin false BinOp.lss (AX.t 8) (AX.t 7)) none 0 false true)]) (AC.seq (AC.cond (AX.t 9) AC.skip (AC.exit 0)) (AC.seq (AC.block 1 (AC.seq (AC.ops [(AOp.mk (some 10) (AK.mv (AX.t 8)) none 0 false true), (AOp.mk (some 5) (AK.mv (AX.t 10)) none 1 false true)]) (AC.seq (AC.ops [(AOp.mk (some 11) (AK.mv (AX.t 1)) none 0 false true), (AOp.mk (some 12) (AK.mv (AX.t 0)) none 1 false true), (AOp.mk (some 13) (AK.mv (AX.t 5)) none 2 false true), (AOp.mk (some 14) (AK.iadrS 1 (AX.t 12) (AX.t 13)) none 3 false true), (AOp.mk (some 15) (AK.ld none (AX.t 14)) none 4 false true), (AOp.mk (some 16) (AK.bin false BinOp.eql (AX.t 11) (AX.t 15)) none 5 false true)]) (AC.cond (AX.t 16) (AC.seq (AC.ops [(AOp.mk (some 17) (AK.mv (AX.t 5)) none 0 false true), (AOp.mk (some 4) (AK.mv (AX.t 17)) none 1 false true)]) AC.ret) AC.skip)))) (AC.ops [(AOp.mk (some 18) (AK.bin false BinOp.add (AX.t 8) (AX.c (PV.val (Value.int IntKind.i64 1)))) none 0 false true), (AOp.mk (some 8) (AK.mv (AX.t 18)) none 1 false true)]))))))) (AC.seq (AC.ops [(AOp.mk (some 4) (AK.mv (AX.c (PV.val (Value.int IntKind.i64 (-1))))) none 0 false true)]) AC.ret)))
theorem ac96_ok : cCode Try.prog (fun _ => false) Try.f96.ntmps (Try.f96.body.getD .skip) = some ac96 := by kernel_rfl
def ac69 : AC := (AC.seq (AC.ops [(AOp.mk (some 4) (AK.mv (AX.c (PV.val (Value.bool false)))) none 0 false true)]) (AC.seq (AC.ops [(AOp.mk (some 5) (AK.mv (AX.t 0)) none 0 false true), (AOp.mk (some 6) (AK.mv (AX.t 1)) none 1 false true), (AOp.mk (some 7) (AK.call 96 [(AX.t 5), (AX.t 6)]) none 2 false true), (AOp.mk (some 8) (AK.bin false BinOp.geq (AX.t 7) (AX.c (PV.val (Value.int IntKind.i64 0)))) none 3 false true), (AOp.mk (some 4) (AK.mv (AX.t 8)) none 4 false true)]) AC.ret))
theorem ac69_ok : cCode Try.prog (fun _ => false) Try.f69.ntmps (Try.f69.body.getD .skip) = some ac69 := by kernel_rfl
def ac40 : AC := (AC.seq (AC.ops [(AOp.mk (some 1) (AK.box 6 (AX.t 0)) none 0 false true), (AOp.mk (some 2) (AK.mv (AX.c (PV.val (Value.bool false)))) none 1 false true)]) (AC.seq (AC.ops [(AOp.mk (some 3) (AK.slcA 1 6 (AX.t 1) none none) none 0 false true), (AOp.mk (some 4) (AK.call 69 [(AX.t 3), (AX.c (PV.val (Value.int IntKind.i64 0)))]) none 1 false true), (AOp.mk (some 2) (AK.mv (AX.t 4)) none 2 false true)]) AC.ret))
theorem ac40_ok : cCode Try.prog (fun _ => false) Try.f40.ntmps (Try.f40.body.getD .skip) = some ac40 := by kernel_rfl
def ac76 : AC := (AC.seq (AC.ops [(AOp.mk (some 2) (AK.box 6 (AX.t 0)) none 0 false true), (AOp.mk (some 3) (AK.box 6 (AX.t 1)) none 1 false true), (AOp.mk (some 4) (AK.new (PV.agg [(PV.val (Value.int IntKind.i64 0)), (PV.val (Value.int IntKind.i64 0)), (PV.val (Value.int IntKind.i64 0)), (PV.val (Value.int IntKind.i64 0)), (PV.val (Value.int IntKind.i64 0)), (PV.val (Value.int IntKind.i64 0))])) none 2 false true)]) (AC.seq (AC.seq (AC.ops [(AOp.mk (some 6) (AK.mv (AX.c (PV.val (Value.int IntKind.i64 0)))) none 0 false true)]) (AC.block 0 (AC.loop (AC.seq (AC.ops [(AOp.mk (some 7) (AK.bin false BinOp.lss (AX.t 6) (AX.c (PV.val (Value.int IntKind.i64 6)))) none 0 false true)]) (AC.seq (AC.cond (AX.t 7) AC.skip (AC.exit 0)) (AC.seq (AC.block 1 (AC.seq (AC.ops [(AOp.mk (some 8) (AK.mv (AX.t 6)) none 0 false true), (AOp.mk (some 5) (AK.mv (AX.t 8)) none 1 false true)]) (AC.ops [(AOp.mk (some 9) (AK.mv (AX.t 5)) none 0 true false), (AOp.mk (some 10) (AK.iadrA 1 6 (AX.t 2) (AX.t 9)) none 1 true false), (AOp.mk (some 11) (AK.ld none (AX.t 10)) none 2 true false), (AOp.mk (some 12) (AK.mv (AX.t 5)) none 3 true false), (AOp.mk (some 13) (AK.iadrA 1 6 (AX.t 3) (AX.t 12)) none 4 true false), (AOp.mk (some 14) (AK.ld none (AX.t 13)) none 5 true false), (AOp.mk (some 15) (AK.bin false BinOp.and (AX.t 11) (AX.t 14)) none 6 true true), (AOp.mk (some 16) (AK.iadrA 1 6 (AX.t 2) (AX.t 9)) none 7 true true), (AOp.mk none (AK.st 1 (AX.t 16) (AX.t 15)) none 8 false true)]))) (AC.ops [(AOp.mk (some 17) (AK.bin false BinOp.add (AX.t 6) (AX.c (PV.val (Value.int IntKind.i64 1)))) none 0 false true), (AOp.mk (some 6) (AK.mv (AX.t 17)) none 1 false true)]))))))) (AC.seq (AC.ops [(AOp.mk (some 18) (AK.ld (some 6) (AX.t 2)) none 0 false true), (AOp.mk none (AK.st 6 (AX.t 4) (AX.t 18)) none 1 false true)]) AC.ret)))
theorem ac76_ok : cCode Try.prog (fun _ => false) Try.f76.ntmps (Try.f76.body.getD .skip) = some ac76 := by kernel_rfl
def ac90 : AC := (AC.seq (AC.ops [(AOp.mk (some 2) (AK.mv (AX.c (PV.sl SK.full 0 []))) none 0 false true)]) (AC.seq (AC.ops [(AOp.mk (some 4) (AK.mv (AX.t 0)) none 0 false true), (AOp.mk (some 5) (AK.len (AX.t 4)) none 1 false true), (AOp.mk (some 3) (AK.mv (AX.t 5)) none 2 false true)]) (AC.seq (AC.ops [(AOp.mk (some 6) (AK.mv (AX.t 0)) none 0 false true), (AOp.mk (some 7) (AK.mv (AX.t 3)) none 1 false true), (AOp.mk (some 8) (AK.mv (AX.t 3)) none 2 false true), (AOp.mk (some 9) (AK.slc 1 (AX.t 6) none (some (AX.t 7)) (some (AX.t 8))) none 3 false true), (AOp.mk (some 2) (AK.mv (AX.t 9)) none 4 false true)]) AC.ret)))
theorem ac90_ok : cCode Try.prog (fun _ => false) Try.f90.ntmps (Try.f90.body.getD .skip) = some ac90 := by kernel_rfl
def ac60 : AC := (AC.seq (AC.ops [(AOp.mk (some 4) (AK.mv (AX.c (PV.sl SK.full 0 []))) none 0 false true)]) (AC.seq (AC.ops [(AOp.mk (some 5) (AK.mv (AX.c (PV.sl SK.full 0 []))) none 0 false true)]) (AC.seq (AC.seq (AC.ops [(AOp.mk (some 7) (AK.mv (AX.t 0)) none 0 false true), (AOp.mk (some 8) (AK.mv (AX.c (PV.val (Value.int IntKind.i64 0)))) none 1 false true)]) (AC.block 0 (AC.loop (AC.seq (AC.ops [(AOp.mk (some 9) (AK.bin false BinOp.lss (AX.t 8) (AX.t 7)) none 0 false true)]) (AC.seq (AC.cond (AX.t 9) AC.skip (AC.exit 0)) (AC.seq (AC.block 1 (AC.seq (AC.ops [(AOp.mk (some 10) (AK.mv (AX.t 8)) none 0 false true), (AOp.mk (some 6) (AK.mv (AX.t 10)) none 1 false true)]) (AC.seq (AC.ops [(AOp.mk (some 11) (AK.mv (AX.t 1)) none 0 false true), (AOp.mk (some 12) (AK.mv (AX.t 6)) none 1 false true), (AOp.mk (some 13) (AK.callv (AX.t 11) [(AX.t 12)]) none 2 false true)]) (AC.cond (AX.t 13) (AC.ops [(AOp.mk (some 14) (AK.mv (AX.t 5)) none 0 false true), (AOp.mk (some 15) (AK.mv (AX.t 6)) none 1 false true), (AOp.mk (some 16) (AK.bslice false 3 1 1 [(PV.val (Value.int IntKind.i64 0))] [(0, (1, (AX.t 15)))]) none 2 false true), (AOp.mk (some 17) (AK.app false 3 1 8 [(PV.val (Value.int IntKind.i64 0))] (AX.t 14) (AX.t 16)) none 3 false true), (AOp.mk (some 5) (AK.mv (AX.t 17)) none 4 false true)]) AC.skip)))) (AC.ops [(AOp.mk (some 18) (AK.bin false BinOp.add (AX.t 8) (AX.c (PV.val (Value.int IntKind.i64 1)))) none 0 false true), (AOp.mk (some 8) (AK.mv (AX.t 18)) none 1 false true)]))))))) (AC.seq (AC.ops [(AOp.mk (some 19) (AK.mv (AX.t 5)) none 0 false true), (AOp.mk (some 20) (AK.call 90 [(AX.t 19)]) none 1 false true), (AOp.mk (some 4) (AK.mv (AX.t 20)) none 2 false true)]) AC.ret))))
theorem ac60_ok : cCode Try.prog (fun _ => false) Try.f60.ntmps (Try.f60.body.getD .skip) = some ac60 := by kernel_rfl
def ac105 : AC := (AC.seq (AC.ops [(AOp.mk (some 4) (AK.mv (AX.c (PV.sl SK.full 0 []))) none 0 false true)]) (AC.seq (AC.ops [(AOp.mk (some 5) (AK.mv (AX.t 0)) none 0 false true), (AOp.mk (some 6) (AK.mv (AX.t 0)) none 1 false true), (AOp.mk (some 7) (AK.len (AX.t 6)) none 2 false true), (AOp.mk (some 8) (AK.mv (AX.t 0)) none 3 false true), (AOp.mk (some 9) (AK.len (AX.t 8)) none 4 false true), (AOp.mk (some 10) (AK.slc 1 (AX.t 5) none (some (AX.t 7)) (some (AX.t 9))) none 5 false true), (AOp.mk (some 11) (AK.mv (AX.t 1)) none 6 false true), (AOp.mk (some 12) (AK.bslice false 3 1 1 [(PV.val (Value.int IntKind.i64 0))] [(0, (1, (AX.t 11)))]) none 7 false true), (AOp.mk (some 13) (AK.app false 3 1 8 [(PV.val (Value.int IntKind.i64 0))] (AX.t 10) (AX.t 12)) none 8 false true), (AOp.mk (some 4) (AK.mv (AX.t 13)) none 9 false true)]) AC.ret))
theorem ac105_ok : cCode Try.prog (fun _ => false) Try.f105.ntmps (Try.f105.body.getD .skip) = some ac105 := by kernel_rfl
def ac70 : AC := (AC.seq (AC.ops [(AOp.mk (some 2) (AK.mv (AX.c (PV.val (Value.int IntKind.i64 0)))) none 0 false true)]) (AC.seq (AC.ops [(AOp.mk (some 3) (AK.mv (AX.t 0)) none 0 false true), (AOp.mk (some 4) (AK.nilc (AX.t 3)) none 1 false true), (AOp.mk (some 5) (AK.fadr 0 (AX.t 4)) none 2 false true), (AOp.mk (some 6) (AK.ld (some 4) (AX.t 5)) none 3 false true), (AOp.mk (some 7) (AK.call 62 [(AX.t 6)]) none 4 false true), (AOp.mk (some 2) (AK.mv (AX.t 7)) none 5 false true)]) AC.ret))
theorem ac70_ok : cCode Try.prog (fun _ => false) Try.f70.ntmps (Try.f70.body.getD .skip) = some ac70 := by kernel_rfl
def ac92 : AC := (AC.seq (AC.ops [(AOp.mk (some 2) (AK.mv (AX.c (PV.val (Value.int IntKind.i64 0)))) none 0 false true)]) (AC.seq (AC.ops [(AOp.mk (some 3) (AK.mv (AX.t 0)) none 0 false true), (AOp.mk (some 4) (AK.nilc (AX.t 3)) none 1 false true), (AOp.mk (some 5) (AK.fadr 0 (AX.t 4)) none 2 false true), (AOp.mk (some 6) (AK.fadr 3 (AX.t 5)) none 3 false true), (AOp.mk (some 7) (AK.ld none (AX.t 6)) none 4 false true), (AOp.mk (some 2) (AK.mv (AX.t 7)) none 5 false true)]) AC.ret))
theorem ac92_ok : cCode Try.prog (fun _ => false) Try.f92.ntmps (Try.f92.body.getD .skip) = some ac92 := by kernel_rfl
theorem has_sem (s k : Nat) (hk : k ≤ 64) : Sem1 65 [pi s, pi k] (pb (s.testBit k)) := by
  refine semC_of_exec' mixed Try.func65 (by kernel_rfl) (by kernel_rfl) ac65_ok 2 rfl (by decide) [(.tmp 4)] (by kernel_rfl) ?_
  intro hr C hC hI
  unfold ac65
  simp only [go_sem, Nat.reduceBEq, bin_shr (show ¬ (k : Int) < 0 by omega), bin_and]
  refine retQ_one rfl ?_
  rw [← of_bit hk]
  exact congrArg (fun x : Int => pb (decide (x = 1))) (and1 ((s : Int).fdiv (2 ^ min (k : Int).toNat 64)))
theorem and_nat {x y : Nat} (hx : x < 9223372036854775808) (hy : y < 9223372036854775808) : IntKind.i64.wrap ((BitVec.ofInt 64 (x : Int) &&& BitVec.ofInt 64 (y : Int)).toNat : Int) = ((x &&& y : Nat) : Int) := by
  have e : (BitVec.ofInt 64 (x : Int) &&& BitVec.ofInt 64 (y : Int)).toNat = x &&& y := by
    rw [BitVec.ofInt_natCast, BitVec.ofInt_natCast, BitVec.toNat_and, BitVec.toNat_ofNat, BitVec.toNat_ofNat, Nat.mod_eq_of_lt (by omega), Nat.mod_eq_of_lt (by omega)]
  rw [e]
  have : x &&& y ≤ x := Nat.and_le_left
  exact wrap_id (by omega) (by omega)
theorem bin_andN {x y : Nat} (hx : x < 9223372036854775808) (hy : y < 9223372036854775808) : binS false .and (.p (pi x)) (.p (pi y)) = some (.p (pi ((x &&& y : Nat) : Int))) := by
  rw [bin_and]
  exact congrArg (fun n => some (AV.p (pi n))) (and_nat hx hy)
abbrev arr6 (f : Nat → Nat) : List PV := [pi (f 0), pi (f 1), pi (f 2), pi (f 3), pi (f 4), pi (f 5)]
theorem lt6 {i : Nat} (h : i < 6) : i = 0 ∨ i = 1 ∨ i = 2 ∨ i = 3 ∨ i = 4 ∨ i = 5 := by omega
theorem ia6 {id o i : Nat} (h : i < 6) : iadrAS 1 6 (.loc id o) (.p (pi i)) = some (.loc id (o + i)) := by
  rw [iadrA_loc' h]; simp
theorem ia6_0 {id o : Nat} : iadrAS 1 6 (.loc id o) (.p (PV.val (Value.int IntKind.i64 0))) = some (.loc id (o + 0)) := ia6 (i := 0) (by decide)
theorem ia6_1 {id o : Nat} : iadrAS 1 6 (.loc id o) (.p (PV.val (Value.int IntKind.i64 1))) = some (.loc id (o + 1)) := ia6 (i := 1) (by decide)
theorem ia6_2 {id o : Nat} : iadrAS 1 6 (.loc id o) (.p (PV.val (Value.int IntKind.i64 2))) = some (.loc id (o + 2)) := ia6 (i := 2) (by decide)
theorem ia6_3 {id o : Nat} : iadrAS 1 6 (.loc id o) (.p (PV.val (Value.int IntKind.i64 3))) = some (.loc id (o + 3)) := ia6 (i := 3) (by decide)
theorem ia6_4 {id o : Nat} : iadrAS 1 6 (.loc id o) (.p (PV.val (Value.int IntKind.i64 4))) = some (.loc id (o + 4)) := ia6 (i := 4) (by decide)
theorem ia6_5 {id o : Nat} : iadrAS 1 6 (.loc id o) (.p (PV.val (Value.int IntKind.i64 5))) = some (.loc id (o + 5)) := ia6 (i := 5) (by decide)
theorem wl1 : IntKind.i64.wrap 1 = 1 := rfl
theorem wl2 : IntKind.i64.wrap 2 = 2 := rfl
theorem wl3 : IntKind.i64.wrap 3 = 3 := rfl
theorem wl4 : IntKind.i64.wrap 4 = 4 := rfl
theorem wl5 : IntKind.i64.wrap 5 = 5 := rfl
theorem wl6 : IntKind.i64.wrap 6 = 6 := rfl
theorem allValues_sem : Sem1 95 [] (.agg (arr6 fun _ => 31)) := by
  refine semC_of_exec' mixed Try.func95 (by kernel_rfl) (by kernel_rfl) ac95_ok 0 rfl (by decide) [(.cell 0 71)] (by kernel_rfl) ?_
  intro hr C hC hI
  unfold ac95
  simp only [go_sem]
  refine loop_kl 6 (fun _ => True) [0, 1] (fun i => [(3, .p (pi i))]) (fun i => [.cells [.p (pi 0), .p (pi 0), .p (pi 0), .p (pi 0), .p (pi 0), .p (pi 0)], .cells [.p (pi (if 0 < i then 31 else 0)), .p (pi (if 1 < i then 31 else 0)), .p (pi (if 2 < i then 31 else 0)), .p (pi (if 3 < i then 31 else 0)), .p (pi (if 4 < i then 31 else 0)), .p (pi (if 5 < i then 31 else 0))]]) trivial (by simp [Wk, wkT, wkL, look, AV.lo, AV.lo.loL, upS_eq, keepS_nil, keepS_cons]) ?_
  rintro i ⟨hi, -⟩
  have h7 : i = 0 ∨ i = 1 ∨ i = 2 ∨ i = 3 ∨ i = 4 ∨ i = 5 ∨ i = 6 := by omega
  rcases h7 with rfl | rfl | rfl | rfl | rfl | rfl | rfl
  · simp only [go_sem, Nat.reduceBEq, Nat.reduceAdd, Nat.reduceLeDiff, Int.cast_ofNat_Int, Nat.reduceLT, if_false, decide_true, not_false_eq_true, Int.reduceLT, ia6_0, putCells]
    exact ⟨⟨1, by omega, trivial⟩, by simp only; omega, by simp [Wk, wkT, wkL, look, AV.lo, AV.lo.loL, ABlk.toZ, wl1]⟩
  · simp only [go_sem, Nat.reduceBEq, Nat.reduceAdd, Nat.reduceLeDiff, Int.cast_ofNat_Int, Nat.reduceLT, if_true, if_false, decide_true, not_false_eq_true, Int.reduceLT, ia6_1, putCells]
    exact ⟨⟨2, by omega, trivial⟩, by simp only; omega, by simp [Wk, wkT, wkL, look, AV.lo, AV.lo.loL, ABlk.toZ, wl2]⟩
  · simp only [go_sem, Nat.reduceBEq, Nat.reduceAdd, Nat.reduceLeDiff, Int.cast_ofNat_Int, Nat.reduceLT, if_true, if_false, decide_true, not_false_eq_true, Int.reduceLT, ia6_2, putCells]
    exact ⟨⟨3, by omega, trivial⟩, by simp only; omega, by simp [Wk, wkT, wkL, look, AV.lo, AV.lo.loL, ABlk.toZ, wl3]⟩
  · simp only [go_sem, Nat.reduceBEq, Nat.reduceAdd, Nat.reduceLeDiff, Int.cast_ofNat_Int, Nat.reduceLT, if_true, if_false, decide_true, not_false_eq_true, Int.reduceLT, ia6_3, putCells]
    exact ⟨⟨4, by omega, trivial⟩, by simp only; omega, by simp [Wk, wkT, wkL, look, AV.lo, AV.lo.loL, ABlk.toZ, wl4]⟩
  · simp only [go_sem, Nat.reduceBEq, Nat.reduceAdd, Nat.reduceLeDiff, Int.cast_ofNat_Int, Nat.reduceLT, if_true, if_false, decide_true, not_false_eq_true, Int.reduceLT, ia6_4, putCells]
    exact ⟨⟨5, by omega, trivial⟩, by simp only; omega, by simp [Wk, wkT, wkL, look, AV.lo, AV.lo.loL, ABlk.toZ, wl5]⟩
  · simp only [go_sem, Nat.reduceBEq, Nat.reduceAdd, Int.cast_ofNat_Int, Nat.reduceLT, if_true, if_false, decide_true, not_false_eq_true, Int.reduceLT, ia6_5, putCells]
    exact ⟨⟨6, by omega, trivial⟩, by simp only; omega, by simp [Wk, wkT, wkL, look, AV.lo, AV.lo.loL, ABlk.toZ, wl6]⟩
  · simp only [go_sem, Nat.reduceBEq, Nat.reduceAdd, Int.cast_ofNat_Int, Nat.reduceLT, if_true, decide_false, not_false_eq_true, Int.reduceLT, putCells]
    refine retQ_cell (n := some 6) (by kernel_rfl) rfl rfl
def idxI {α : Type} (l : List α) (p : α → Bool) : Int := match l.findIdx? p with | some i => i | none => -1
theorem idxI_neg {α : Type} {l : List α} {p : α → Bool} : 0 ≤ idxI l p ↔ l.any p = true := by
  unfold idxI
  cases h : l.findIdx? p with
  | none =>
    rw [List.findIdx?_eq_none_iff] at h
    simp only [List.any_eq_true]
    constructor
    · intro h0; omega
    · rintro ⟨x, hx, hp⟩; rw [h x hx] at hp; cases hp
  | some i =>
    rw [List.findIdx?_eq_some_iff_getElem] at h
    obtain ⟨h1, h2, -⟩ := h
    simp only [List.any_eq_true]
    exact ⟨fun _ => ⟨_, List.getElem_mem h1, h2⟩, fun _ => by omega⟩
theorem idxI_dec {α : Type} {l : List α} {p : α → Bool} : decide (0 ≤ idxI l p) = l.any p := by
  have := idxI_neg (l := l) (p := p)
  cases h : l.any p
  · rw [h] at this
    exact decide_eq_false fun h0 => by have := this.1 h0; cases this
  · exact decide_eq_true (this.2 h)
theorem idxI_some {α : Type} {l : List α} {p : α → Bool} {j : Nat} (h : j < l.length) (hp : p l[j] = true) (hn : ∀ x ∈ l.take j, p x = false) : idxI l p = j := by
  unfold idxI
  have : l.findIdx? p = some j := by
    rw [List.findIdx?_eq_some_iff_getElem]
    refine ⟨h, hp, fun i hi => ?_⟩
    have := hn l[i] (List.mem_iff_getElem.2 ⟨i, by rw [List.length_take]; omega, by simp⟩)
    simp [this]
  rw [this]
theorem idxI_none {α : Type} {l : List α} {p : α → Bool} (hn : ∀ x ∈ l, p x = false) : idxI l p = -1 := by
  unfold idxI
  rw [List.findIdx?_eq_none_iff.2 hn]
theorem take_next {α : Type} {l : List α} {j : Nat} (h : j < l.length) {P : α → Prop} (h1 : ∀ x ∈ l.take j, P x) (h2 : P l[j]) : ∀ x ∈ l.take (j + 1), P x := by
  intro x hx
  rw [List.take_succ_eq_append_getElem h, List.mem_append, List.mem_singleton] at hx
  rcases hx with hx | rfl
  · exact h1 x hx
  · exact h2
theorem IndexS_sem (l : List Int) (x : Int) : Sem1 96 [pis l, pi x] (pi (idxI l fun y => decide (x = y))) := by
  refine semC_of_exec' mixed Try.func96 (by kernel_rfl) (by kernel_rfl) ac96_ok 2 rfl (by decide) [(.tmp 4)] (by kernel_rfl) ?_
  intro hr C hC hI
  unfold ac96
  simp only [go_sem, Nat.reduceBEq, List.length_map]
  have hl := real_len (i := 0) hr rfl
  rw [List.length_map] at hl
  refine loop_k l.length (fun j => ∀ y ∈ l.take j, decide (x = y) = false) [0, 1, 7] (fun j => [(8, .p (pi j))]) (by simp) rfl ⟨rfl, by simp, by simp⟩ (by simp [wkT, look, AV.lo]) ?_
  rintro j ⟨hj, hok⟩
  simp only [go_sem, Nat.reduceBEq]
  refine ⟨fun h5 => ?_, fun h5 => ?_⟩
  · have hj2 : j < l.length := by omega
    simp only [go_sem, Nat.reduceBEq, iadr_pis hj2]
    refine ⟨fun h6 => ?_, fun h6 => ?_⟩
    · exact retQ_one rfl (by rw [idxI_some hj2 (p := fun y => decide (x = y)) (decide_eq_true h6) hok])
    · simp only [go_sem, wrap_succ (k := j) (by omega)]
      refine ⟨⟨j + 1, hj2, take_next hj2 hok (decide_eq_false h6)⟩, by simp only; omega, by simp [Wk, wkT, wkL, look, AV.lo]⟩
  · have hjn : j = l.length := by omega
    subst hjn
    rw [List.take_length] at hok
    exact retQ_one rfl (by rw [idxI_none hok])
theorem ContainsS_sem (l : List Int) (x : Int) : Sem1 69 [pis l, pi x] (pb (decide (x ∈ l))) := by
  refine semC_of_exec' mixed Try.func69 (by kernel_rfl) (by kernel_rfl) ac69_ok 2 rfl (by decide) [(.tmp 4)] (by kernel_rfl) ?_
  intro hr C hC hI
  unfold ac69
  simp only [go_sem, Nat.reduceBEq]
  refine call_pure2 hC (IndexS_sem l x) rfl (PVleL_refl _) ?_
  rintro r rfl
  simp only [go_sem, Nat.reduceBEq]
  refine retQ_one rfl (congrArg pb ?_)
  rw [idxI_dec, Bool.eq_iff_iff]
  simp
theorem pur_arr6 (f : Nat → Nat) : pur 100 [ABlk.cells [AV.p (pi (f 0)), AV.p (pi (f 1)), AV.p (pi (f 2)), AV.p (pi (f 3)), AV.p (pi (f 4)), AV.p (pi (f 5))]] (AV.loc 0 0) = some (.ptr (arr6 f) 0, [.frz (arr6 f)]) := rfl
abbrev int6 (f : Nat → Nat) : List Int := [(f 0 : Int), (f 1 : Int), (f 2 : Int), (f 3 : Int), (f 4 : Int), (f 5 : Int)]
def lackB (f : Nat → Nat) : Bool := decide ((0 : Int) ∈ int6 f)
theorem lack_iff {f : Nat → Nat} : lackB f = true ↔ ∃ k, k < 6 ∧ f k = 0 := by
  unfold lackB
  rw [decide_eq_true_eq]
  simp only [List.mem_cons, List.not_mem_nil, or_false]
  constructor
  · rintro (h | h | h | h | h | h)
    · exact ⟨0, by omega, by omega⟩
    · exact ⟨1, by omega, by omega⟩
    · exact ⟨2, by omega, by omega⟩
    · exact ⟨3, by omega, by omega⟩
    · exact ⟨4, by omega, by omega⟩
    · exact ⟨5, by omega, by omega⟩
  · rintro ⟨k, hk, h⟩
    rcases lt6 hk with rfl | rfl | rfl | rfl | rfl | rfl <;> simp [h]
theorem lacksSome_sem (f : Nat → Nat) : Sem1 40 [.agg (arr6 f)] (pb (lackB f)) := by
  refine semC_of_exec' mixed Try.func40 (by kernel_rfl) (by kernel_rfl) ac40_ok 1 rfl (by decide) [(.tmp 2)] (by kernel_rfl) ?_
  intro hr C hC hI
  unfold ac40
  simp only [go_sem, Nat.reduceBEq, Nat.reduceAdd, Nat.reduceMul, pur_arr6]
  refine ⟨by decide, by decide, by simp, ?_⟩
  refine call_pure2 hC (ContainsS_sem (int6 f) 0) rfl ⟨PVle.sh _ _ _, PVle.refl _, trivial⟩ ?_
  rintro r rfl
  simp only [go_sem, Nat.reduceBEq]
  refine retQ_one rfl (congrArg pb ?_)
  unfold lackB
  exact decide_eq_decide.2 (by simp)
theorem common_sem (f g : Nat → Nat) (hf : ∀ k, f k ≤ 31) (hg : ∀ k, g k ≤ 31) : Sem1 76 [.agg (arr6 f), .agg (arr6 g)] (.agg (arr6 fun k => f k &&& g k)) := by
  have e : ∀ k, binS false .and (.p (pi (f k))) (.p (pi (g k))) = some (.p (pi ((f k &&& g k : Nat) : Int))) := fun k => bin_andN (by have := hf k; omega) (by have := hg k; omega)
  refine semC_of_exec' mixed Try.func76 (by kernel_rfl) (by kernel_rfl) ac76_ok 2 rfl (by decide) [(.cell 4 71)] (by kernel_rfl) ?_
  intro hr C hC hI
  unfold ac76
  simp only [go_sem, Nat.reduceBEq, Nat.reduceAdd]
  refine loop_kl 6 (fun _ => True) [2, 3, 4] (fun i => [(6, .p (pi i))]) (fun i => [.cells [.p (pi (if 0 < i then f 0 &&& g 0 else f 0 : Nat)), .p (pi (if 1 < i then f 1 &&& g 1 else f 1 : Nat)), .p (pi (if 2 < i then f 2 &&& g 2 else f 2 : Nat)), .p (pi (if 3 < i then f 3 &&& g 3 else f 3 : Nat)), .p (pi (if 4 < i then f 4 &&& g 4 else f 4 : Nat)), .p (pi (if 5 < i then f 5 &&& g 5 else f 5 : Nat))], .cells ((arr6 g).map .p), .cells [.p (pi 0), .p (pi 0), .p (pi 0), .p (pi 0), .p (pi 0), .p (pi 0)]]) trivial (by simp [Wk, wkT, wkL, look, AV.lo, AV.lo.loL, upS_eq, keepS_nil, keepS_cons]) ?_
  rintro i ⟨hi, -⟩
  have h7 : i = 0 ∨ i = 1 ∨ i = 2 ∨ i = 3 ∨ i = 4 ∨ i = 5 ∨ i = 6 := by omega
  rcases h7 with rfl | rfl | rfl | rfl | rfl | rfl | rfl
  · simp only [go_sem, Nat.reduceBEq, Nat.reduceAdd, Nat.reduceLeDiff, Int.cast_ofNat_Int, Nat.reduceLT, Nat.lt_irrefl, if_false, decide_true, not_false_eq_true, Int.reduceLT, ia6_0, putCells, e, List.map_cons, List.map_nil]
    exact ⟨⟨1, by omega, trivial⟩, by simp only; omega, by simp [Wk, wkT, wkL, look, AV.lo, AV.lo.loL, ABlk.toZ, wl1]⟩
  · simp only [go_sem, Nat.reduceBEq, Nat.reduceAdd, Nat.reduceLeDiff, Int.cast_ofNat_Int, Nat.reduceLT, Nat.lt_irrefl, if_true, if_false, decide_true, not_false_eq_true, Int.reduceLT, ia6_1, putCells, e, List.map_cons, List.map_nil]
    exact ⟨⟨2, by omega, trivial⟩, by simp only; omega, by simp [Wk, wkT, wkL, look, AV.lo, AV.lo.loL, ABlk.toZ, wl2]⟩
  · simp only [go_sem, Nat.reduceBEq, Nat.reduceAdd, Nat.reduceLeDiff, Int.cast_ofNat_Int, Nat.reduceLT, Nat.lt_irrefl, if_true, if_false, decide_true, not_false_eq_true, Int.reduceLT, ia6_2, putCells, e, List.map_cons, List.map_nil]
    exact ⟨⟨3, by omega, trivial⟩, by simp only; omega, by simp [Wk, wkT, wkL, look, AV.lo, AV.lo.loL, ABlk.toZ, wl3]⟩
  · simp only [go_sem, Nat.reduceBEq, Nat.reduceAdd, Nat.reduceLeDiff, Int.cast_ofNat_Int, Nat.reduceLT, Nat.lt_irrefl, if_true, if_false, decide_true, not_false_eq_true, Int.reduceLT, ia6_3, putCells, e, List.map_cons, List.map_nil]
    exact ⟨⟨4, by omega, trivial⟩, by simp only; omega, by simp [Wk, wkT, wkL, look, AV.lo, AV.lo.loL, ABlk.toZ, wl4]⟩
  · simp only [go_sem, Nat.reduceBEq, Nat.reduceAdd, Nat.reduceLeDiff, Int.cast_ofNat_Int, Nat.reduceLT, Nat.lt_irrefl, if_true, if_false, decide_true, not_false_eq_true, Int.reduceLT, ia6_4, putCells, e, List.map_cons, List.map_nil]
    exact ⟨⟨5, by omega, trivial⟩, by simp only; omega, by simp [Wk, wkT, wkL, look, AV.lo, AV.lo.loL, ABlk.toZ, wl5]⟩
  · simp only [go_sem, Nat.reduceBEq, Nat.reduceAdd, Int.cast_ofNat_Int, Nat.reduceLT, Nat.lt_irrefl, if_true, if_false, decide_true, not_false_eq_true, Int.reduceLT, ia6_5, putCells, e, List.map_cons, List.map_nil]
    exact ⟨⟨6, by omega, trivial⟩, by simp only; omega, by simp [Wk, wkT, wkL, look, AV.lo, AV.lo.loL, ABlk.toZ, wl6]⟩
  · simp only [go_sem, Nat.reduceBEq, Nat.reduceAdd, Int.cast_ofNat_Int, Nat.reduceLT, if_true, decide_false, not_false_eq_true, Int.reduceLT, putCells, List.map_cons, List.map_nil]
    refine retQ_cell (n := some 6) (by kernel_rfl) rfl rfl
theorem handedOn_sem (k : SK) (sz : Nat) (l : List Int) (hsz : sz = 1 ∨ l = []) : Sem1 90 [.sl k sz (l.map fun x => [pi x])] (.sl .full 1 (l.map fun x => [pi x])) := by
  refine semC_of_exec' mixed Try.func90 (by kernel_rfl) (by kernel_rfl) ac90_ok 1 rfl (by decide) [(.tmp 2)] (by kernel_rfl) ?_
  intro hr C hC hI
  unfold ac90
  simp only [go_sem, Nat.reduceBEq, slcS_all (sz := sz) (sz' := 1) (k := k) (es := l.map fun x => [pi x]) (hsz.imp id fun h => by rw [h]; rfl)]
  exact retQ_one rfl rfl
def natL (l : List Nat) : List Int := l.map fun (t : Nat) => (t : Int)
theorem natL_len (l : List Nat) : (natL l).length = l.length := by unfold natL; rw [List.length_map]
theorem filt_rows (e : Nat) (P : Nat → Bool) : ((natL ((List.range (e + 1)).filter P)).map fun x => [pi x]) = ((natL ((List.range e).filter P)).map fun x => [pi x]) ++ if P e then [[pi e]] else [] := by
  unfold natL
  rw [List.range_succ, List.filter_append, List.map_append, List.map_append]
  congr 1
  simp only [List.filter_cons, List.filter_nil]
  split <;> rfl
theorem filt_le' (e : Nat) (P : Nat → Bool) : ((List.range e).filter P).length ≤ e := Nat.le_trans (List.length_filter_le ..) (by simp)
abbrev fnV (f : FuncId) : PV := .val (.func (.func f) #[] #[])
theorem those_sem {f : FuncId} {fi cap : List PV} {e : Nat} {P : Nat → Bool} (he : e ≤ 1000) (hf : ∀ n : Nat, n < e → Sem1 f (fi ++ [pi n] ++ cap) (pb (P n))) : Sem1 60 [pi e, .clo f fi cap] (.sl .full 1 ((natL ((List.range e).filter P)).map fun x => [pi x])) := by
  refine semC_of_exec' mixed Try.func60 (by kernel_rfl) (by kernel_rfl) ac60_ok 2 rfl (by decide) [(.tmp 4)] (by kernel_rfl) ?_
  intro hr C hC hI
  unfold ac60
  simp only [go_sem, Nat.reduceBEq]
  refine loop_g (α := Nat × Option Nat) (fun a => a.1 ≤ e ∧ (a.2 = none → ((natL ((List.range a.1).filter P)).map fun x => [pi x]) = [])) (fun a => e - a.1) [1, 7] (fun a => [(5, .p (slZ 3 1 a.2 ((natL ((List.range a.1).filter P)).map fun x => [pi x]))), (8, .p (pi a.1))]) (fun _ => []) (fun a => a.2.toList) (0, none) ⟨by omega, fun _ => rfl⟩ (by simp [Wk, wkT, wkL, look, AV.lo, upS_eq, keepS_nil, keepS_cons, slZ]) ?_
  rintro ⟨j, o⟩ ⟨hj, h0⟩
  replace hj : j ≤ e := hj
  replace h0 : o = none → ((natL ((List.range j).filter P)).map fun x => [pi x]) = [] := h0
  have hnx := filt_rows j P
  have hfl := filt_le' j P
  simp only [go_sem, Nat.reduceBEq]
  refine ⟨fun h5 => ?_, fun h5 => ?_⟩
  · have hj2 : j < e := by omega
    rw [show List.map AV.p fi ++ [AV.p (pi j)] ++ List.map AV.p cap = (fi ++ [pi j] ++ cap).map AV.p by simp]
    refine call_pure hC (hf j hj2) (PVleL_refl _) ?_
    rintro r rfl
    cases hp : P j
    · rw [hp, if_neg (by decide), List.append_nil] at hnx
      simp only [go_sem, Nat.reduceBEq, wrap_succ (k := j) (by omega)]
      refine ⟨⟨(j + 1, o), hj2, fun h => hnx.trans (h0 h)⟩, by simp only; omega, ?_⟩
      simp only [hnx]
      cases o <;> simp [Wk, wkT, wkL, look, AV.lo]
    · rw [hp, if_pos rfl] at hnx
      simp only [go_sem, Nat.reduceBEq]
      refine app_slZ h0 (by rw [List.length_map, natL_len]; omega) (by simp) fun tk htk => ?_
      simp only [go_sem, Nat.reduceBEq, wrap_succ (k := j) (by omega)]
      refine ⟨⟨(j + 1, some tk), hj2, (fun h => by cases h)⟩, by simp only; omega, ?_⟩
      simp only [hnx]
      refine ⟨by simp [wkT, look, AV.lo], trivial, by simp, by simp, rfl, rfl, by simp⟩
  · have hjn : j = e := by omega
    subst hjn
    cases o with
    | none =>
      rw [h0 rfl]
      refine call_pure2 hC (handedOn_sem .full 0 [] (.inr rfl)) rfl (PVleL_refl _) ?_
      rintro r rfl
      simp only [go_sem, Nat.reduceBEq]
      exact retQ_one rfl rfl
    | some t =>
      refine call_pure2 hC (handedOn_sem (.own t 3 1) 1 (natL ((List.range j).filter P)) (.inl rfl)) rfl (PVleL_refl _) ?_
      rintro r rfl
      simp only [go_sem, Nat.reduceBEq]
      exact retQ_one rfl rfl
theorem thoseF_sem {f : FuncId} {e : Nat} {P : Nat → Bool} (he : e ≤ 1000) (hf : ∀ n : Nat, n < e → Sem1 f [pi n] (pb (P n))) : Sem1 60 [pi e, fnV f] (.sl .full 1 ((natL ((List.range e).filter P)).map fun x => [pi x])) := by
  refine semC_of_exec' mixed Try.func60 (by kernel_rfl) (by kernel_rfl) ac60_ok 2 rfl (by decide) [(.tmp 4)] (by kernel_rfl) ?_
  intro hr C hC hI
  unfold ac60
  simp only [go_sem, Nat.reduceBEq]
  refine loop_g (α := Nat × Option Nat) (fun a => a.1 ≤ e ∧ (a.2 = none → ((natL ((List.range a.1).filter P)).map fun x => [pi x]) = [])) (fun a => e - a.1) [1, 7] (fun a => [(5, .p (slZ 3 1 a.2 ((natL ((List.range a.1).filter P)).map fun x => [pi x]))), (8, .p (pi a.1))]) (fun _ => []) (fun a => a.2.toList) (0, none) ⟨by omega, fun _ => rfl⟩ (by simp [Wk, wkT, wkL, look, AV.lo, upS_eq, keepS_nil, keepS_cons, slZ]) ?_
  rintro ⟨j, o⟩ ⟨hj, h0⟩
  replace hj : j ≤ e := hj
  replace h0 : o = none → ((natL ((List.range j).filter P)).map fun x => [pi x]) = [] := h0
  have hnx := filt_rows j P
  have hfl := filt_le' j P
  simp only [go_sem, Nat.reduceBEq]
  refine ⟨fun h5 => ?_, fun h5 => ?_⟩
  · have hj2 : j < e := by omega
    refine call_pure2 hC (hf j hj2) rfl (PVleL_refl _) ?_
    rintro r rfl
    cases hp : P j
    · rw [hp, if_neg (by decide), List.append_nil] at hnx
      simp only [go_sem, Nat.reduceBEq, wrap_succ (k := j) (by omega)]
      refine ⟨⟨(j + 1, o), hj2, fun h => hnx.trans (h0 h)⟩, by simp only; omega, ?_⟩
      simp only [hnx]
      cases o <;> simp [Wk, wkT, wkL, look, AV.lo]
    · rw [hp, if_pos rfl] at hnx
      simp only [go_sem, Nat.reduceBEq]
      refine app_slZ h0 (by rw [List.length_map, natL_len]; omega) (by simp) fun tk htk => ?_
      simp only [go_sem, Nat.reduceBEq, wrap_succ (k := j) (by omega)]
      refine ⟨⟨(j + 1, some tk), hj2, (fun h => by cases h)⟩, by simp only; omega, ?_⟩
      simp only [hnx]
      refine ⟨by simp [wkT, look, AV.lo], trivial, by simp, by simp, rfl, rfl, by simp⟩
  · have hjn : j = e := by omega
    subst hjn
    cases o with
    | none =>
      rw [h0 rfl]
      refine call_pure2 hC (handedOn_sem .full 0 [] (.inr rfl)) rfl (PVleL_refl _) ?_
      rintro r rfl
      simp only [go_sem, Nat.reduceBEq]
      exact retQ_one rfl rfl
    | some t =>
      refine call_pure2 hC (handedOn_sem (.own t 3 1) 1 (natL ((List.range j).filter P)) (.inl rfl)) rfl (PVleL_refl _) ?_
      rintro r rfl
      simp only [go_sem, Nat.reduceBEq]
      exact retQ_one rfl rfl
theorem with_sem (k : SK) (sz : Nat) (l : List Int) (x : Int) (hsz : sz = 1 ∨ l = []) (hl : l.length ≤ 1000) : Sem1 105 [.sl k sz (l.map fun x => [pi x]), pi x] (pis (l ++ [x])) := by
  refine semC_of_exec' mixed Try.func105 (by kernel_rfl) (by kernel_rfl) ac105_ok 2 rfl (by decide) [(.tmp 4)] (by kernel_rfl) ?_
  intro hr C hC hI
  unfold ac105
  simp only [go_sem, Nat.reduceBEq, Nat.reduceLeDiff, slcS_all (sz := sz) (sz' := 1) (k := k) (es := l.map fun x => [pi x]) (hsz.imp id fun h => by rw [h]; rfl)]
  refine ⟨by rw [List.length_map]; omega, fun tk _ => ?_⟩
  refine retQ_le rfl (PVle.sh _ _ _) ?_
  simp
def worksL (b : MBook) : List (Nat × Nat) := (List.range (b.makers.length * nK b)).map fun k => (k / nK b, k % nK b)
def ownE (b : MBook) : List (PV × PV) := (worksL b).map fun v => (.agg [pi v.1, pi v.2], pi (ownN b v.1 v.2))
abbrev bookX (k k2 : SK) (b : MBook) (m : PV) : PV := .ptr [.sl k 1 (rowsC b.makers), .sl k2 2 (seenC b.seen), pi b.repairs, pi b.fixed, pi (seenN b 0), pi (seenN b 1), pi (seenN b 2), pi (seenN b 3), pi (seenN b 4), pi (seenN b 5), m] 0
abbrev bookP (k k2 : SK) (b : MBook) : PV := bookX k k2 b (.mpf (ownE b))
theorem kinds_sem (k k2 : SK) (b : MBook) (m : PV) : Sem1 70 [bookX k k2 b m] (pi (nK b)) := by
  refine semC_of_exec' mixed Try.func70 (by kernel_rfl) (by kernel_rfl) ac70_ok 1 rfl (by decide) [(.tmp 2)] (by kernel_rfl) ?_
  intro hr C hC hI
  unfold ac70
  simp only [go_sem, Nat.reduceBEq, Nat.reduceAdd, Nat.reduceLeDiff]
  refine call_pure2 hC (kindsOf_sem k k2 b) rfl (PVleL_refl _) ?_
  rintro r rfl
  simp only [go_sem, Nat.reduceBEq]
  exact retQ_one rfl rfl
theorem fixed_sem (k k2 : SK) (b : MBook) (m : PV) : Sem1 92 [bookX k k2 b m] (pi b.fixed) := by
  refine semC_of_exec' mixed Try.func92 (by kernel_rfl) (by kernel_rfl) ac92_ok 1 rfl (by decide) [(.tmp 2)] (by kernel_rfl) ?_
  intro hr C hC hI
  unfold ac92
  simp only [go_sem, Nat.reduceBEq]
  exact retQ_one rfl rfl
end Go.Proofs.Ytlbolnlcncjijaa.Mk
