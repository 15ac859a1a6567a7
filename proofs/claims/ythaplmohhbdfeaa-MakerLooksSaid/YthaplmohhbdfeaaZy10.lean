/- Contracts of the reference of maker: Right, Who, Needs, Changed. Contracts of the reference of maker: values. Mathematics of maker: what is told of two makers, and lists of values. -/
import Derived.Test.YthaplmohhbdfeaaZy09
import Derived.Test.YthaplmohhbdfeaaGa15
import Derived.Test.YthaplmohhbdfeaaZy04
namespace Go.Proofs.Ythaplmohhbdfeaa.Mk
open Go.RowKit Ls
def ac17 : AC := (AC.seq (AC.ops [(AOp.mk (some 1) (AK.box 4 (AX.t 0)) none 0 false true), (AOp.mk (some 2) (AK.mv (AX.c (PV.val (Value.bool false)))) none 1 false true), (AOp.mk (some 3) (AK.mv (AX.c (PV.val (Value.int IntKind.i64 0)))) none 2 false true)]) (AC.seq (AC.seq (AC.ops [(AOp.mk (some 5) (AK.ld (some 4) (AX.t 1)) none 0 false true), (AOp.mk (some 6) (AK.call 19 [(AX.t 5)]) none 1 false true), (AOp.mk (some 4) (AK.mv (AX.t 6)) none 2 false true)]) (AC.seq (AC.ops [(AOp.mk (some 7) (AK.mv (AX.t 4)) none 0 false true), (AOp.mk (some 8) (AK.bin false BinOp.neq (AX.t 7) (AX.c (PV.val (Value.int IntKind.i64 0)))) none 1 false true)]) (AC.cond (AX.t 8) (AC.seq (AC.ops [(AOp.mk (some 9) (AK.mv (AX.t 4)) none 0 false true), (AOp.mk (some 2) (AK.mv (AX.c (PV.val (Value.bool false)))) none 1 false true), (AOp.mk (some 3) (AK.mv (AX.t 9)) none 2 false true)]) AC.ret) AC.skip))) (AC.seq (AC.ops [(AOp.mk (some 10) (AK.ld (some 4) (AX.t 1)) none 0 false true), (AOp.mk (some 11) (AK.call 65 [(AX.t 10)]) none 1 false true), (AOp.mk (some 2) (AK.mv (AX.t 11)) none 2 false true), (AOp.mk (some 3) (AK.mv (AX.c (PV.val (Value.int IntKind.i64 0)))) none 3 false true)]) AC.ret)))
theorem ac17_ok : cCode Try.prog (fun _ => false) Try.f17.ntmps (Try.f17.body.getD .skip) = some ac17 := by kernel_rfl
def ac21 : AC := (AC.seq (AC.ops [(AOp.mk (some 1) (AK.box 4 (AX.t 0)) none 0 false true), (AOp.mk (some 2) (AK.mv (AX.c (PV.sl SK.full 0 []))) none 1 false true), (AOp.mk (some 3) (AK.mv (AX.c (PV.val (Value.int IntKind.i64 0)))) none 2 false true)]) (AC.seq (AC.seq (AC.ops [(AOp.mk (some 6) (AK.ld (some 4) (AX.t 1)) none 0 false true), (AOp.mk (some 7) (AK.call 19 [(AX.t 6)]) none 1 false true), (AOp.mk (some 4) (AK.mv (AX.t 7)) none 2 false true)]) (AC.seq (AC.ops [(AOp.mk (some 8) (AK.mv (AX.t 4)) none 0 false true), (AOp.mk (some 9) (AK.bin false BinOp.neq (AX.t 8) (AX.c (PV.val (Value.int IntKind.i64 0)))) none 1 false true)]) (AC.cond (AX.t 9) (AC.seq (AC.ops [(AOp.mk (some 10) (AK.mv (AX.t 4)) none 0 false true), (AOp.mk (some 2) (AK.mv (AX.c (PV.sl SK.full 0 []))) none 1 false true), (AOp.mk (some 3) (AK.mv (AX.t 10)) none 2 false true)]) AC.ret) AC.skip))) (AC.seq (AC.seq (AC.ops [(AOp.mk (some 11) (AK.ld (some 4) (AX.t 1)) none 0 false true), (AOp.mk (some 12) (AK.call 71 [(AX.t 11), (AX.c (PV.val (Value.bool true)))]) none 1 false true), (AOp.mk (some 5) (AK.mv (AX.t 12)) none 2 false true)]) (AC.seq (AC.ops [(AOp.mk (some 13) (AK.mv (AX.t 5)) none 0 false true), (AOp.mk (some 14) (AK.bin false BinOp.neq (AX.t 13) (AX.c (PV.val (Value.int IntKind.i64 0)))) none 1 false true)]) (AC.cond (AX.t 14) (AC.seq (AC.ops [(AOp.mk (some 15) (AK.mv (AX.t 5)) none 0 false true), (AOp.mk (some 2) (AK.mv (AX.c (PV.sl SK.full 0 []))) none 1 false true), (AOp.mk (some 3) (AK.mv (AX.t 15)) none 2 false true)]) AC.ret) AC.skip))) (AC.seq (AC.ops [(AOp.mk (some 16) (AK.ld (some 4) (AX.t 1)) none 0 false true), (AOp.mk (some 17) (AK.call 72 [(AX.t 16)]) none 1 false true), (AOp.mk (some 2) (AK.mv (AX.t 17)) none 2 false true), (AOp.mk (some 3) (AK.mv (AX.c (PV.val (Value.int IntKind.i64 0)))) none 3 false true)]) AC.ret))))
theorem ac21_ok : cCode Try.prog (fun _ => false) Try.f21.ntmps (Try.f21.body.getD .skip) = some ac21 := by kernel_rfl
def ac24 : AC := (AC.seq (AC.ops [(AOp.mk (some 2) (AK.box 4 (AX.t 0)) none 0 false true), (AOp.mk (some 4) (AK.mv (AX.c (PV.val (Value.int IntKind.i64 0)))) none 1 false true), (AOp.mk (some 5) (AK.mv (AX.c (PV.val (Value.int IntKind.i64 0)))) none 2 false true)]) (AC.seq (AC.seq (AC.ops [(AOp.mk (some 9) (AK.ld (some 4) (AX.t 2)) none 0 false true), (AOp.mk (some 10) (AK.call 19 [(AX.t 9)]) none 1 false true), (AOp.mk (some 6) (AK.mv (AX.t 10)) none 2 false true)]) (AC.seq (AC.ops [(AOp.mk (some 11) (AK.mv (AX.t 6)) none 0 false true), (AOp.mk (some 12) (AK.bin false BinOp.neq (AX.t 11) (AX.c (PV.val (Value.int IntKind.i64 0)))) none 1 false true)]) (AC.cond (AX.t 12) (AC.seq (AC.ops [(AOp.mk (some 13) (AK.mv (AX.t 6)) none 0 false true), (AOp.mk (some 4) (AK.mv (AX.c (PV.val (Value.int IntKind.i64 0)))) none 1 false true), (AOp.mk (some 5) (AK.mv (AX.t 13)) none 2 false true)]) AC.ret) AC.skip))) (AC.seq (AC.seq (AC.ops [(AOp.mk (some 14) (AK.ld (some 4) (AX.t 2)) none 0 true false), (AOp.mk (some 15) (AK.ld (some 4) (AX.t 2)) none 1 true false), (AOp.mk (some 16) (AK.mv (AX.t 1)) none 2 true false), (AOp.mk (some 17) (AK.call 75 [(AX.t 15), (AX.t 16)]) none 3 false false), (AOp.mk (some 18) (AK.call 71 [(AX.t 14), (AX.t 17)]) none 4 false true), (AOp.mk (some 7) (AK.mv (AX.t 18)) none 5 true true)]) (AC.seq (AC.ops [(AOp.mk (some 19) (AK.mv (AX.t 7)) none 0 false true), (AOp.mk (some 20) (AK.bin false BinOp.neq (AX.t 19) (AX.c (PV.val (Value.int IntKind.i64 0)))) none 1 false true)]) (AC.cond (AX.t 20) (AC.seq (AC.ops [(AOp.mk (some 21) (AK.mv (AX.t 7)) none 0 false true), (AOp.mk (some 4) (AK.mv (AX.c (PV.val (Value.int IntKind.i64 0)))) none 1 false true), (AOp.mk (some 5) (AK.mv (AX.t 21)) none 2 false true)]) AC.ret) AC.skip))) (AC.seq (AC.ops [(AOp.mk (some 22) (AK.ld (some 4) (AX.t 2)) none 0 false true), (AOp.mk (some 8) (AK.new (PV.agg [(PV.sl SK.full 0 []), (PV.sl SK.full 0 []), (PV.val (Value.int IntKind.i64 0)), (PV.val (Value.int IntKind.i64 0))])) none 1 false true), (AOp.mk none (AK.st 4 (AX.t 8) (AX.t 22)) none 2 false true)]) (AC.seq (AC.seq (AC.ops [(AOp.mk (some 23) (AK.fadr 2 (AX.t 8)) none 0 false true), (AOp.mk none (AK.st 1 (AX.t 23) (AX.c (PV.val (Value.int IntKind.i64 0)))) none 1 false true)]) (AC.block 0 (AC.loop (AC.seq (AC.seq (AC.ops [(AOp.mk (some 24) (AK.fadr 2 (AX.t 8)) none 0 true false), (AOp.mk (some 25) (AK.ld none (AX.t 24)) none 1 true false), (AOp.mk (some 26) (AK.ld (some 4) (AX.t 2)) none 2 true false), (AOp.mk (some 27) (AK.call 67 [(AX.t 26)]) none 3 false false), (AOp.mk (some 28) (AK.bin false BinOp.leq (AX.t 25) (AX.t 27)) none 4 true true)]) (AC.cond (AX.t 28) AC.skip (AC.exit 0))) (AC.seq (AC.block 1 (AC.seq (AC.ops [(AOp.mk (some 33) (AK.ld (some 4) (AX.t 8)) none 0 false true), (AOp.mk (some 34) (AK.mv (AX.t 1)) none 1 false true), (AOp.mk (some 35) (AK.call 76 [(AX.t 33), (AX.t 34)]) none 2 false true)]) (AC.cond (AX.t 35) (AC.seq (AC.ops [(AOp.mk (some 36) (AK.fadr 2 (AX.t 8)) none 0 false true), (AOp.mk (some 37) (AK.ld none (AX.t 36)) none 1 false true), (AOp.mk (some 4) (AK.mv (AX.t 37)) none 2 false true), (AOp.mk (some 5) (AK.mv (AX.c (PV.val (Value.int IntKind.i64 0)))) none 3 false true)]) AC.ret) AC.skip))) (AC.ops [(AOp.mk (some 29) (AK.fadr 2 (AX.t 8)) none 0 false true), (AOp.mk (some 30) (AK.ld none (AX.t 29)) none 1 false true), (AOp.mk (some 31) (AK.bin false BinOp.add (AX.t 30) (AX.c (PV.val (Value.int IntKind.i64 1)))) none 2 false true), (AOp.mk (some 32) (AK.fadr 2 (AX.t 8)) none 3 false true), (AOp.mk none (AK.st 1 (AX.t 32) (AX.t 31)) none 4 false true)])))))) (AC.seq (AC.ops [(AOp.mk (some 4) (AK.mv (AX.c (PV.val (Value.int IntKind.i64 0)))) none 0 false true), (AOp.mk (some 5) (AK.mv (AX.c (PV.val (Value.int IntKind.i64 4)))) none 1 false true)]) AC.ret))))))
theorem ac24_ok : cCode Try.prog (fun _ => false) Try.f24.ntmps (Try.f24.body.getD .skip) = some ac24 := by kernel_rfl
def ac26 : AC := (AC.seq (AC.ops [(AOp.mk (some 3) (AK.box 4 (AX.t 0)) none 0 false true), (AOp.mk (some 6) (AK.mv (AX.c (PV.val (Value.int IntKind.i64 0)))) none 1 false true), (AOp.mk (some 7) (AK.mv (AX.c (PV.val (Value.int IntKind.i64 0)))) none 2 false true)]) (AC.seq (AC.seq (AC.ops [(AOp.mk (some 14) (AK.ld (some 4) (AX.t 3)) none 0 false true), (AOp.mk (some 15) (AK.call 19 [(AX.t 14)]) none 1 false true), (AOp.mk (some 8) (AK.mv (AX.t 15)) none 2 false true)]) (AC.seq (AC.ops [(AOp.mk (some 16) (AK.mv (AX.t 8)) none 0 false true), (AOp.mk (some 17) (AK.bin false BinOp.neq (AX.t 16) (AX.c (PV.val (Value.int IntKind.i64 0)))) none 1 false true)]) (AC.cond (AX.t 17) (AC.seq (AC.ops [(AOp.mk (some 18) (AK.mv (AX.t 8)) none 0 false true), (AOp.mk (some 6) (AK.mv (AX.c (PV.val (Value.int IntKind.i64 0)))) none 1 false true), (AOp.mk (some 7) (AK.mv (AX.t 18)) none 2 false true)]) AC.ret) AC.skip))) (AC.seq (AC.seq (AC.ops [(AOp.mk (some 19) (AK.ld (some 4) (AX.t 3)) none 0 true false), (AOp.mk (some 20) (AK.ld (some 4) (AX.t 3)) none 1 true false), (AOp.mk (some 21) (AK.mv (AX.t 1)) none 2 true false), (AOp.mk (some 22) (AK.call 75 [(AX.t 20), (AX.t 21)]) none 3 false false), (AOp.mk (some 23) (AK.mv (AX.t 22)) none 4 true false), (AOp.mk (some 24) (AK.ld (some 4) (AX.t 3)) (some (23, true)) 5 true false), (AOp.mk (some 25) (AK.mv (AX.t 2)) (some (23, true)) 6 true false), (AOp.mk (some 26) (AK.call 68 [(AX.t 24), (AX.t 25)]) (some (23, true)) 7 false false), (AOp.mk (some 27) (AK.pick (AX.t 23) (AX.t 26) (AX.c (PV.val (Value.bool false)))) none 8 true false), (AOp.mk (some 28) (AK.call 71 [(AX.t 19), (AX.t 27)]) none 9 false true), (AOp.mk (some 9) (AK.mv (AX.t 28)) none 10 true true)]) (AC.seq (AC.ops [(AOp.mk (some 29) (AK.mv (AX.t 9)) none 0 false true), (AOp.mk (some 30) (AK.bin false BinOp.neq (AX.t 29) (AX.c (PV.val (Value.int IntKind.i64 0)))) none 1 false true)]) (AC.cond (AX.t 30) (AC.seq (AC.ops [(AOp.mk (some 31) (AK.mv (AX.t 9)) none 0 false true), (AOp.mk (some 6) (AK.mv (AX.c (PV.val (Value.int IntKind.i64 0)))) none 1 false true), (AOp.mk (some 7) (AK.mv (AX.t 31)) none 2 false true)]) AC.ret) AC.skip))) (AC.seq (AC.ops [(AOp.mk (some 32) (AK.ld (some 4) (AX.t 3)) none 0 false true), (AOp.mk (some 33) (AK.mv (AX.t 1)) none 1 false true), (AOp.mk (some 34) (AK.call 80 [(AX.t 32), (AX.t 33)]) none 2 false true), (AOp.mk (some 10) (AK.mv (AX.t 34)) none 3 false true)]) (AC.seq (AC.seq (AC.ops [(AOp.mk (some 35) (AK.mv (AX.t 10)) none 0 false true), (AOp.mk (some 36) (AK.len (AX.t 35)) none 1 false true), (AOp.mk (some 37) (AK.bin false BinOp.eql (AX.t 36) (AX.c (PV.val (Value.int IntKind.i64 0)))) none 2 false true)]) (AC.cond (AX.t 37) (AC.seq (AC.ops [(AOp.mk (some 6) (AK.mv (AX.c (PV.val (Value.int IntKind.i64 0)))) none 0 false true), (AOp.mk (some 7) (AK.mv (AX.c (PV.val (Value.int IntKind.i64 4)))) none 1 false true)]) AC.ret) AC.skip)) (AC.seq (AC.ops [(AOp.mk (some 11) (AK.mv (AX.c (PV.val (Value.bool false)))) none 0 false true), (AOp.mk (some 12) (AK.mv (AX.c (PV.val (Value.bool true)))) none 1 false true)]) (AC.seq (AC.seq (AC.ops [(AOp.mk (some 13) (AK.mv (AX.c (PV.val (Value.int IntKind.i64 0)))) none 0 false true)]) (AC.block 0 (AC.loop (AC.seq (AC.seq (AC.ops [(AOp.mk (some 38) (AK.mv (AX.t 13)) none 0 false true), (AOp.mk (some 39) (AK.mv (AX.t 10)) none 1 false true), (AOp.mk (some 40) (AK.len (AX.t 39)) none 2 false true), (AOp.mk (some 41) (AK.bin false BinOp.lss (AX.t 38) (AX.t 40)) none 3 false true)]) (AC.cond (AX.t 41) AC.skip (AC.exit 0))) (AC.seq (AC.block 1 (AC.ops [(AOp.mk (some 44) (AK.mv (AX.t 11)) none 0 false true), (AOp.mk (some 45) (AK.mv (AX.t 44)) none 1 false true), (AOp.mk (some 46) (AK.mv (AX.t 10)) (some (45, false)) 2 false true), (AOp.mk (some 47) (AK.mv (AX.t 13)) (some (45, false)) 3 false true), (AOp.mk (some 48) (AK.iadrS 1 (AX.t 46) (AX.t 47)) (some (45, false)) 4 false true), (AOp.mk (some 49) (AK.ld none (AX.t 48)) (some (45, false)) 5 false true), (AOp.mk (some 50) (AK.mv (AX.t 2)) (some (45, false)) 6 false true), (AOp.mk (some 51) (AK.call 44 [(AX.t 49), (AX.t 50)]) (some (45, false)) 7 false true), (AOp.mk (some 52) (AK.pick (AX.t 45) (AX.c (PV.val (Value.bool true))) (AX.t 51)) none 8 false true), (AOp.mk (some 53) (AK.mv (AX.t 12)) none 9 false true), (AOp.mk (some 54) (AK.mv (AX.t 53)) none 10 false true), (AOp.mk (some 55) (AK.mv (AX.t 10)) (some (54, true)) 11 false true), (AOp.mk (some 56) (AK.mv (AX.t 13)) (some (54, true)) 12 false true), (AOp.mk (some 57) (AK.iadrS 1 (AX.t 55) (AX.t 56)) (some (54, true)) 13 false true), (AOp.mk (some 58) (AK.ld none (AX.t 57)) (some (54, true)) 14 false true), (AOp.mk (some 59) (AK.mv (AX.t 2)) (some (54, true)) 15 false true), (AOp.mk (some 60) (AK.call 44 [(AX.t 58), (AX.t 59)]) (some (54, true)) 16 false true), (AOp.mk (some 61) (AK.pick (AX.t 54) (AX.t 60) (AX.c (PV.val (Value.bool false)))) none 17 false true), (AOp.mk (some 11) (AK.mv (AX.t 52)) none 18 false true), (AOp.mk (some 12) (AK.mv (AX.t 61)) none 19 false true)])) (AC.ops [(AOp.mk (some 42) (AK.mv (AX.t 13)) none 0 false true), (AOp.mk (some 43) (AK.bin false BinOp.add (AX.t 42) (AX.c (PV.val (Value.int IntKind.i64 1)))) none 1 false true), (AOp.mk (some 13) (AK.mv (AX.t 43)) none 2 false true)])))))) (AC.seq (AC.seq (AC.ops [(AOp.mk (some 62) (AK.mv (AX.t 12)) none 0 false true)]) (AC.cond (AX.t 62) (AC.seq (AC.ops [(AOp.mk (some 6) (AK.mv (AX.c (PV.val (Value.int IntKind.i64 2)))) none 0 false true), (AOp.mk (some 7) (AK.mv (AX.c (PV.val (Value.int IntKind.i64 0)))) none 1 false true)]) AC.ret) AC.skip)) (AC.seq (AC.seq (AC.ops [(AOp.mk (some 63) (AK.mv (AX.t 11)) none 0 false true)]) (AC.cond (AX.t 63) (AC.seq (AC.ops [(AOp.mk (some 6) (AK.mv (AX.c (PV.val (Value.int IntKind.i64 1)))) none 0 false true), (AOp.mk (some 7) (AK.mv (AX.c (PV.val (Value.int IntKind.i64 0)))) none 1 false true)]) AC.ret) AC.skip)) (AC.seq (AC.ops [(AOp.mk (some 6) (AK.mv (AX.c (PV.val (Value.int IntKind.i64 0)))) none 0 false true), (AOp.mk (some 7) (AK.mv (AX.c (PV.val (Value.int IntKind.i64 0)))) none 1 false true)]) AC.ret))))))))))
theorem ac26_ok : cCode Try.prog (fun _ => false) Try.f26.ntmps (Try.f26.body.getD .skip) = some ac26 := by kernel_rfl
theorem rRight_sem (k k2 : SK) (b : MBook) : Sem1 17 [.agg (bookC k k2 b)] (if errA b true = 0 then .tup [pb (rightB b), pi 0] else .tup [pb false, pi (errA b true)]) := by
  by_cases ho : okBook b
  · have he := okA ho
    rw [if_pos he]
    refine semC_of_exec' mixed Try.func17 (by kernel_rfl) (by kernel_rfl) ac17_ok 1 rfl (by decide) [(.tmp 2), (.tmp 3)] (by kernel_rfl) ?_
    intro hr C hC hI
    unfold ac17
    simp only [go_sem, Nat.reduceBEq, Nat.reduceAdd]
    refine call_pure2 hC (rCheck_sem k k2 b) rfl (PVleL_refl _) ?_
    rintro r rfl
    simp only [go_sem, Nat.reduceBEq, Nat.reduceAdd, if_pos ho, decide_false, not_true_eq_false]
    refine call_pure2 hC (rright_sem k k2 ho.1) rfl (PVleL_refl _) ?_
    rintro r rfl
    simp only [go_sem, Nat.reduceBEq]
    exact retQ_two rfl rfl rfl
  · have he : errA b true = 50 := by unfold errA; rw [if_neg ho]
    rw [he, if_neg (by decide)]
    refine semC_of_exec' mixed Try.func17 (by kernel_rfl) (by kernel_rfl) ac17_ok 1 rfl (by decide) [(.tmp 2), (.tmp 3)] (by kernel_rfl) ?_
    intro hr C hC hI
    unfold ac17
    simp only [go_sem, Nat.reduceBEq, Nat.reduceAdd]
    refine call_pure2 hC (rCheck_sem k k2 b) rfl (PVleL_refl _) ?_
    rintro r rfl
    simp only [go_sem, Nat.reduceBEq, if_neg ho, decide_true, not_false_eq_true, Int.reduceEq]
    exact retQ_two rfl rfl rfl
theorem errR_no {b : MBook} (ho : ¬ okBook b) (known : Bool) : errR b known = 50 := by unfold errR; rw [if_neg ho]
theorem errR_yes {b : MBook} (ho : okBook b) (known : Bool) : errR b known = if known then (if rightB b then 0 else 52) else 51 := by unfold errR; rw [if_pos ho]
theorem rWho_sem (k k2 : SK) (b : MBook) : Sem1 21 [.agg (bookC k k2 b)] (if errR b true = 0 then .tup [pis (natL (whoL b)), pi 0] else .tup [pis [], pi (errR b true)]) := by
  by_cases ho : okBook b
  · rw [errR_yes ho]
    have hA := rasked_sem k k2 ho.1 true
    cases hr0 : rightB b
    · rw [hr0] at hA
      rw [if_pos rfl, if_neg (by decide), if_neg (by decide)]
      refine semC_of_exec' mixed Try.func21 (by kernel_rfl) (by kernel_rfl) ac21_ok 1 rfl (by decide) [(.tmp 2), (.tmp 3)] (by kernel_rfl) ?_
      intro hr C hC hI
      unfold ac21
      simp only [go_sem, Nat.reduceBEq, Nat.reduceAdd]
      refine call_pure2 hC (rCheck_sem k k2 b) rfl (PVleL_refl _) ?_
      rintro r rfl
      simp only [go_sem, Nat.reduceBEq, Nat.reduceAdd, if_pos ho, decide_false, not_true_eq_false]
      refine call_pure2 hC (hA) rfl (PVleL_refl _) ?_
      rintro r rfl
      simp only [go_sem, Nat.reduceBEq, decide_true, Bool.false_eq_true, not_false_eq_true, Int.reduceEq]
      exact retQ_two_le rfl rfl (PVle.nil _ _ _) (PVle.refl _) rfl
    · rw [hr0] at hA
      rw [if_pos rfl, if_pos rfl, if_pos rfl]
      refine semC_of_exec' mixed Try.func21 (by kernel_rfl) (by kernel_rfl) ac21_ok 1 rfl (by decide) [(.tmp 2), (.tmp 3)] (by kernel_rfl) ?_
      intro hr C hC hI
      unfold ac21
      simp only [go_sem, Nat.reduceBEq, Nat.reduceAdd]
      refine call_pure2 hC (rCheck_sem k k2 b) rfl (PVleL_refl _) ?_
      rintro r rfl
      simp only [go_sem, Nat.reduceBEq, Nat.reduceAdd, if_pos ho, decide_false, not_true_eq_false]
      refine call_pure2 hC (hA) rfl (PVleL_refl _) ?_
      rintro r rfl
      simp only [go_sem, Nat.reduceBEq, Nat.reduceAdd, decide_false, not_true_eq_false]
      refine call_pure2 hC (rwho_sem k k2 ho.1) rfl (PVleL_refl _) ?_
      rintro r rfl
      simp only [go_sem, Nat.reduceBEq]
      exact retQ_two rfl rfl rfl
  · rw [errR_no ho, if_neg (by decide)]
    refine semC_of_exec' mixed Try.func21 (by kernel_rfl) (by kernel_rfl) ac21_ok 1 rfl (by decide) [(.tmp 2), (.tmp 3)] (by kernel_rfl) ?_
    intro hr C hC hI
    unfold ac21
    simp only [go_sem, Nat.reduceBEq, Nat.reduceAdd]
    refine call_pure2 hC (rCheck_sem k k2 b) rfl (PVleL_refl _) ?_
    rintro r rfl
    simp only [go_sem, Nat.reduceBEq, if_neg ho, decide_true, not_false_eq_true, Int.reduceEq]
    exact retQ_two_le rfl rfl (PVle.nil _ _ _) (PVle.refl _) rfl
theorem rNeeds_sem (k k2 : SK) (b : MBook) (n : Int) : Sem1 24 [.agg (bookC k k2 b), pi n] (if errR b (okM b n) = 0 then needsR (needsO b n.toNat) else .tup [pi 0, pi (errR b (okM b n))]) := by
  by_cases ho : okBook b
  rotate_left
  · rw [errR_no ho, if_neg (by decide)]
    refine semC_of_exec' mixed Try.func24 (by kernel_rfl) (by kernel_rfl) ac24_ok 2 rfl (by decide) [(.tmp 4), (.tmp 5)] (by kernel_rfl) ?_
    intro hr C hC hI
    unfold ac24
    simp only [go_sem, Nat.reduceBEq, Nat.reduceAdd]
    refine call_pure2 hC (rCheck_sem k k2 b) rfl (PVleL_refl _) ?_
    rintro r rfl
    simp only [go_sem, Nat.reduceBEq, if_neg ho, decide_true, not_false_eq_true, Int.reduceEq]
    exact retQ_two rfl rfl rfl
  rw [errR_yes ho]
  have hA := rasked_sem k k2 ho.1 (okM b n)
  have hM := risMaker_sem k k2 ho.1 n
  cases hm0 : okM b n
  · rw [hm0] at hA hM
    rw [if_neg Bool.false_ne_true, if_neg (show ¬ (51 : Int) = 0 by decide)]
    refine semC_of_exec' mixed Try.func24 (by kernel_rfl) (by kernel_rfl) ac24_ok 2 rfl (by decide) [(.tmp 4), (.tmp 5)] (by kernel_rfl) ?_
    intro hr C hC hI
    unfold ac24
    simp only [go_sem, Nat.reduceBEq, Nat.reduceAdd]
    refine call_pure2 hC (rCheck_sem k k2 b) rfl (PVleL_refl _) ?_
    rintro r rfl
    simp only [go_sem, Nat.reduceBEq, Nat.reduceAdd, if_pos ho, decide_false, not_true_eq_false, Bool.false_eq_true]
    refine call_pure2 hC (hM) rfl (PVleL_refl _) ?_
    rintro r rfl
    simp only [go_sem, Nat.reduceBEq]
    refine call_pure2 hC (hA) rfl (PVleL_refl _) ?_
    rintro r rfl
    simp only [go_sem, Nat.reduceBEq, decide_true, Bool.false_eq_true, not_false_eq_true, Int.reduceEq]
    exact retQ_two rfl rfl rfl
  cases hr0 : rightB b
  · rw [hm0, hr0] at hA
    rw [hm0] at hM
    rw [if_pos rfl, if_neg (by decide), if_neg (by decide)]
    refine semC_of_exec' mixed Try.func24 (by kernel_rfl) (by kernel_rfl) ac24_ok 2 rfl (by decide) [(.tmp 4), (.tmp 5)] (by kernel_rfl) ?_
    intro hr C hC hI
    unfold ac24
    simp only [go_sem, Nat.reduceBEq, Nat.reduceAdd]
    refine call_pure2 hC (rCheck_sem k k2 b) rfl (PVleL_refl _) ?_
    rintro r rfl
    simp only [go_sem, Nat.reduceBEq, Nat.reduceAdd, if_pos ho, decide_false, not_true_eq_false, Bool.false_eq_true]
    refine call_pure2 hC (hM) rfl (PVleL_refl _) ?_
    rintro r rfl
    simp only [go_sem, Nat.reduceBEq]
    refine call_pure2 hC (hA) rfl (PVleL_refl _) ?_
    rintro r rfl
    simp only [go_sem, Nat.reduceBEq, decide_true, Bool.false_eq_true, not_false_eq_true, Int.reduceEq]
    exact retQ_two rfl rfl rfl
  rw [hm0, hr0] at hA
  rw [hm0] at hM
  rw [if_pos rfl, if_pos rfl, if_pos rfl]
  obtain ⟨m, rfl, hm⟩ := okM_nat hm0
  rw [Int.toNat_natCast]
  have h2 := ho.1.2.1
  refine semC_of_exec' mixed Try.func24 (by kernel_rfl) (by kernel_rfl) ac24_ok 2 rfl (by decide) [(.tmp 4), (.tmp 5)] (by kernel_rfl) ?_
  intro hr C hC hI
  unfold ac24
  simp only [go_sem, Nat.reduceBEq, Nat.reduceAdd]
  refine call_pure2 hC (rCheck_sem k k2 b) rfl (PVleL_refl _) ?_
  rintro r rfl
  simp only [go_sem, Nat.reduceBEq, Nat.reduceAdd, if_pos ho, decide_false, not_true_eq_false, Bool.false_eq_true]
  refine call_pure2 hC (hM) rfl (PVleL_refl _) ?_
  rintro r rfl
  simp only [go_sem, Nat.reduceBEq]
  refine call_pure2 hC (hA) rfl (PVleL_refl _) ?_
  rintro r rfl
  simp only [go_sem, Nat.reduceBEq, Nat.reduceAdd, Nat.reduceLeDiff, putCells, decide_false, not_true_eq_false, not_false_eq_true]
  refine loop_kl (nK b + 1) (fun j => ∀ x, x < j → possB (withR b x) m = false) [1, 2, 8] (fun j => []) (fun j => [.cells ((bookC k k2 b).map .p), .cells [.p (.sl k 1 (rowsC b.makers)), .p (.sl k2 2 (seenC b.seen)), .p (pi j), .p (pi b.fixed)]]) (fun x h => absurd h (by omega)) (by simp [Wk, wkT, wkL, look, AV.lo, AV.lo.loL, ABlk.toZ, upS_eq, keepS_nil, keepS_cons]) ?_
  rintro j ⟨hj, hok⟩
  simp only [go_sem, Nat.reduceBEq, Nat.reduceAdd]
  refine call_pure2 hC (rkinds_sem k k2 ho.1) rfl (PVleL_refl _) ?_
  rintro r rfl
  simp only [go_sem, Nat.reduceBEq, Nat.reduceAdd]
  refine ⟨fun d5 => ?_, fun d5 => ?_⟩
  · have hj2 : j < nK b + 1 := by omega
    have hP := rpossible_sem k k2 (b := withR b j) (ho.1.withR (by omega)) (m := m) hm
    refine call_pure2 hC (hP) rfl (PVleL_refl _) ?_
    rintro r rfl
    simp only [go_sem, Nat.reduceBEq]
    cases hp : possB (withR b j) m
    · simp only [go_sem, Nat.reduceBEq, Nat.reduceAdd, Nat.reduceLeDiff, putCells, wrap_succ (k := j) (by omega)]
      refine ⟨⟨j + 1, hj2, fun x hx => ?_⟩, by simp only; omega, by simp [Wk, wkT, wkL, look, AV.lo, AV.lo.loL, ABlk.toZ]⟩
      by_cases e : x = j
      · rw [e]; exact hp
      · exact hok x (by omega)
    · have e : needsO b m = some j := find_range hj2 hp hok
      rw [e]
      simp only [go_sem, Nat.reduceBEq]
      exact retQ_two rfl rfl rfl
  · have e : needsO b m = none := needs_none fun x hx => hok x (by omega)
    rw [e]
    exact retQ_two rfl rfl rfl
theorem rChanged_sem (k k2 : SK) (b : MBook) (n p : Int) : Sem1 26 [.agg (bookC k k2 b), pi n, pi p] (if errR b (okM b n && okK b p) = 0 then (if possB b n.toNat then .tup [pi (verdictI b n.toNat p.toNat), pi 0] else .tup [pi 0, pi 4]) else .tup [pi 0, pi (errR b (okM b n && okK b p))]) := by
  by_cases ho : okBook b
  rotate_left
  · rw [errR_no ho, if_neg (by decide)]
    refine semC_of_exec' mixed Try.func26 (by kernel_rfl) (by kernel_rfl) ac26_ok 3 rfl (by decide) [(.tmp 6), (.tmp 7)] (by kernel_rfl) ?_
    intro hr C hC hI
    unfold ac26
    simp only [go_sem, Nat.reduceBEq, Nat.reduceAdd]
    refine call_pure2 hC (rCheck_sem k k2 b) rfl (PVleL_refl _) ?_
    rintro r rfl
    simp only [go_sem, Nat.reduceBEq, if_neg ho, decide_true, not_false_eq_true, Int.reduceEq]
    exact retQ_two rfl rfl rfl
  rw [errR_yes ho]
  have hA := rasked_sem k k2 ho.1 (okM b n && okK b p)
  have hM := risMaker_sem k k2 ho.1 n
  have hK := risKind_sem k k2 ho.1 p
  cases hm0 : okM b n
  · rw [hm0, Bool.false_and] at hA
    rw [hm0] at hM
    rw [Bool.false_and, if_neg Bool.false_ne_true, if_neg (show ¬ (51 : Int) = 0 by decide)]
    refine semC_of_exec' mixed Try.func26 (by kernel_rfl) (by kernel_rfl) ac26_ok 3 rfl (by decide) [(.tmp 6), (.tmp 7)] (by kernel_rfl) ?_
    intro hr C hC hI
    unfold ac26
    simp only [go_sem, Nat.reduceBEq, Nat.reduceAdd]
    refine call_pure2 hC (rCheck_sem k k2 b) rfl (PVleL_refl _) ?_
    rintro r rfl
    simp only [go_sem, Nat.reduceBEq, Nat.reduceAdd, if_pos ho, decide_false, not_true_eq_false, Bool.false_eq_true]
    refine call_pure2 hC (hM) rfl (PVleL_refl _) ?_
    rintro r rfl
    simp only [go_sem, Nat.reduceBEq]
    refine call_pure2 hC (hA) rfl (PVleL_refl _) ?_
    rintro r rfl
    simp only [go_sem, Nat.reduceBEq, decide_true, Bool.false_eq_true, not_false_eq_true, Int.reduceEq]
    exact retQ_two rfl rfl rfl
  cases hk0 : okK b p
  · rw [hm0, hk0, Bool.true_and] at hA
    rw [hm0] at hM
    rw [hk0] at hK
    rw [Bool.true_and, if_neg Bool.false_ne_true, if_neg (show ¬ (51 : Int) = 0 by decide)]
    refine semC_of_exec' mixed Try.func26 (by kernel_rfl) (by kernel_rfl) ac26_ok 3 rfl (by decide) [(.tmp 6), (.tmp 7)] (by kernel_rfl) ?_
    intro hr C hC hI
    unfold ac26
    simp only [go_sem, Nat.reduceBEq, Nat.reduceAdd]
    refine call_pure2 hC (rCheck_sem k k2 b) rfl (PVleL_refl _) ?_
    rintro r rfl
    simp only [go_sem, Nat.reduceBEq, Nat.reduceAdd, if_pos ho, decide_false, not_true_eq_false, Bool.false_eq_true]
    refine call_pure2 hC (hM) rfl (PVleL_refl _) ?_
    rintro r rfl
    simp only [go_sem, Nat.reduceBEq, Nat.reduceAdd]
    refine call_pure2 hC (hK) rfl (PVleL_refl _) ?_
    rintro r rfl
    simp only [go_sem, Nat.reduceBEq]
    refine call_pure2 hC (hA) rfl (PVleL_refl _) ?_
    rintro r rfl
    simp only [go_sem, Nat.reduceBEq, decide_true, Bool.false_eq_true, not_false_eq_true, Int.reduceEq]
    exact retQ_two rfl rfl rfl
  rw [hm0, hk0, Bool.true_and] at hA
  rw [hm0] at hM
  rw [hk0] at hK
  rw [Bool.true_and, if_pos rfl]
  cases hr0 : rightB b
  · rw [hr0] at hA
    rw [if_neg Bool.false_ne_true, if_neg (show ¬ (52 : Int) = 0 by decide)]
    refine semC_of_exec' mixed Try.func26 (by kernel_rfl) (by kernel_rfl) ac26_ok 3 rfl (by decide) [(.tmp 6), (.tmp 7)] (by kernel_rfl) ?_
    intro hr C hC hI
    unfold ac26
    simp only [go_sem, Nat.reduceBEq, Nat.reduceAdd]
    refine call_pure2 hC (rCheck_sem k k2 b) rfl (PVleL_refl _) ?_
    rintro r rfl
    simp only [go_sem, Nat.reduceBEq, Nat.reduceAdd, if_pos ho, decide_false, not_true_eq_false, Bool.false_eq_true]
    refine call_pure2 hC (hM) rfl (PVleL_refl _) ?_
    rintro r rfl
    simp only [go_sem, Nat.reduceBEq, Nat.reduceAdd]
    refine call_pure2 hC (hK) rfl (PVleL_refl _) ?_
    rintro r rfl
    simp only [go_sem, Nat.reduceBEq]
    refine call_pure2 hC (hA) rfl (PVleL_refl _) ?_
    rintro r rfl
    simp only [go_sem, Nat.reduceBEq, decide_true, Bool.false_eq_true, not_false_eq_true, Int.reduceEq]
    exact retQ_two rfl rfl rfl
  rw [hr0] at hA
  rw [if_pos rfl, if_pos rfl]
  obtain ⟨m, rfl, hm⟩ := okM_nat hm0
  obtain ⟨q, rfl, hq⟩ := okK_nat hk0
  rw [Int.toNat_natCast, Int.toNat_natCast]
  have h2 := ho.1.2.1
  have h64 := pow_le64 ho.1
  have htl : (truthsL b m).length ≤ 2 ^ nK b := Nat.le_trans (List.length_filter_le ..) (by simp)
  have hpo : possB b m = decide (truthsL b m ≠ []) := rfl
  have hve : verdictI b m q = if (truthsL b m).all fun c => c.testBit q then 2 else if (truthsL b m).any fun c => c.testBit q then 1 else 0 := rfl
  have hT := rtruths_sem k k2 ho.1 hm
  obtain ⟨L, hL⟩ : ∃ L, truthsL b m = L := ⟨_, rfl⟩
  rw [hL] at hT hpo hve htl
  by_cases hn : L = []
  · subst hn
    rw [hpo]
    refine semC_of_exec' mixed Try.func26 (by kernel_rfl) (by kernel_rfl) ac26_ok 3 rfl (by decide) [(.tmp 6), (.tmp 7)] (by kernel_rfl) ?_
    intro hr C hC hI
    unfold ac26
    simp only [go_sem, Nat.reduceBEq, Nat.reduceAdd]
    refine call_pure2 hC (rCheck_sem k k2 b) rfl (PVleL_refl _) ?_
    rintro r rfl
    simp only [go_sem, Nat.reduceBEq, Nat.reduceAdd, if_pos ho, decide_false, not_true_eq_false, Bool.false_eq_true]
    refine call_pure2 hC (hM) rfl (PVleL_refl _) ?_
    rintro r rfl
    simp only [go_sem, Nat.reduceBEq, Nat.reduceAdd]
    refine call_pure2 hC (hK) rfl (PVleL_refl _) ?_
    rintro r rfl
    simp only [go_sem, Nat.reduceBEq]
    refine call_pure2 hC (hA) rfl (PVleL_refl _) ?_
    rintro r rfl
    simp only [go_sem, Nat.reduceBEq, Nat.reduceAdd, decide_false, not_true_eq_false]
    refine call_pure2 hC (hT) rfl (PVleL_refl _) ?_
    rintro r rfl
    simp only [go_sem, Nat.reduceBEq, natL, List.map_nil, List.length_nil, Int.natCast_zero, decide_true]
    exact retQ_two rfl rfl rfl
  have hlp := List.length_pos_iff.2 hn
  rw [hpo, decide_eq_true hn, if_pos rfl, hve]
  have hlz : ¬ (L.length : Int) = 0 := by omega
  refine semC_of_exec' mixed Try.func26 (by kernel_rfl) (by kernel_rfl) ac26_ok 3 rfl (by decide) [(.tmp 6), (.tmp 7)] (by kernel_rfl) ?_
  intro hr C hC hI
  unfold ac26
  simp only [go_sem, Nat.reduceBEq, Nat.reduceAdd]
  refine call_pure2 hC (rCheck_sem k k2 b) rfl (PVleL_refl _) ?_
  rintro r rfl
  simp only [go_sem, Nat.reduceBEq, Nat.reduceAdd, if_pos ho, decide_false, not_true_eq_false, Bool.false_eq_true]
  refine call_pure2 hC (hM) rfl (PVleL_refl _) ?_
  rintro r rfl
  simp only [go_sem, Nat.reduceBEq, Nat.reduceAdd]
  refine call_pure2 hC (hK) rfl (PVleL_refl _) ?_
  rintro r rfl
  simp only [go_sem, Nat.reduceBEq]
  refine call_pure2 hC (hA) rfl (PVleL_refl _) ?_
  rintro r rfl
  simp only [go_sem, Nat.reduceBEq, Nat.reduceAdd, decide_false, not_true_eq_false]
  refine call_pure2 hC (hT) rfl (PVleL_refl _) ?_
  rintro r rfl
  simp only [go_sem, Nat.reduceBEq, List.length_map, natL_len, eq_false hlz, decide_false]
  refine loop_k L.length (fun _ => True) [2, 10] (fun j => [(11, .p (pb ((L.take j).any fun c => c.testBit q))), (12, .p (pb ((L.take j).all fun c => c.testBit q))), (13, .p (pi j))]) trivial (by simp [loAll, look, AV.lo]) ⟨by simp [loBlk, AV.lo, AV.lo.loL], by simp, by simp⟩ (by simp [wkT, look, AV.lo]) ?_
  rintro j ⟨hj, -⟩
  simp only [go_sem, Nat.reduceBEq, List.length_map, natL_len]
  refine ⟨fun d5 => ?_, fun d5 => ?_⟩
  · have hj2 : j < L.length := by omega
    have hjl : j < (natL L).length := by rw [natL_len]; exact hj2
    obtain ⟨c, ec⟩ : ∃ c, L[j] = c := ⟨_, rfl⟩
    have hjv : (natL L)[j] = (c : Int) := by simp [natL, ec]
    have hn1 : ((L.take (j + 1)).any fun c => c.testBit q) = (((L.take j).any fun c => c.testBit q) || c.testBit q) := by
      rw [List.take_succ_eq_append_getElem hj2, List.any_append, ec]
      simp
    have hn2 : ((L.take (j + 1)).all fun c => c.testBit q) = (((L.take j).all fun c => c.testBit q) && c.testBit q) := by
      rw [List.take_succ_eq_append_getElem hj2, List.all_append, ec]
      simp
    have hOf := Of_sem (c : Nat) q (by omega)
    rw [of_bit (s := c) (i := q) (by omega)] at hOf
    obtain ⟨S, hS⟩ : ∃ S, ((L.take j).any fun c => c.testBit q) = S := ⟨_, rfl⟩
    obtain ⟨A, hA2⟩ : ∃ A, ((L.take j).all fun c => c.testBit q) = A := ⟨_, rfl⟩
    rw [hS] at hn1
    rw [hA2] at hn2
    rw [hS, hA2]
    cases S <;> cases A
    · simp only [go_sem, Nat.reduceBEq, iadr_pis hjl, hjv]
      refine call_pure2 hC (hOf) rfl (PVleL_refl _) ?_
      rintro r rfl
      simp only [go_sem, Nat.reduceBEq, wrap_succ (k := j) (by omega)]
      refine ⟨⟨j + 1, hj2, trivial⟩, by simp only; omega, ?_⟩
      simp only [hn1, hn2, Bool.false_or, Bool.false_and]
      exact by simp [Wk, wkT, wkL, look, AV.lo, AV.lo.loL, ABlk.toZ]
    · simp only [go_sem, Nat.reduceBEq, iadr_pis hjl, hjv]
      refine call_pure2 hC (hOf) rfl (PVleL_refl _) ?_
      rintro r rfl
      simp only [go_sem, Nat.reduceBEq, iadr_pis hjl, hjv]
      refine call_pure2 hC (hOf) rfl (PVleL_refl _) ?_
      rintro r rfl
      simp only [go_sem, Nat.reduceBEq, wrap_succ (k := j) (by omega)]
      refine ⟨⟨j + 1, hj2, trivial⟩, by simp only; omega, ?_⟩
      simp only [hn1, hn2, Bool.false_or, Bool.true_and]
      exact by simp [Wk, wkT, wkL, look, AV.lo, AV.lo.loL, ABlk.toZ]
    · simp only [go_sem, Nat.reduceBEq, wrap_succ (k := j) (by omega)]
      refine ⟨⟨j + 1, hj2, trivial⟩, by simp only; omega, ?_⟩
      simp only [hn1, hn2, Bool.true_or, Bool.false_and]
      exact by simp [Wk, wkT, wkL, look, AV.lo, AV.lo.loL, ABlk.toZ]
    · simp only [go_sem, Nat.reduceBEq, iadr_pis hjl, hjv]
      refine call_pure2 hC (hOf) rfl (PVleL_refl _) ?_
      rintro r rfl
      simp only [go_sem, Nat.reduceBEq, wrap_succ (k := j) (by omega)]
      refine ⟨⟨j + 1, hj2, trivial⟩, by simp only; omega, ?_⟩
      simp only [hn1, hn2, Bool.true_or, Bool.true_and]
      exact by simp [Wk, wkT, wkL, look, AV.lo, AV.lo.loL, ABlk.toZ]
  · have hjn : j = L.length := by omega
    subst hjn
    rw [List.take_length]
    obtain ⟨S, hS⟩ : ∃ S, (L.any fun c => c.testBit q) = S := ⟨_, rfl⟩
    obtain ⟨A, hA2⟩ : ∃ A, (L.all fun c => c.testBit q) = A := ⟨_, rfl⟩
    rw [hS, hA2]
    cases A
    · cases S
      · simp only [go_sem, Nat.reduceBEq, Bool.false_eq_true]
        exact retQ_two rfl rfl rfl
      · simp only [go_sem, Nat.reduceBEq, Bool.false_eq_true]
        exact retQ_two rfl rfl rfl
    · simp only [go_sem]
      exact retQ_two rfl rfl rfl
end Go.Proofs.Ythaplmohhbdfeaa.Mk
namespace Go.Proofs.Ythaplmohhbdfeaa.Mk
open Go.RowKit Ls
def ac82 : AC := (AC.seq (AC.ops [(AOp.mk (some 2) (AK.box 4 (AX.t 0)) none 0 false true), (AOp.mk (some 4) (AK.mv (AX.c (PV.val (Value.int IntKind.i64 0)))) none 1 false true)]) (AC.seq (AC.ops [(AOp.mk (some 5) (AK.mv (AX.c (PV.val (Value.int IntKind.i64 0)))) none 0 false true)]) (AC.seq (AC.seq (AC.ops [(AOp.mk (some 6) (AK.mv (AX.c (PV.val (Value.int IntKind.i64 0)))) none 0 false true)]) (AC.block 0 (AC.loop (AC.seq (AC.seq (AC.ops [(AOp.mk (some 9) (AK.mv (AX.t 6)) none 0 false true), (AOp.mk (some 10) (AK.fadr 0 (AX.t 2)) none 1 false true), (AOp.mk (some 11) (AK.ld none (AX.t 10)) none 2 false true), (AOp.mk (some 12) (AK.len (AX.t 11)) none 3 false true), (AOp.mk (some 13) (AK.bin false BinOp.lss (AX.t 9) (AX.t 12)) none 4 false true)]) (AC.cond (AX.t 13) AC.skip (AC.exit 0))) (AC.seq (AC.block 1 (AC.seq (AC.ops [(AOp.mk (some 16) (AK.ld (some 4) (AX.t 2)) none 0 false true), (AOp.mk (some 17) (AK.mv (AX.t 6)) none 1 false true), (AOp.mk (some 18) (AK.call 80 [(AX.t 16), (AX.t 17)]) none 2 false true), (AOp.mk (some 7) (AK.mv (AX.t 18)) none 3 false true)]) (AC.seq (AC.ops [(AOp.mk (some 8) (AK.mv (AX.c (PV.val (Value.int IntKind.i64 0)))) none 0 false true)]) (AC.block 2 (AC.loop (AC.seq (AC.seq (AC.ops [(AOp.mk (some 19) (AK.mv (AX.t 8)) none 0 false true), (AOp.mk (some 20) (AK.mv (AX.t 7)) none 1 false true), (AOp.mk (some 21) (AK.len (AX.t 20)) none 2 false true), (AOp.mk (some 22) (AK.bin false BinOp.lss (AX.t 19) (AX.t 21)) none 3 false true)]) (AC.cond (AX.t 22) AC.skip (AC.exit 2))) (AC.seq (AC.block 3 (AC.ops [(AOp.mk (some 25) (AK.mv (AX.t 5)) none 0 true false), (AOp.mk (some 26) (AK.ld (some 4) (AX.t 2)) none 1 true false), (AOp.mk (some 27) (AK.mv (AX.t 6)) none 2 true false), (AOp.mk (some 28) (AK.mv (AX.t 7)) none 3 true false), (AOp.mk (some 29) (AK.mv (AX.t 8)) none 4 true false), (AOp.mk (some 30) (AK.iadrS 1 (AX.t 28) (AX.t 29)) none 5 true false), (AOp.mk (some 31) (AK.ld none (AX.t 30)) none 6 true false), (AOp.mk (some 32) (AK.mv (AX.t 1)) none 7 true false), (AOp.mk (some 33) (AK.call 120 [(AX.t 26), (AX.t 27), (AX.t 31), (AX.t 32)]) none 8 false true), (AOp.mk (some 34) (AK.bin false BinOp.or (AX.t 25) (AX.t 33)) none 9 true true), (AOp.mk (some 5) (AK.mv (AX.t 34)) none 10 true true)])) (AC.ops [(AOp.mk (some 23) (AK.mv (AX.t 8)) none 0 false true), (AOp.mk (some 24) (AK.bin false BinOp.add (AX.t 23) (AX.c (PV.val (Value.int IntKind.i64 1)))) none 1 false true), (AOp.mk (some 8) (AK.mv (AX.t 24)) none 2 false true)])))))))) (AC.ops [(AOp.mk (some 14) (AK.mv (AX.t 6)) none 0 false true), (AOp.mk (some 15) (AK.bin false BinOp.add (AX.t 14) (AX.c (PV.val (Value.int IntKind.i64 1)))) none 1 false true), (AOp.mk (some 6) (AK.mv (AX.t 15)) none 2 false true)])))))) (AC.seq (AC.ops [(AOp.mk (some 35) (AK.mv (AX.t 5)) none 0 false true), (AOp.mk (some 4) (AK.mv (AX.t 35)) none 1 false true)]) AC.ret))))
theorem ac82_ok : cCode Try.prog (fun _ => false) Try.f82.ntmps (Try.f82.body.getD .skip) = some ac82 := by kernel_rfl
def ac29 : AC := (AC.seq (AC.ops [(AOp.mk (some 2) (AK.box 4 (AX.t 0)) none 0 false true), (AOp.mk (some 4) (AK.mv (AX.c (PV.sl SK.full 0 []))) none 1 false true), (AOp.mk (some 5) (AK.mv (AX.c (PV.val (Value.int IntKind.i64 0)))) none 2 false true)]) (AC.seq (AC.seq (AC.ops [(AOp.mk (some 8) (AK.ld (some 4) (AX.t 2)) none 0 false true), (AOp.mk (some 9) (AK.call 19 [(AX.t 8)]) none 1 false true), (AOp.mk (some 6) (AK.mv (AX.t 9)) none 2 false true)]) (AC.seq (AC.ops [(AOp.mk (some 10) (AK.mv (AX.t 6)) none 0 false true), (AOp.mk (some 11) (AK.bin false BinOp.neq (AX.t 10) (AX.c (PV.val (Value.int IntKind.i64 0)))) none 1 false true)]) (AC.cond (AX.t 11) (AC.seq (AC.ops [(AOp.mk (some 12) (AK.mv (AX.t 6)) none 0 false true), (AOp.mk (some 4) (AK.mv (AX.c (PV.sl SK.full 0 []))) none 1 false true), (AOp.mk (some 5) (AK.mv (AX.t 12)) none 2 false true)]) AC.ret) AC.skip))) (AC.seq (AC.seq (AC.ops [(AOp.mk (some 13) (AK.ld (some 4) (AX.t 2)) none 0 true false), (AOp.mk (some 14) (AK.ld (some 4) (AX.t 2)) none 1 true false), (AOp.mk (some 15) (AK.mv (AX.t 1)) none 2 true false), (AOp.mk (some 16) (AK.call 68 [(AX.t 14), (AX.t 15)]) none 3 false false), (AOp.mk (some 17) (AK.call 71 [(AX.t 13), (AX.t 16)]) none 4 false true), (AOp.mk (some 7) (AK.mv (AX.t 17)) none 5 true true)]) (AC.seq (AC.ops [(AOp.mk (some 18) (AK.mv (AX.t 7)) none 0 false true), (AOp.mk (some 19) (AK.bin false BinOp.neq (AX.t 18) (AX.c (PV.val (Value.int IntKind.i64 0)))) none 1 false true)]) (AC.cond (AX.t 19) (AC.seq (AC.ops [(AOp.mk (some 20) (AK.mv (AX.t 7)) none 0 false true), (AOp.mk (some 4) (AK.mv (AX.c (PV.sl SK.full 0 []))) none 1 false true), (AOp.mk (some 5) (AK.mv (AX.t 20)) none 2 false true)]) AC.ret) AC.skip))) (AC.seq (AC.ops [(AOp.mk (some 21) (AK.ld (some 4) (AX.t 2)) none 0 false true), (AOp.mk (some 22) (AK.mv (AX.t 1)) none 1 false true), (AOp.mk (some 23) (AK.call 82 [(AX.t 21), (AX.t 22)]) none 2 false true), (AOp.mk (some 24) (AK.call 42 [(AX.t 23), (AX.c (PV.val (Value.int IntKind.i64 5)))]) none 3 false true), (AOp.mk (some 4) (AK.mv (AX.t 24)) none 4 false true), (AOp.mk (some 5) (AK.mv (AX.c (PV.val (Value.int IntKind.i64 0)))) none 5 false true)]) AC.ret))))
theorem ac29_ok : cCode Try.prog (fun _ => false) Try.f29.ntmps (Try.f29.body.getD .skip) = some ac29 := by kernel_rfl
def preT (b : MBook) (m : Nat) : List (Nat × Nat) := (List.range m).flatMap fun m => (truthsL b m).map fun c => (m, c)
def midT (b : MBook) (m j : Nat) : List (Nat × Nat) := preT b m ++ ((truthsL b m).take j).map fun c => (m, c)
theorem midT_zero (b : MBook) (m : Nat) : midT b m 0 = preT b m := by simp [midT]
theorem midT_end (b : MBook) (m : Nat) : midT b m (truthsL b m).length = preT b (m + 1) := by
  unfold midT preT
  rw [List.take_length, List.range_succ, List.flatMap_append]
  simp
theorem midT_next {b : MBook} {m j : Nat} (hj : j < (truthsL b m).length) : midT b m (j + 1) = midT b m j ++ [(m, (truthsL b m)[j])] := by
  unfold midT
  rw [List.take_succ_eq_append_getElem hj, List.map_append, List.append_assoc]
  rfl
theorem canF_app (b : MBook) (q : Nat) (l : List (Nat × Nat)) (m c : Nat) : canF b q (l ++ [(m, c)]) = canF b q l ||| valN b m c q := by
  unfold canF
  rw [List.foldl_append]
  rfl
theorem rcan_sem (k k2 : SK) {b : MBook} (ho : okC b) {q : Nat} (hq : q < nK b) : Sem1 82 [.agg (bookC k k2 b), pi q] (pi (canN b q : Nat)) := by
  have h1 := ho.1
  have h2 := ho.2.1
  have h64 := pow_le64 ho
  refine semC_of_exec' mixed Try.func82 (by kernel_rfl) (by kernel_rfl) ac82_ok 2 rfl (by decide) [(.tmp 4)] (by kernel_rfl) ?_
  intro hr C hC hI
  unfold ac82
  simp only [go_sem, Nat.reduceBEq, Nat.reduceAdd]
  refine loop_k b.makers.length (fun _ => True) [1, 2] (fun m => [(5, .p (pi (canF b q (preT b m) : Nat))), (6, .p (pi m))]) trivial (by simp [loAll, look, AV.lo]) ⟨by simp [loBlk, AV.lo, AV.lo.loL], by simp, by simp⟩ (by simp [preT, canF, wkT, look, AV.lo]) ?_
  rintro m ⟨hm, -⟩
  simp only [go_sem, Nat.reduceBEq, Nat.reduceAdd, List.length_map]
  refine ⟨fun c5 => ?_, fun c5 => ?_⟩
  · have hm2 : m < b.makers.length := by omega
    have htl : (truthsL b m).length ≤ 2 ^ nK b := Nat.le_trans (List.length_filter_le ..) (by simp)
    refine call_pure2 hC (rtruths_sem k k2 ho hm2) rfl (PVleL_refl _) ?_
    rintro r rfl
    simp only [go_sem, Nat.reduceBEq]
    refine loop_k (truthsL b m).length (fun _ => True) [1, 2, 6, 7] (fun j => [(5, .p (pi (canF b q (midT b m j) : Nat))), (8, .p (pi j))]) trivial (by simp [loAll, look, AV.lo]) ⟨by simp [loBlk, AV.lo, AV.lo.loL], by simp, by simp⟩ (by simp [midT_zero, wkT, look, AV.lo]) ?_
    rintro j ⟨hj, -⟩
    simp only [go_sem, Nat.reduceBEq, Nat.reduceAdd, List.length_map, natL_len]
    refine ⟨fun d5 => ?_, fun d5 => ?_⟩
    · have hj2 : j < (truthsL b m).length := by omega
      have hjl : j < (natL (truthsL b m)).length := by rw [natL_len]; exact hj2
      have hn := midT_next hj2
      obtain ⟨c, ec⟩ : ∃ c, (truthsL b m)[j] = c := ⟨_, rfl⟩
      have hjv : (natL (truthsL b m))[j] = (c : Int) := by simp [natL, ec]
      rw [ec] at hn
      have hor : binS false .or (.p (pi (canF b q (midT b m j) : Nat))) (.p (pi (valN b m c q : Nat))) = some (.p (pi ((canF b q (midT b m j) ||| valN b m c q : Nat) : Int))) := bin_orN (canF_lt ..) (by have := val_le b m c q; omega)
      simp only [go_sem, Nat.reduceBEq, iadr_pis hjl, hjv]
      refine call_pure2 hC (rvalues_sem k k2 ho hm2 hq c) rfl (PVleL_refl _) ?_
      rintro r rfl
      simp only [go_sem, Nat.reduceBEq, hor, wrap_succ (k := j) (by omega)]
      refine ⟨⟨j + 1, hj2, trivial⟩, by simp only; omega, ?_⟩
      simp only [hn, canF_app]
      exact by simp [Wk, wkT, wkL, look, AV.lo, AV.lo.loL, ABlk.toZ]
    · have hjn : j = (truthsL b m).length := by omega
      subst hjn
      rw [midT_end]
      simp only [go_sem, wrap_succ (k := m) (by omega)]
      exact ⟨⟨m + 1, hm2, trivial⟩, by simp only; omega, by simp [Wk, wkT, wkL, look, AV.lo, AV.lo.loL, ABlk.toZ]⟩
  · have hmn : m = b.makers.length := by omega
    subst hmn
    exact retQ_one rfl rfl
theorem valuesL_list (b : MBook) (q : Nat) : natL (valuesL b q) = listI (canN b q : Nat) 5 := by
  unfold natL valuesL listI
  refine congrArg _ (List.filter_congr fun i hi => ?_)
  rw [of_bit (by have := List.mem_range.1 hi; omega)]
theorem rValues_sem (k k2 : SK) (b : MBook) (p : Int) : Sem1 29 [.agg (bookC k k2 b), pi p] (if errR b (okK b p) = 0 then .tup [pis (natL (valuesL b p.toNat)), pi 0] else .tup [pis [], pi (errR b (okK b p))]) := by
  by_cases ho : okBook b
  rotate_left
  · rw [errR_no ho, if_neg (by decide)]
    refine semC_of_exec' mixed Try.func29 (by kernel_rfl) (by kernel_rfl) ac29_ok 2 rfl (by decide) [(.tmp 4), (.tmp 5)] (by kernel_rfl) ?_
    intro hr C hC hI
    unfold ac29
    simp only [go_sem, Nat.reduceBEq, Nat.reduceAdd]
    refine call_pure2 hC (rCheck_sem k k2 b) rfl (PVleL_refl _) ?_
    rintro r rfl
    simp only [go_sem, Nat.reduceBEq, if_neg ho, decide_true, not_false_eq_true, Int.reduceEq]
    exact retQ_two_le rfl rfl (PVle.nil _ _ _) (PVle.refl _) rfl
  rw [errR_yes ho]
  have hA := rasked_sem k k2 ho.1 (okK b p)
  have hK := risKind_sem k k2 ho.1 p
  cases hk0 : okK b p
  · rw [hk0] at hA hK
    rw [if_neg Bool.false_ne_true, if_neg (show ¬ (51 : Int) = 0 by decide)]
    refine semC_of_exec' mixed Try.func29 (by kernel_rfl) (by kernel_rfl) ac29_ok 2 rfl (by decide) [(.tmp 4), (.tmp 5)] (by kernel_rfl) ?_
    intro hr C hC hI
    unfold ac29
    simp only [go_sem, Nat.reduceBEq, Nat.reduceAdd]
    refine call_pure2 hC (rCheck_sem k k2 b) rfl (PVleL_refl _) ?_
    rintro r rfl
    simp only [go_sem, Nat.reduceBEq, Nat.reduceAdd, if_pos ho, decide_false, not_true_eq_false, Bool.false_eq_true]
    refine call_pure2 hC (hK) rfl (PVleL_refl _) ?_
    rintro r rfl
    simp only [go_sem, Nat.reduceBEq]
    refine call_pure2 hC (hA) rfl (PVleL_refl _) ?_
    rintro r rfl
    simp only [go_sem, Nat.reduceBEq, decide_true, Bool.false_eq_true, not_false_eq_true, Int.reduceEq]
    exact retQ_two_le rfl rfl (PVle.nil _ _ _) (PVle.refl _) rfl
  cases hr0 : rightB b
  · rw [hk0, hr0] at hA
    rw [hk0] at hK
    rw [if_pos rfl, if_neg Bool.false_ne_true, if_neg (show ¬ (52 : Int) = 0 by decide)]
    refine semC_of_exec' mixed Try.func29 (by kernel_rfl) (by kernel_rfl) ac29_ok 2 rfl (by decide) [(.tmp 4), (.tmp 5)] (by kernel_rfl) ?_
    intro hr C hC hI
    unfold ac29
    simp only [go_sem, Nat.reduceBEq, Nat.reduceAdd]
    refine call_pure2 hC (rCheck_sem k k2 b) rfl (PVleL_refl _) ?_
    rintro r rfl
    simp only [go_sem, Nat.reduceBEq, Nat.reduceAdd, if_pos ho, decide_false, not_true_eq_false, Bool.false_eq_true]
    refine call_pure2 hC (hK) rfl (PVleL_refl _) ?_
    rintro r rfl
    simp only [go_sem, Nat.reduceBEq]
    refine call_pure2 hC (hA) rfl (PVleL_refl _) ?_
    rintro r rfl
    simp only [go_sem, Nat.reduceBEq, decide_true, Bool.false_eq_true, not_false_eq_true, Int.reduceEq]
    exact retQ_two_le rfl rfl (PVle.nil _ _ _) (PVle.refl _) rfl
  rw [hk0, hr0] at hA
  rw [hk0] at hK
  rw [if_pos rfl, if_pos rfl, if_pos rfl]
  obtain ⟨q, rfl, hq⟩ := okK_nat hk0
  rw [Int.toNat_natCast, valuesL_list]
  have hL5 : Sem1 42 [pi (canN b q : Nat), pi 5] (pis (listI (canN b q : Nat) 5)) := List_sem (canN b q : Nat) 5 (by decide)
  refine semC_of_exec' mixed Try.func29 (by kernel_rfl) (by kernel_rfl) ac29_ok 2 rfl (by decide) [(.tmp 4), (.tmp 5)] (by kernel_rfl) ?_
  intro hr C hC hI
  unfold ac29
  simp only [go_sem, Nat.reduceBEq, Nat.reduceAdd]
  refine call_pure2 hC (rCheck_sem k k2 b) rfl (PVleL_refl _) ?_
  rintro r rfl
  simp only [go_sem, Nat.reduceBEq, Nat.reduceAdd, if_pos ho, decide_false, not_true_eq_false, Bool.false_eq_true]
  refine call_pure2 hC (hK) rfl (PVleL_refl _) ?_
  rintro r rfl
  simp only [go_sem, Nat.reduceBEq]
  refine call_pure2 hC (hA) rfl (PVleL_refl _) ?_
  rintro r rfl
  simp only [go_sem, Nat.reduceBEq, Nat.reduceAdd, decide_false, not_true_eq_false]
  refine call_pure2 hC (rcan_sem k k2 ho.1 hq) rfl (PVleL_refl _) ?_
  rintro r rfl
  simp only [go_sem, Nat.reduceBEq]
  refine call_pure2 hC (hL5) rfl (PVleL_refl _) ?_
  rintro r rfl
  simp only [go_sem, Nat.reduceBEq]
  exact retQ_two rfl rfl rfl
end Go.Proofs.Ythaplmohhbdfeaa.Mk
namespace Go.Proofs.Ythaplmohhbdfeaa.Mk
open Go.RowKit Ls
theorem both_iff {b : MBook} (h : okC b) {o u : Nat} : bothB b o u = true ↔ bothP b o u := by
  have h6 := h.2.1.2
  have key : ∀ c1 c2, (!lackB fun q => valA (unseenB b) o c1 q &&& valA (unseenB b) u c2 q) = true ↔ ∀ k, k < nK b → valN (unseenB b) o c1 k &&& valN (unseenB b) u c2 k ≠ 0 := fun c1 c2 => by
    rw [Bool.not_eq_true', Bool.eq_false_iff, ne_eq, lack_iff]
    constructor
    · intro H k hk he
      refine H ⟨k, by omega, ?_⟩
      unfold valA
      rw [if_pos (show k < nK (unseenB b) from hk), if_pos (show k < nK (unseenB b) from hk)]
      exact he
    · rintro H ⟨k, hk, he⟩
      unfold valA at he
      by_cases hn : k < nK b
      · rw [if_pos (show k < nK (unseenB b) from hn), if_pos (show k < nK (unseenB b) from hn)] at he
        exact H k hn he
      · rw [if_neg (show ¬ k < nK (unseenB b) from hn), if_neg (show ¬ k < nK (unseenB b) from hn)] at he
        cases he
  unfold bothB bothP
  rw [List.any_eq_true]
  constructor
  · rintro ⟨c1, h1, h2⟩
    obtain ⟨c2, h3, h4⟩ := List.any_eq_true.1 h2
    exact ⟨c1, h1, c2, h3, (key c1 c2).1 h4⟩
  · rintro ⟨c1, h1, c2, h3, h4⟩
    exact ⟨c1, h1, List.any_eq_true.2 ⟨c2, h3, (key c1 c2).2 h4⟩⟩
theorem bothP_comm {b : MBook} {o u : Nat} (h : bothP b o u) : bothP b u o := by
  obtain ⟨c1, h1, c2, h2, h3⟩ := h
  exact ⟨c2, h2, c1, h1, fun k hk => by rw [Nat.and_comm]; exact h3 k hk⟩
theorem bothB_comm {b : MBook} (h : okC b) (o u : Nat) : bothB b o u = bothB b u o := by
  rw [Bool.eq_iff_iff, both_iff h, both_iff h]
  exact ⟨bothP_comm, bothP_comm⟩
/-- Marks of which each one tells the value of its kind. -/
def exL (l : List Int) (j : Nat) : List (Int × Int) := (List.range j).map fun (k : Nat) => ((k : Int), 2 ^ exV l k)
theorem exactB_eq (b : MBook) (l : List Int) : exactB b l = { b with seen := exL l l.length } := rfl
theorem exL_next (l : List Int) (j : Nat) : exL l (j + 1) = exL l j ++ [((j : Int), 2 ^ exV l j)] := by
  unfold exL
  rw [List.range_succ, List.map_append]
  rfl
theorem exV_get {l : List Int} (h : fiveL l) {j : Nat} (hj : j < l.length) : l[j] = (exV l j : Int) := by
  have := h _ (List.getElem_mem hj)
  unfold exV
  rw [List.getD_eq_getElem?_getD, List.getElem?_eq_getElem hj]
  show l[j] = ((l[j]).toNat : Int)
  omega
theorem exL_len (l : List Int) (j : Nat) : (exL l j).length = j := by simp [exL]
theorem exact_ok {b : MBook} (h : okBook b) {l : List Int} (hf : fiveL l) (hl : l.length = nK b) : okBook (exactB b l) := by
  obtain ⟨⟨h1, h2, h3, h4, h5⟩, h8⟩ := h
  refine ⟨⟨h1, h2, h3, ?_, h5⟩, ?_⟩
  · intro m hm
    obtain ⟨k, hk, rfl⟩ := List.mem_map.1 hm
    have hk2 := List.mem_range.1 hk
    have h9 := ex_five hf k
    have hp : (2 : Int) ^ (l.getD k 0).toNat = ((2 ^ exV l k : Nat) : Int) := by
      unfold exV
      norm_cast
    have hle : 2 ^ exV l k ≤ 16 := Nat.pow_le_pow_right (n := 2) (by decide) (show exV l k ≤ 4 by omega)
    have hge : 1 ≤ 2 ^ exV l k := Nat.one_le_two_pow
    show (0 ≤ (k : Int) ∧ (k : Int) < (nK b : Int)) ∧ 1 ≤ (2 : Int) ^ (l.getD k 0).toNat ∧ (2 : Int) ^ (l.getD k 0).toNat ≤ 31
    rw [hp]
    omega
  · show (exL l l.length).length ≤ 8
    rw [exL_len]
    omega
def pickI (b : MBook) (o u k : Nat) : Int := (listI (pickN b o u k : Nat) 5).getD 0 0
def pickL (b : MBook) (o u j : Nat) : List Int := (List.range j).map (pickI b o u)
theorem pickL_next (b : MBook) (o u j : Nat) : (pickL b o u (j + 1)).map (fun x => [pi x]) = (pickL b o u j).map (fun x => [pi x]) ++ [[pi (pickI b o u j)]] := by
  unfold pickL
  rw [List.range_succ, List.map_append, List.map_append]
  rfl
theorem pick_pos {b : MBook} (h : okC b) {o u k : Nat} (ho : o < b.makers.length) (hu : u < b.makers.length) (hk : k < nK b) : 1 ≤ pickN b o u k ∧ pickN b o u k < 32 := by
  have h1 := h.mk ho hk
  have h2 := h.mk hu hk
  unfold pickN
  split
  · split <;> omega
  · rename_i hd
    unfold dK at hd
    rw [decide_eq_true_eq] at hd
    have := Nat.and_le_left (n := mkN b o k) (m := mkN b u k)
    omega
theorem pick_head {s : Nat} (h : 1 ≤ s ∧ s < 32) : ∃ h0 : 0 < (listI (s : Nat) 5).length, ∃ v : Nat, (listI (s : Nat) 5)[0] = (v : Int) ∧ v < 5 ∧ s.testBit v = true := by
  obtain ⟨i, hi⟩ := ne_bit.1 (show s ≠ 0 by omega)
  have hi5 : i < 5 := bit_lt (n := 5) (by omega) hi
  have hm : (i : Int) ∈ listI (s : Nat) 5 := (mem_listI hi5).2 (by rw [of_bit (by omega)]; exact hi)
  have h0 : 0 < (listI (s : Nat) 5).length := List.length_pos_of_mem hm
  have hx := List.getElem_mem h0
  unfold listI at hx
  obtain ⟨v, hv, ev⟩ := List.mem_map.1 hx
  obtain ⟨hv5, hb⟩ := List.mem_filter.1 hv
  have hv6 := List.mem_range.1 hv5
  rw [of_bit (by omega)] at hb
  exact ⟨h0, v, ev.symm, hv6, hb⟩
theorem pick_get {b : MBook} (h : okC b) {o u k : Nat} (ho : o < b.makers.length) (hu : u < b.makers.length) (hk : k < nK b) : ∃ h0 : 0 < (listI (pickN b o u k : Nat) 5).length, (listI (pickN b o u k : Nat) 5)[0] = pickI b o u k ∧ ∃ v : Nat, pickI b o u k = (v : Int) ∧ v < 5 ∧ (pickN b o u k).testBit v = true := by
  obtain ⟨h0, v, ev, hv, hb⟩ := pick_head (pick_pos h ho hu hk)
  have e : pickI b o u k = (listI (pickN b o u k : Nat) 5)[0] := by
    unfold pickI
    rw [List.getD_eq_getElem?_getD, List.getElem?_eq_getElem h0]
    rfl
  exact ⟨h0, e.symm, v, e.trans ev, hv, hb⟩
theorem pickL_len (b : MBook) (o u j : Nat) : (pickL b o u j).length = j := by simp [pickL]
theorem pickL_five {b : MBook} (h : okC b) {o u : Nat} (ho : o < b.makers.length) (hu : u < b.makers.length) : fiveL (pickL b o u (nK b)) := by
  intro x hx
  obtain ⟨k, hk, rfl⟩ := List.mem_map.1 hx
  obtain ⟨-, -, v, e, hv, -⟩ := pick_get h ho hu (List.mem_range.1 hk)
  rw [e]
  omega
theorem pickL_bit {b : MBook} (h : okC b) {o u : Nat} (ho : o < b.makers.length) (hu : u < b.makers.length) {k : Nat} (hk : k < nK b) : (pickN b o u k).testBit (exV (pickL b o u (nK b)) k) = true := by
  obtain ⟨-, -, v, e, hv, hb⟩ := pick_get h ho hu hk
  have : exV (pickL b o u (nK b)) k = v := by
    unfold exV pickL
    simp [List.getD_eq_getElem?_getD, hk, e]
  rw [this]
  exact hb
def anyL (bits : List Int) (j : Nat) : List Int := (List.range j).map fun (k : Nat) => rndI (takeL bits k) 5
theorem anyL_next (bits : List Int) (j : Nat) : (anyL bits (j + 1)).map (fun x => [pi x]) = (anyL bits j).map (fun x => [pi x]) ++ [[pi (rndI (takeL bits j) 5)]] := by
  unfold anyL
  rw [List.range_succ, List.map_append, List.map_append]
  rfl
theorem anyL_len (bits : List Int) (j : Nat) : (anyL bits j).length = j := by simp [anyL]
theorem anyL_five (bits : List Int) (j : Nat) : fiveL (anyL bits j) := by
  intro x hx
  obtain ⟨k, hk, rfl⟩ := List.mem_map.1 hx
  have := rndI_range (n := takeL bits k) (m := 5) (by decide)
  omega
theorem two_ne {len : Nat} {o : Nat} {r : Int} (ho : o < len) (h2 : 2 ≤ len) (hr : 0 ≤ r ∧ r < (len : Int) - 1) : ∃ u : Nat, rndI ((o : Int) + 1 + r) len = u ∧ u < len ∧ u ≠ o := by
  unfold rndI
  rw [if_neg (by omega)]
  by_cases h : (o : Int) + 1 + r < len
  · rw [Int.emod_eq_of_lt (by omega) h]
    exact ⟨((o : Int) + 1 + r).toNat, by omega, by omega, by omega⟩
  · have : ((o : Int) + 1 + r) / len = 1 ∧ ((o : Int) + 1 + r) % len = (o : Int) + 1 + r - len := (Int.ediv_emod_unique (by omega)).2 ⟨by omega, by omega, by omega⟩
    rw [this.2]
    exact ⟨((o : Int) + 1 + r - len).toNat, by omega, by omega, by omega⟩
end Go.Proofs.Ythaplmohhbdfeaa.Mk
