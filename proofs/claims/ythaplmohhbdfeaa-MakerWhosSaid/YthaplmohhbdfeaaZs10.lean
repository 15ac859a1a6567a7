/- MakerWhos Check, Right, Who, Needs and Changed return what the reference says; for every book and all numbers; no condition. Law: MakerWhos. Contracts of the reference of maker: Right, Who, Needs, Changed. -/
import Derived.Test.YthaplmohhbdfeaaZs09
import Derived.Test.YthaplmohhbdfeaaGa16
namespace Go.Proofs.Ythaplmohhbdfeaa.Mk
open Go.RowKit Ls
def ac17 : AC := (AC.seq (AC.ops [(AOp.mk (some 1) (AK.box 4 (AX.t 0)) none 0 false true), (AOp.mk (some 2) (AK.mv (AX.c (PV.val (Value.bool false)))) none 1 false true), (AOp.mk (some 3) (AK.mv (AX.c (PV.val (Value.int IntKind.i64 0)))) none 2 false true)]) (AC.seq (AC.seq (AC.ops [(AOp.mk (some 5) (AK.ld (some 4) (AX.t 1)) none 0 false true), (AOp.mk (some 6) (AK.call 19 [(AX.t 5)]) none 1 false true), (AOp.mk (some 4) (AK.mv (AX.t 6)) none 2 false true)]) (AC.seq (AC.ops [(AOp.mk (some 7) (AK.mv (AX.t 4)) none 0 false true), (AOp.mk (some 8) (AK.bin false BinOp.neq (AX.t 7) (AX.c (PV.val (Value.int IntKind.i64 0)))) none 1 false true)]) (AC.cond (AX.t 8) (AC.seq (AC.ops [(AOp.mk (some 9) (AK.mv (AX.t 4)) none 0 false true), (AOp.mk (some 2) (AK.mv (AX.c (PV.val (Value.bool false)))) none 1 false true), (AOp.mk (some 3) (AK.mv (AX.t 9)) none 2 false true)]) AC.ret) AC.skip))) (AC.seq (AC.ops [(AOp.mk (some 10) (AK.ld (some 4) (AX.t 1)) none 0 false true), (AOp.mk (some 11) (AK.call 65 [(AX.t 10)]) none 1 false true), (AOp.mk (some 2) (AK.mv (AX.t 11)) none 2 false true), (AOp.mk (some 3) (AK.mv (AX.c (PV.val (Value.int IntKind.i64 0)))) none 3 false true)]) AC.ret)))
theorem ac17_ok : cCode Try.prog (fun _ => false) Try.f17.ntmps (Try.f17.body.getD .skip) = some ac17 := by kernel_rfl
def ac21 : AC := (AC.seq (AC.ops [(AOp.mk (some 1) (AK.box 4 (AX.t 0)) none 0 false true), (AOp.mk (some 2) (AK.mv (AX.c (PV.sl SK.full 0 []))) none 1 false true), (AOp.mk (some 3) (AK.mv (AX.c (PV.val (Value.int IntKind.i64 0)))) none 2 false true)]) (AC.seq (AC.seq (AC.ops [(AOp.mk (some 6) (AK.ld (some 4) (AX.t 1)) none 0 false true), (AOp.mk (some 7) (AK.call 19 [(AX.t 6)]) none 1 false true), (AOp.mk (some 4) (AK.mv (AX.t 7)) none 2 false true)]) (AC.seq (AC.ops [(AOp.mk (some 8) (AK.mv (AX.t 4)) none 0 false true), (AOp.mk (some 9) (AK.bin false BinOp.neq (AX.t 8) (AX.c (PV.val (Value.int IntKind.i64 0)))) none 1 false true)]) (AC.cond (AX.t 9) (AC.seq (AC.ops [(AOp.mk (some 10) (AK.mv (AX.t 4)) none 0 false true), (AOp.mk (some 2) (AK.mv (AX.c (PV.sl SK.full 0 []))) none 1 false true), (AOp.mk (some 3) (AK.mv (AX.t 10)) none 2 false true)]) AC.ret) AC.skip))) (AC.seq (AC.seq (AC.ops [(AOp.mk (some 11) (AK.ld (some 4) (AX.t 1)) none 0 false true), (AOp.mk (some 12) (AK.call 71 [(AX.t 11), (AX.c (PV.val (Value.bool true)))]) none 1 false true), (AOp.mk (some 5) (AK.mv (AX.t 12)) none 2 false true)]) (AC.seq (AC.ops [(AOp.mk (some 13) (AK.mv (AX.t 5)) none 0 false true), (AOp.mk (some 14) (AK.bin false BinOp.neq (AX.t 13) (AX.c (PV.val (Value.int IntKind.i64 0)))) none 1 false true)]) (AC.cond (AX.t 14) (AC.seq (AC.ops [(AOp.mk (some 15) (AK.mv (AX.t 5)) none 0 false true), (AOp.mk (some 2) (AK.mv (AX.c (PV.sl SK.full 0 []))) none 1 false true), (AOp.mk (some 3) (AK.mv (AX.t 15)) none 2 false true)]) AC.ret) AC.skip))) (AC.seq (AC.ops [(AOp.mk (some 16) (AK.ld (some 4) (AX.t 1)) none 0 false true), (AOp.mk (some 17) (AK.call 72 [(AX.t 16)]) none 1 false true), (AOp.mk (some 2) (AK.mv (AX.t 17)) none 2 false true), (AOp.mk (some 3) (AK.mv (AX.c (PV.val (Value.int IntKind.i64 0)))) none 3 false true)]) AC.ret))))
theorem ac21_ok : cCode Try.prog (fun _ => false) Try.f21.ntmps (Try.f21.body.getD .skip) = some ac21 := by kernel_rfl
def ac24 : AC := (AC.seq (AC.ops [(AOp.mk (some 2) (AK.box 4 (AX.t 0)) none 0 false true), (AOp.mk (some 4) (AK.mv (AX.c (PV.val (Value.int IntKind.i64 0)))) none 1 false true), (AOp.mk (some 5) (AK.mv (AX.c (PV.val (Value.int IntKind.i64 0)))) none 2 false true)]) (AC.seq (AC.seq (AC.ops [(AOp.mk (some 9) (AK.ld (some 4) (AX.t 2)) none 0 false true), (AOp.mk (some 10) (AK.call 19 [(AX.t 9)]) none 1 false true), (AOp.mk (some 6) (AK.mv (AX.t 10)) none 2 false true)]) (AC.seq (AC.ops [(AOp.mk (some 11) (AK.mv (AX.t 6)) none 0 false true), (AOp.mk (some 12) (AK.bin false BinOp.neq (AX.t 11) (AX.c (PV.val (Value.int IntKind.i64 0)))) none 1 false true)]) (AC.cond (AX.t 12) (AC.seq (AC.ops [(AOp.mk (some 13) (AK.mv (AX.t 6)) none 0 false true), (AOp.mk (some 4) (AK.mv (AX.c (PV.val (Value.int IntKind.i64 0)))) none 1 false true), (AOp.mk (some 5) (AK.mv (AX.t 13)) none 2 false true)]) AC.ret) AC.skip))) (AC.seq (AC.seq (AC.ops [(AOp.mk (some 14) (AK.ld (some 4) (AX.t 2)) none 0 true false), (AOp.mk (some 15) (AK.ld (some 4) (AX.t 2)) none 1 true false), (AOp.mk (some 16) (AK.mv (AX.t 1)) none 2 true false), (AOp.mk (some 17) (AK.call 75 [(AX.t 15), (AX.t 16)]) none 3 false false), (AOp.mk (some 18) (AK.call 71 [(AX.t 14), (AX.t 17)]) none 4 false true), (AOp.mk (some 7) (AK.mv (AX.t 18)) none 5 true true)]) (AC.seq (AC.ops [(AOp.mk (some 19) (AK.mv (AX.t 7)) none 0 false true), (AOp.mk (some 20) (AK.bin false BinOp.neq (AX.t 19) (AX.c (PV.val (Value.int IntKind.i64 0)))) none 1 false true)]) (AC.cond (AX.t 20) (AC.seq (AC.ops [(AOp.mk (some 21) (AK.mv (AX.t 7)) none 0 false true), (AOp.mk (some 4) (AK.mv (AX.c (PV.val (Value.int IntKind.i64 0)))) none 1 false true), (AOp.mk (some 5) (AK.mv (AX.t 21)) none 2 false true)]) AC.ret) AC.skip))) (AC.seq (AC.ops [(AOp.mk (some 22) (AK.ld (some 4) (AX.t 2)) none 0 false true), (AOp.mk (some 8) (AK.new (PV.agg [(PV.sl SK.full 0 []), (PV.sl SK.full 0 []), (PV.val (Value.int IntKind.i64 0)), (PV.val (Value.int IntKind.i64 0))])) none 1 false true), (AOp.mk none (AK.st 4 (AX.t 8) (AX.t 22)) none 2 false true)]) (AC.seq (AC.seq (AC.ops [(AOp.mk (some 23) (AK.fadr 2 (AX.t 8)) none 0 false true), (AOp.mk none (AK.st 1 (AX.t 23) (AX.c (PV.val (Value.int IntKind.i64 0)))) none 1 false true)]) (AC.block 0 (AC.loop (AC.seq (AC.seq (AC.ops [(AOp.mk (some 24) (AK.fadr 2 (AX.t 8)) none 0 true false), (AOp.mk (some 25) (AK.ld none (AX.t 24)) none 1 true false), (AOp.mk (some 26) (AK.ld (some 4) (AX.t 2)) none 2 true false), (AOp.mk (some 27) (AK.call 67 [(AX.t 26)]) none 3 false false), (AOp.mk (some 28) (AK.bin false BinOp.leq (AX.t 25) (AX.t 27)) none 4 true true)]) (AC.cond (AX.t 28) AC.skip (AC.exit 0))) (AC.seq (AC.block 1 (AC.seq (AC.ops [(AOp.mk (some 33) (AK.ld (some 4) (AX.t 8)) none 0 false true), (AOp.mk (some 34) (AK.mv (AX.t 1)) none 1 false true), (AOp.mk (some 35) (AK.call 76 [(AX.t 33), (AX.t 34)]) none 2 false true)]) (AC.cond (AX.t 35) (AC.seq (AC.ops [(AOp.mk (some 36) (AK.fadr 2 (AX.t 8)) none 0 false true), (AOp.mk (some 37) (AK.ld none (AX.t 36)) none 1 false true), (AOp.mk (some 4) (AK.mv (AX.t 37)) none 2 false true), (AOp.mk (some 5) (AK.mv (AX.c (PV.val (Value.int IntKind.i64 0)))) none 3 false true)]) AC.ret) AC.skip))) (AC.ops [(AOp.mk (some 29) (AK.fadr 2 (AX.t 8)) none 0 false true), (AOp.mk (some 30) (AK.ld none (AX.t 29)) none 1 false true), (AOp.mk (some 31) (AK.bin false BinOp.add (AX.t 30) (AX.c (PV.val (Value.int IntKind.i64 1)))) none 2 false true), (AOp.mk (some 32) (AK.fadr 2 (AX.t 8)) none 3 false true), (AOp.mk none (AK.st 1 (AX.t 32) (AX.t 31)) none 4 false true)])))))) (AC.seq (AC.ops [(AOp.mk (some 4) (AK.mv (AX.c (PV.val (Value.int IntKind.i64 0)))) none 0 false true), (AOp.mk (some 5) (AK.mv (AX.c (PV.val (Value.int IntKind.i64 4)))) none 1 false true)]) AC.ret))))))
theorem ac24_ok : cCode Try.prog (fun _ => false) Try.f24.ntmps (Try.f24.body.getD .skip) = some ac24 := by kernel_rfl
def ac26 : AC := (AC.seq (AC.ops [(AOp.mk (some 3) (AK.box 4 (AX.t 0)) none 0 false true), (AOp.mk (some 6) (AK.mv (AX.c (PV.val (Value.int IntKind.i64 0)))) none 1 false true), (AOp.mk (some 7) (AK.mv (AX.c (PV.val (Value.int IntKind.i64 0)))) none 2 false true)]) (AC.seq (AC.seq (AC.ops [(AOp.mk (some 14) (AK.ld (some 4) (AX.t 3)) none 0 false true), (AOp.mk (some 15) (AK.call 19 [(AX.t 14)]) none 1 false true), (AOp.mk (some 8) (AK.mv (AX.t 15)) none 2 false true)]) (AC.seq (AC.ops [(AOp.mk (some 16) (AK.mv (AX.t 8)) none 0 false true), (AOp.mk (some 17) (AK.bin false BinOp.neq (AX.t 16) (AX.c (PV.val (Value.int IntKind.i64 0)))) none 1 false true)]) (AC.cond (AX.t 17) (AC.seq (AC.ops [(AOp.mk (some 18) (AK.mv (AX.t 8)) none 0 false true), (AOp.mk (some 6) (AK.mv (AX.c (PV.val (Value.int IntKind.i64 0)))) none 1 false true), (AOp.mk (some 7) (AK.mv (AX.t 18)) none 2 false true)]) AC.ret) AC.skip))) (AC.seq (AC.seq (AC.ops [(AOp.mk (some 19) (AK.ld (some 4) (AX.t 3)) none 0 true false), (AOp.mk (some 20) (AK.ld (some 4) (AX.t 3)) none 1 true false), (AOp.mk (some 21) (AK.mv (AX.t 1)) none 2 true false), (AOp.mk (some 22) (AK.call 75 [(AX.t 20), (AX.t 21)]) none 3 false false), (AOp.mk (some 23) (AK.mv (AX.t 22)) none 4 true false), (AOp.mk (some 24) (AK.ld (some 4) (AX.t 3)) (some (23, true)) 5 true false), (AOp.mk (some 25) (AK.mv (AX.t 2)) (some (23, true)) 6 true false), (AOp.mk (some 26) (AK.call 68 [(AX.t 24), (AX.t 25)]) (some (23, true)) 7 false false), (AOp.mk (some 27) (AK.pick (AX.t 23) (AX.t 26) (AX.c (PV.val (Value.bool false)))) none 8 true false), (AOp.mk (some 28) (AK.call 71 [(AX.t 19), (AX.t 27)]) none 9 false true), (AOp.mk (some 9) (AK.mv (AX.t 28)) none 10 true true)]) (AC.seq (AC.ops [(AOp.mk (some 29) (AK.mv (AX.t 9)) none 0 false true), (AOp.mk (some 30) (AK.bin false BinOp.neq (AX.t 29) (AX.c (PV.val (Value.int IntKind.i64 0)))) none 1 false true)]) (AC.cond (AX.t 30) (AC.seq (AC.ops [(AOp.mk (some 31) (AK.mv (AX.t 9)) none 0 false true), (AOp.mk (some 6) (AK.mv (AX.c (PV.val (Value.int IntKind.i64 0)))) none 1 false true), (AOp.mk (some 7) (AK.mv (AX.t 31)) none 2 false true)]) AC.ret) AC.skip))) (AC.seq (AC.ops [(AOp.mk (some 32) (AK.ld (some 4) (AX.t 3)) none 0 false true), (AOp.mk (some 33) (AK.mv (AX.t 1)) none 1 false true), (AOp.mk (some 34) (AK.call 80 [(AX.t 32), (AX.t 33)]) none 2 false true), (AOp.mk (some 10) (AK.mv (AX.t 34)) none 3 false true)]) (AC.seq (AC.seq (AC.ops [(AOp.mk (some 35) (AK.mv (AX.t 10)) none 0 false true), (AOp.mk (some 36) (AK.len (AX.t 35)) none 1 false true), (AOp.mk (some 37) (AK.bin false BinOp.eql (AX.t 36) (AX.c (PV.val (Value.int IntKind.i64 0)))) none 2 false true)]) (AC.cond (AX.t 37) (AC.seq (AC.ops [(AOp.mk (some 6) (AK.mv (AX.c (PV.val (Value.int IntKind.i64 0)))) none 0 false true), (AOp.mk (some 7) (AK.mv (AX.c (PV.val (Value.int IntKind.i64 4)))) none 1 false true)]) AC.ret) AC.skip)) (AC.seq (AC.ops [(AOp.mk (some 11) (AK.mv (AX.c (PV.val (Value.bool false)))) none 0 false true), (AOp.mk (some 12) (AK.mv (AX.c (PV.val (Value.bool true)))) none 1 false true)]) (AC.seq (AC.seq (AC.ops [(AOp.mk (some 13) (AK.mv (AX.c (PV.val (Value.int IntKind.i64 0)))) none 0 false true)]) (AC.block 0 (AC.loop (AC.seq (AC.seq (AC.ops [(AOp.mk (some 38) (AK.mv (AX.t 13)) none 0 false true), (AOp.mk (some 39) (AK.mv (AX.t 10)) none 1 false true), (AOp.mk (some 40) (AK.len (AX.t 39)) none 2 false true), (AOp.mk (some 41) (AK.bin false BinOp.lss (AX.t 38) (AX.t 40)) none 3 false true)]) (AC.cond (AX.t 41) AC.skip (AC.exit 0))) (AC.seq (AC.block 1 (AC.ops [(AOp.mk (some 44) (AK.mv (AX.t 11)) none 0 false true), (AOp.mk (some 45) (AK.mv (AX.t 44)) none 1 false true), (AOp.mk (some 46) (AK.mv (AX.t 10)) (some (45, false)) 2 false true), (AOp.mk (some 47) (AK.mv (AX.t 13)) (some (45, false)) 3 false true), (AOp.mk (some 48) (AK.iadrS 1 (AX.t 46) (AX.t 47)) (some (45, false)) 4 false true), (AOp.mk (some 49) (AK.ld none (AX.t 48)) (some (45, false)) 5 false true), (AOp.mk (some 50) (AK.mv (AX.t 2)) (some (45, false)) 6 false true), (AOp.mk (some 51) (AK.call 44 [(AX.t 49), (AX.t 50)]) (some (45, false)) 7 false true), (AOp.mk (some 52) (AK.pick (AX.t 45) (AX.c (PV.val (Value.bool true))) (AX.t 51)) none 8 false true), (AOp.mk (some 53) (AK.mv (AX.t 12)) none 9 false true), (AOp.mk (some 54) (AK.mv (AX.t 53)) none 10 false true), (AOp.mk (some 55) (AK.mv (AX.t 10)) (some (54, true)) 11 false true), (AOp.mk (some 56) (AK.mv (AX.t 13)) (some (54, true)) 12 false true), (AOp.mk (some 57) (AK.iadrS 1 (AX.t 55) (AX.t 56)) (some (54, true)) 13 false true), (AOp.mk (some 58) (AK.ld none (AX.t 57)) (some (54, true)) 14 false true), (AOp.mk (some 59) (AK.mv (AX.t 2)) (some (54, true)) 15 false true), (AOp.mk (some 60) (AK.call 44 [(AX.t 58), (AX.t 59)]) (some (54, true)) 16 false true), (AOp.mk (some 61) (AK.pick (AX.t 54) (AX.t 60) (AX.c (PV.val (Value.bool false)))) none 17 false true), (AOp.mk (some 11) (AK.mv (AX.t 52)) none 18 false true), (AOp.mk (some 12) (AK.mv (AX.t 61)) none 19 false true)])) (AC.ops [(AOp.mk (some 42) (AK.mv (AX.t 13)) none 0 false true), (AOp.mk (some 43) (AK.bin false BinOp.add (AX.t 42) (AX.c (PV.val (Value.int IntKind.i64 1)))) none 1 false true), (AOp.mk (some 13) (AK.mv (AX.t 43)) none 2 false true)])))))) (AC.seq (AC.seq (AC.ops [(AOp.mk (some 62) (AK.mv (AX.t 12)) none 0 false true)]) (AC.cond (AX.t 62) (AC.seq (AC.ops [(AOp.mk (some 6) (AK.mv (AX.c (PV.val (Value.int IntKind.i64 2)))) none 0 false true), (AOp.mk (some 7) (AK.mv (AX.c (PV.val (Value.int IntKind.i64 0)))) none 1 false true)]) AC.ret) AC.skip)) (AC.seq (AC.seq (AC.ops [(AOp.mk (some 63) (AK.mv (AX.t 11)) none 0 false true)]) (AC.cond (AX.t 63) (AC.seq (AC.ops [(AOp.mk (some 6) (AK.mv (AX.c (PV.val (Value.int IntKind.i64 1)))) none 0 false true), (AOp.mk (some 7) (AK.mv (AX.c (PV.val (Value.int IntKind.i64 0)))) none 1 false true)]) AC.ret) AC.skip)) (AC.seq (AC.ops [(AOp.mk (some 6) (AK.mv (AX.c (PV.val (Value.int IntKind.i64 0)))) none 0 false true), (AOp.mk (some 7) (AK.mv (AX.c (PV.val (Value.int IntKind.i64 0)))) none 1 false true)]) AC.ret))))))))))
theorem ac26_ok : cCode Try.prog (fun _ => false) Try.f26.ntmps (Try.f26.body.getD .skip) = some ac26 := by kernel_rfl
theorem rRight_sem (k k2 : SK) (b : MBook) : Sem1 17 [.agg (bookC k k2 b)] (if errA b true = 0 then .tup [pb (rightB b), pi 0] else .tup [pb false, pi (errA b true)]) := by
  by_cases ho : okBook b
  · have he := okA ho
    rw [if_pos he]
    refine semC_of_exec' mixed Try.func17 (by kernel_rfl) (by kernel_rfl) ac17_ok 1 rfl (by decide) [(.tmp 2), (.tmp 3)] (by kernel_rfl) ?_
    intro hr C hC hI
    unfold ac17
    simp only [go_sem, Nat.reduceBEq, Nat.reduceAdd]
    refine call_pure2 hC (rCheck_sem k k2 b) rfl (PVleL_refl _) ?_
    rintro r rfl
    simp only [go_sem, Nat.reduceBEq, Nat.reduceAdd, if_pos ho, decide_false, not_true_eq_false]
    refine call_pure2 hC (rright_sem k k2 ho.1) rfl (PVleL_refl _) ?_
    rintro r rfl
    simp only [go_sem, Nat.reduceBEq]
    exact retQ_two rfl rfl rfl
  · have he : errA b true = 50 := by unfold errA; rw [if_neg ho]
    rw [he, if_neg (by decide)]
    refine semC_of_exec' mixed Try.func17 (by kernel_rfl) (by kernel_rfl) ac17_ok 1 rfl (by decide) [(.tmp 2), (.tmp 3)] (by kernel_rfl) ?_
    intro hr C hC hI
    unfold ac17
    simp only [go_sem, Nat.reduceBEq, Nat.reduceAdd]
    refine call_pure2 hC (rCheck_sem k k2 b) rfl (PVleL_refl _) ?_
    rintro r rfl
    simp only [go_sem, Nat.reduceBEq, if_neg ho, decide_true, not_false_eq_true, Int.reduceEq]
    exact retQ_two rfl rfl rfl
theorem errR_no {b : MBook} (ho : ¬ okBook b) (known : Bool) : errR b known = 50 := by unfold errR; rw [if_neg ho]
theorem errR_yes {b : MBook} (ho : okBook b) (known : Bool) : errR b known = if known then (if rightB b then 0 else 52) else 51 := by unfold errR; rw [if_pos ho]
theorem rWho_sem (k k2 : SK) (b : MBook) : Sem1 21 [.agg (bookC k k2 b)] (if errR b true = 0 then .tup [pis (natL (whoL b)), pi 0] else .tup [pis [], pi (errR b true)]) := by
  by_cases ho : okBook b
  · rw [errR_yes ho]
    have hA := rasked_sem k k2 ho.1 true
    cases hr0 : rightB b
    · rw [hr0] at hA
      rw [if_pos rfl, if_neg (by decide), if_neg (by decide)]
      refine semC_of_exec' mixed Try.func21 (by kernel_rfl) (by kernel_rfl) ac21_ok 1 rfl (by decide) [(.tmp 2), (.tmp 3)] (by kernel_rfl) ?_
      intro hr C hC hI
      unfold ac21
      simp only [go_sem, Nat.reduceBEq, Nat.reduceAdd]
      refine call_pure2 hC (rCheck_sem k k2 b) rfl (PVleL_refl _) ?_
      rintro r rfl
      simp only [go_sem, Nat.reduceBEq, Nat.reduceAdd, if_pos ho, decide_false, not_true_eq_false]
      refine call_pure2 hC (hA) rfl (PVleL_refl _) ?_
      rintro r rfl
      simp only [go_sem, Nat.reduceBEq, decide_true, Bool.false_eq_true, not_false_eq_true, Int.reduceEq]
      exact retQ_two_le rfl rfl (PVle.nil _ _ _) (PVle.refl _) rfl
    · rw [hr0] at hA
      rw [if_pos rfl, if_pos rfl, if_pos rfl]
      refine semC_of_exec' mixed Try.func21 (by kernel_rfl) (by kernel_rfl) ac21_ok 1 rfl (by decide) [(.tmp 2), (.tmp 3)] (by kernel_rfl) ?_
      intro hr C hC hI
      unfold ac21
      simp only [go_sem, Nat.reduceBEq, Nat.reduceAdd]
      refine call_pure2 hC (rCheck_sem k k2 b) rfl (PVleL_refl _) ?_
      rintro r rfl
      simp only [go_sem, Nat.reduceBEq, Nat.reduceAdd, if_pos ho, decide_false, not_true_eq_false]
      refine call_pure2 hC (hA) rfl (PVleL_refl _) ?_
      rintro r rfl
      simp only [go_sem, Nat.reduceBEq, Nat.reduceAdd, decide_false, not_true_eq_false]
      refine call_pure2 hC (rwho_sem k k2 ho.1) rfl (PVleL_refl _) ?_
      rintro r rfl
      simp only [go_sem, Nat.reduceBEq]
      exact retQ_two rfl rfl rfl
  · rw [errR_no ho, if_neg (by decide)]
    refine semC_of_exec' mixed Try.func21 (by kernel_rfl) (by kernel_rfl) ac21_ok 1 rfl (by decide) [(.tmp 2), (.tmp 3)] (by kernel_rfl) ?_
    intro hr C hC hI
    unfold ac21
    simp only [go_sem, Nat.reduceBEq, Nat.reduceAdd]
    refine call_pure2 hC (rCheck_sem k k2 b) rfl (PVleL_refl _) ?_
    rintro r rfl
    simp only [go_sem, Nat.reduceBEq, if_neg ho, decide_true, not_false_eq_true, Int.reduceEq]
    exact retQ_two_le rfl rfl (PVle.nil _ _ _) (PVle.refl _) rfl
theorem rNeeds_sem (k k2 : SK) (b : MBook) (n : Int) : Sem1 24 [.agg (bookC k k2 b), pi n] (if errR b (okM b n) = 0 then needsR (needsO b n.toNat) else .tup [pi 0, pi (errR b (okM b n))]) := by
  by_cases ho : okBook b
  rotate_left
  · rw [errR_no ho, if_neg (by decide)]
    refine semC_of_exec' mixed Try.func24 (by kernel_rfl) (by kernel_rfl) ac24_ok 2 rfl (by decide) [(.tmp 4), (.tmp 5)] (by kernel_rfl) ?_
    intro hr C hC hI
    unfold ac24
    simp only [go_sem, Nat.reduceBEq, Nat.reduceAdd]
    refine call_pure2 hC (rCheck_sem k k2 b) rfl (PVleL_refl _) ?_
    rintro r rfl
    simp only [go_sem, Nat.reduceBEq, if_neg ho, decide_true, not_false_eq_true, Int.reduceEq]
    exact retQ_two rfl rfl rfl
  rw [errR_yes ho]
  have hA := rasked_sem k k2 ho.1 (okM b n)
  have hM := risMaker_sem k k2 ho.1 n
  cases hm0 : okM b n
  · rw [hm0] at hA hM
    rw [if_neg Bool.false_ne_true, if_neg (show ¬ (51 : Int) = 0 by decide)]
    refine semC_of_exec' mixed Try.func24 (by kernel_rfl) (by kernel_rfl) ac24_ok 2 rfl (by decide) [(.tmp 4), (.tmp 5)] (by kernel_rfl) ?_
    intro hr C hC hI
    unfold ac24
    simp only [go_sem, Nat.reduceBEq, Nat.reduceAdd]
    refine call_pure2 hC (rCheck_sem k k2 b) rfl (PVleL_refl _) ?_
    rintro r rfl
    simp only [go_sem, Nat.reduceBEq, Nat.reduceAdd, if_pos ho, decide_false, not_true_eq_false, Bool.false_eq_true]
    refine call_pure2 hC (hM) rfl (PVleL_refl _) ?_
    rintro r rfl
    simp only [go_sem, Nat.reduceBEq]
    refine call_pure2 hC (hA) rfl (PVleL_refl _) ?_
    rintro r rfl
    simp only [go_sem, Nat.reduceBEq, decide_true, Bool.false_eq_true, not_false_eq_true, Int.reduceEq]
    exact retQ_two rfl rfl rfl
  cases hr0 : rightB b
  · rw [hm0, hr0] at hA
    rw [hm0] at hM
    rw [if_pos rfl, if_neg (by decide), if_neg (by decide)]
    refine semC_of_exec' mixed Try.func24 (by kernel_rfl) (by kernel_rfl) ac24_ok 2 rfl (by decide) [(.tmp 4), (.tmp 5)] (by kernel_rfl) ?_
    intro hr C hC hI
    unfold ac24
    simp only [go_sem, Nat.reduceBEq, Nat.reduceAdd]
    refine call_pure2 hC (rCheck_sem k k2 b) rfl (PVleL_refl _) ?_
    rintro r rfl
    simp only [go_sem, Nat.reduceBEq, Nat.reduceAdd, if_pos ho, decide_false, not_true_eq_false, Bool.false_eq_true]
    refine call_pure2 hC (hM) rfl (PVleL_refl _) ?_
    rintro r rfl
    simp only [go_sem, Nat.reduceBEq]
    refine call_pure2 hC (hA) rfl (PVleL_refl _) ?_
    rintro r rfl
    simp only [go_sem, Nat.reduceBEq, decide_true, Bool.false_eq_true, not_false_eq_true, Int.reduceEq]
    exact retQ_two rfl rfl rfl
  rw [hm0, hr0] at hA
  rw [hm0] at hM
  rw [if_pos rfl, if_pos rfl, if_pos rfl]
  obtain ⟨m, rfl, hm⟩ := okM_nat hm0
  rw [Int.toNat_natCast]
  have h2 := ho.1.2.1
  refine semC_of_exec' mixed Try.func24 (by kernel_rfl) (by kernel_rfl) ac24_ok 2 rfl (by decide) [(.tmp 4), (.tmp 5)] (by kernel_rfl) ?_
  intro hr C hC hI
  unfold ac24
  simp only [go_sem, Nat.reduceBEq, Nat.reduceAdd]
  refine call_pure2 hC (rCheck_sem k k2 b) rfl (PVleL_refl _) ?_
  rintro r rfl
  simp only [go_sem, Nat.reduceBEq, Nat.reduceAdd, if_pos ho, decide_false, not_true_eq_false, Bool.false_eq_true]
  refine call_pure2 hC (hM) rfl (PVleL_refl _) ?_
  rintro r rfl
  simp only [go_sem, Nat.reduceBEq]
  refine call_pure2 hC (hA) rfl (PVleL_refl _) ?_
  rintro r rfl
  simp only [go_sem, Nat.reduceBEq, Nat.reduceAdd, Nat.reduceLeDiff, putCells, decide_false, not_true_eq_false, not_false_eq_true]
  refine loop_kl (nK b + 1) (fun j => ∀ x, x < j → possB (withR b x) m = false) [1, 2, 8] (fun j => []) (fun j => [.cells ((bookC k k2 b).map .p), .cells [.p (.sl k 1 (rowsC b.makers)), .p (.sl k2 2 (seenC b.seen)), .p (pi j), .p (pi b.fixed)]]) (fun x h => absurd h (by omega)) (by simp [Wk, wkT, wkL, look, AV.lo, AV.lo.loL, ABlk.toZ, upS_eq, keepS_nil, keepS_cons]) ?_
  rintro j ⟨hj, hok⟩
  simp only [go_sem, Nat.reduceBEq, Nat.reduceAdd]
  refine call_pure2 hC (rkinds_sem k k2 ho.1) rfl (PVleL_refl _) ?_
  rintro r rfl
  simp only [go_sem, Nat.reduceBEq, Nat.reduceAdd]
  refine ⟨fun d5 => ?_, fun d5 => ?_⟩
  · have hj2 : j < nK b + 1 := by omega
    have hP := rpossible_sem k k2 (b := withR b j) (ho.1.withR (by omega)) (m := m) hm
    refine call_pure2 hC (hP) rfl (PVleL_refl _) ?_
    rintro r rfl
    simp only [go_sem, Nat.reduceBEq]
    cases hp : possB (withR b j) m
    · simp only [go_sem, Nat.reduceBEq, Nat.reduceAdd, Nat.reduceLeDiff, putCells, wrap_succ (k := j) (by omega)]
      refine ⟨⟨j + 1, hj2, fun x hx => ?_⟩, by simp only; omega, by simp [Wk, wkT, wkL, look, AV.lo, AV.lo.loL, ABlk.toZ]⟩
      by_cases e : x = j
      · rw [e]; exact hp
      · exact hok x (by omega)
    · have e : needsO b m = some j := find_range hj2 hp hok
      rw [e]
      simp only [go_sem, Nat.reduceBEq]
      exact retQ_two rfl rfl rfl
  · have e : needsO b m = none := needs_none fun x hx => hok x (by omega)
    rw [e]
    exact retQ_two rfl rfl rfl
theorem rChanged_sem (k k2 : SK) (b : MBook) (n p : Int) : Sem1 26 [.agg (bookC k k2 b), pi n, pi p] (if errR b (okM b n && okK b p) = 0 then (if possB b n.toNat then .tup [pi (verdictI b n.toNat p.toNat), pi 0] else .tup [pi 0, pi 4]) else .tup [pi 0, pi (errR b (okM b n && okK b p))]) := by
  by_cases ho : okBook b
  rotate_left
  · rw [errR_no ho, if_neg (by decide)]
    refine semC_of_exec' mixed Try.func26 (by kernel_rfl) (by kernel_rfl) ac26_ok 3 rfl (by decide) [(.tmp 6), (.tmp 7)] (by kernel_rfl) ?_
    intro hr C hC hI
    unfold ac26
    simp only [go_sem, Nat.reduceBEq, Nat.reduceAdd]
    refine call_pure2 hC (rCheck_sem k k2 b) rfl (PVleL_refl _) ?_
    rintro r rfl
    simp only [go_sem, Nat.reduceBEq, if_neg ho, decide_true, not_false_eq_true, Int.reduceEq]
    exact retQ_two rfl rfl rfl
  rw [errR_yes ho]
  have hA := rasked_sem k k2 ho.1 (okM b n && okK b p)
  have hM := risMaker_sem k k2 ho.1 n
  have hK := risKind_sem k k2 ho.1 p
  cases hm0 : okM b n
  · rw [hm0, Bool.false_and] at hA
    rw [hm0] at hM
    rw [Bool.false_and, if_neg Bool.false_ne_true, if_neg (show ¬ (51 : Int) = 0 by decide)]
    refine semC_of_exec' mixed Try.func26 (by kernel_rfl) (by kernel_rfl) ac26_ok 3 rfl (by decide) [(.tmp 6), (.tmp 7)] (by kernel_rfl) ?_
    intro hr C hC hI
    unfold ac26
    simp only [go_sem, Nat.reduceBEq, Nat.reduceAdd]
    refine call_pure2 hC (rCheck_sem k k2 b) rfl (PVleL_refl _) ?_
    rintro r rfl
    simp only [go_sem, Nat.reduceBEq, Nat.reduceAdd, if_pos ho, decide_false, not_true_eq_false, Bool.false_eq_true]
    refine call_pure2 hC (hM) rfl (PVleL_refl _) ?_
    rintro r rfl
    simp only [go_sem, Nat.reduceBEq]
    refine call_pure2 hC (hA) rfl (PVleL_refl _) ?_
    rintro r rfl
    simp only [go_sem, Nat.reduceBEq, decide_true, Bool.false_eq_true, not_false_eq_true, Int.reduceEq]
    exact retQ_two rfl rfl rfl
  cases hk0 : okK b p
  · rw [hm0, hk0, Bool.true_and] at hA
    rw [hm0] at hM
    rw [hk0] at hK
    rw [Bool.true_and, if_neg Bool.false_ne_true, if_neg (show ¬ (51 : Int) = 0 by decide)]
    refine semC_of_exec' mixed Try.func26 (by kernel_rfl) (by kernel_rfl) ac26_ok 3 rfl (by decide) [(.tmp 6), (.tmp 7)] (by kernel_rfl) ?_
    intro hr C hC hI
    unfold ac26
    simp only [go_sem, Nat.reduceBEq, Nat.reduceAdd]
    refine call_pure2 hC (rCheck_sem k k2 b) rfl (PVleL_refl _) ?_
    rintro r rfl
    simp only [go_sem, Nat.reduceBEq, Nat.reduceAdd, if_pos ho, decide_false, not_true_eq_false, Bool.false_eq_true]
    refine call_pure2 hC (hM) rfl (PVleL_refl _) ?_
    rintro r rfl
    simp only [go_sem, Nat.reduceBEq, Nat.reduceAdd]
    refine call_pure2 hC (hK) rfl (PVleL_refl _) ?_
    rintro r rfl
    simp only [go_sem, Nat.reduceBEq]
    refine call_pure2 hC (hA) rfl (PVleL_refl _) ?_
    rintro r rfl
    simp only [go_sem, Nat.reduceBEq, decide_true, Bool.false_eq_true, not_false_eq_true, Int.reduceEq]
    exact retQ_two rfl rfl rfl
  rw [hm0, hk0, Bool.true_and] at hA
  rw [hm0] at hM
  rw [hk0] at hK
  rw [Bool.true_and, if_pos rfl]
  cases hr0 : rightB b
  · rw [hr0] at hA
    rw [if_neg Bool.false_ne_true, if_neg (show ¬ (52 : Int) = 0 by decide)]
    refine semC_of_exec' mixed Try.func26 (by kernel_rfl) (by kernel_rfl) ac26_ok 3 rfl (by decide) [(.tmp 6), (.tmp 7)] (by kernel_rfl) ?_
    intro hr C hC hI
    unfold ac26
    simp only [go_sem, Nat.reduceBEq, Nat.reduceAdd]
    refine call_pure2 hC (rCheck_sem k k2 b) rfl (PVleL_refl _) ?_
    rintro r rfl
    simp only [go_sem, Nat.reduceBEq, Nat.reduceAdd, if_pos ho, decide_false, not_true_eq_false, Bool.false_eq_true]
    refine call_pure2 hC (hM) rfl (PVleL_refl _) ?_
    rintro r rfl
    simp only [go_sem, Nat.reduceBEq, Nat.reduceAdd]
    refine call_pure2 hC (hK) rfl (PVleL_refl _) ?_
    rintro r rfl
    simp only [go_sem, Nat.reduceBEq]
    refine call_pure2 hC (hA) rfl (PVleL_refl _) ?_
    rintro r rfl
    simp only [go_sem, Nat.reduceBEq, decide_true, Bool.false_eq_true, not_false_eq_true, Int.reduceEq]
    exact retQ_two rfl rfl rfl
  rw [hr0] at hA
  rw [if_pos rfl, if_pos rfl]
  obtain ⟨m, rfl, hm⟩ := okM_nat hm0
  obtain ⟨q, rfl, hq⟩ := okK_nat hk0
  rw [Int.toNat_natCast, Int.toNat_natCast]
  have h2 := ho.1.2.1
  have h64 := pow_le64 ho.1
  have htl : (truthsL b m).length ≤ 2 ^ nK b := Nat.le_trans (List.length_filter_le ..) (by simp)
  have hpo : possB b m = decide (truthsL b m ≠ []) := rfl
  have hve : verdictI b m q = if (truthsL b m).all fun c => c.testBit q then 2 else if (truthsL b m).any fun c => c.testBit q then 1 else 0 := rfl
  have hT := rtruths_sem k k2 ho.1 hm
  obtain ⟨L, hL⟩ : ∃ L, truthsL b m = L := ⟨_, rfl⟩
  rw [hL] at hT hpo hve htl
  by_cases hn : L = []
  · subst hn
    rw [hpo]
    refine semC_of_exec' mixed Try.func26 (by kernel_rfl) (by kernel_rfl) ac26_ok 3 rfl (by decide) [(.tmp 6), (.tmp 7)] (by kernel_rfl) ?_
    intro hr C hC hI
    unfold ac26
    simp only [go_sem, Nat.reduceBEq, Nat.reduceAdd]
    refine call_pure2 hC (rCheck_sem k k2 b) rfl (PVleL_refl _) ?_
    rintro r rfl
    simp only [go_sem, Nat.reduceBEq, Nat.reduceAdd, if_pos ho, decide_false, not_true_eq_false, Bool.false_eq_true]
    refine call_pure2 hC (hM) rfl (PVleL_refl _) ?_
    rintro r rfl
    simp only [go_sem, Nat.reduceBEq, Nat.reduceAdd]
    refine call_pure2 hC (hK) rfl (PVleL_refl _) ?_
    rintro r rfl
    simp only [go_sem, Nat.reduceBEq]
    refine call_pure2 hC (hA) rfl (PVleL_refl _) ?_
    rintro r rfl
    simp only [go_sem, Nat.reduceBEq, Nat.reduceAdd, decide_false, not_true_eq_false]
    refine call_pure2 hC (hT) rfl (PVleL_refl _) ?_
    rintro r rfl
    simp only [go_sem, Nat.reduceBEq, natL, List.map_nil, List.length_nil, Int.natCast_zero, decide_true]
    exact retQ_two rfl rfl rfl
  have hlp := List.length_pos_iff.2 hn
  rw [hpo, decide_eq_true hn, if_pos rfl, hve]
  have hlz : ¬ (L.length : Int) = 0 := by omega
  refine semC_of_exec' mixed Try.func26 (by kernel_rfl) (by kernel_rfl) ac26_ok 3 rfl (by decide) [(.tmp 6), (.tmp 7)] (by kernel_rfl) ?_
  intro hr C hC hI
  unfold ac26
  simp only [go_sem, Nat.reduceBEq, Nat.reduceAdd]
  refine call_pure2 hC (rCheck_sem k k2 b) rfl (PVleL_refl _) ?_
  rintro r rfl
  simp only [go_sem, Nat.reduceBEq, Nat.reduceAdd, if_pos ho, decide_false, not_true_eq_false, Bool.false_eq_true]
  refine call_pure2 hC (hM) rfl (PVleL_refl _) ?_
  rintro r rfl
  simp only [go_sem, Nat.reduceBEq, Nat.reduceAdd]
  refine call_pure2 hC (hK) rfl (PVleL_refl _) ?_
  rintro r rfl
  simp only [go_sem, Nat.reduceBEq]
  refine call_pure2 hC (hA) rfl (PVleL_refl _) ?_
  rintro r rfl
  simp only [go_sem, Nat.reduceBEq, Nat.reduceAdd, decide_false, not_true_eq_false]
  refine call_pure2 hC (hT) rfl (PVleL_refl _) ?_
  rintro r rfl
  simp only [go_sem, Nat.reduceBEq, List.length_map, natL_len, eq_false hlz, decide_false]
  refine loop_k L.length (fun _ => True) [2, 10] (fun j => [(11, .p (pb ((L.take j).any fun c => c.testBit q))), (12, .p (pb ((L.take j).all fun c => c.testBit q))), (13, .p (pi j))]) trivial (by simp [loAll, look, AV.lo]) ⟨by simp [loBlk, AV.lo, AV.lo.loL], by simp, by simp⟩ (by simp [wkT, look, AV.lo]) ?_
  rintro j ⟨hj, -⟩
  simp only [go_sem, Nat.reduceBEq, List.length_map, natL_len]
  refine ⟨fun d5 => ?_, fun d5 => ?_⟩
  · have hj2 : j < L.length := by omega
    have hjl : j < (natL L).length := by rw [natL_len]; exact hj2
    obtain ⟨c, ec⟩ : ∃ c, L[j] = c := ⟨_, rfl⟩
    have hjv : (natL L)[j] = (c : Int) := by simp [natL, ec]
    have hn1 : ((L.take (j + 1)).any fun c => c.testBit q) = (((L.take j).any fun c => c.testBit q) || c.testBit q) := by
      rw [List.take_succ_eq_append_getElem hj2, List.any_append, ec]
      simp
    have hn2 : ((L.take (j + 1)).all fun c => c.testBit q) = (((L.take j).all fun c => c.testBit q) && c.testBit q) := by
      rw [List.take_succ_eq_append_getElem hj2, List.all_append, ec]
      simp
    have hOf := Of_sem (c : Nat) q (by omega)
    rw [of_bit (s := c) (i := q) (by omega)] at hOf
    obtain ⟨S, hS⟩ : ∃ S, ((L.take j).any fun c => c.testBit q) = S := ⟨_, rfl⟩
    obtain ⟨A, hA2⟩ : ∃ A, ((L.take j).all fun c => c.testBit q) = A := ⟨_, rfl⟩
    rw [hS] at hn1
    rw [hA2] at hn2
    rw [hS, hA2]
    cases S <;> cases A
    · simp only [go_sem, Nat.reduceBEq, iadr_pis hjl, hjv]
      refine call_pure2 hC (hOf) rfl (PVleL_refl _) ?_
      rintro r rfl
      simp only [go_sem, Nat.reduceBEq, wrap_succ (k := j) (by omega)]
      refine ⟨⟨j + 1, hj2, trivial⟩, by simp only; omega, ?_⟩
      simp only [hn1, hn2, Bool.false_or, Bool.false_and]
      exact by simp [Wk, wkT, wkL, look, AV.lo, AV.lo.loL, ABlk.toZ]
    · simp only [go_sem, Nat.reduceBEq, iadr_pis hjl, hjv]
      refine call_pure2 hC (hOf) rfl (PVleL_refl _) ?_
      rintro r rfl
      simp only [go_sem, Nat.reduceBEq, iadr_pis hjl, hjv]
      refine call_pure2 hC (hOf) rfl (PVleL_refl _) ?_
      rintro r rfl
      simp only [go_sem, Nat.reduceBEq, wrap_succ (k := j) (by omega)]
      refine ⟨⟨j + 1, hj2, trivial⟩, by simp only; omega, ?_⟩
      simp only [hn1, hn2, Bool.false_or, Bool.true_and]
      exact by simp [Wk, wkT, wkL, look, AV.lo, AV.lo.loL, ABlk.toZ]
    · simp only [go_sem, Nat.reduceBEq, wrap_succ (k := j) (by omega)]
      refine ⟨⟨j + 1, hj2, trivial⟩, by simp only; omega, ?_⟩
      simp only [hn1, hn2, Bool.true_or, Bool.false_and]
      exact by simp [Wk, wkT, wkL, look, AV.lo, AV.lo.loL, ABlk.toZ]
    · simp only [go_sem, Nat.reduceBEq, iadr_pis hjl, hjv]
      refine call_pure2 hC (hOf) rfl (PVleL_refl _) ?_
      rintro r rfl
      simp only [go_sem, Nat.reduceBEq, wrap_succ (k := j) (by omega)]
      refine ⟨⟨j + 1, hj2, trivial⟩, by simp only; omega, ?_⟩
      simp only [hn1, hn2, Bool.true_or, Bool.true_and]
      exact by simp [Wk, wkT, wkL, look, AV.lo, AV.lo.loL, ABlk.toZ]
  · have hjn : j = L.length := by omega
    subst hjn
    rw [List.take_length]
    obtain ⟨S, hS⟩ : ∃ S, (L.any fun c => c.testBit q) = S := ⟨_, rfl⟩
    obtain ⟨A, hA2⟩ : ∃ A, (L.all fun c => c.testBit q) = A := ⟨_, rfl⟩
    rw [hS, hA2]
    cases A
    · cases S
      · simp only [go_sem, Nat.reduceBEq, Bool.false_eq_true]
        exact retQ_two rfl rfl rfl
      · simp only [go_sem, Nat.reduceBEq, Bool.false_eq_true]
        exact retQ_two rfl rfl rfl
    · simp only [go_sem]
      exact retQ_two rfl rfl rfl
end Go.Proofs.Ythaplmohhbdfeaa.Mk
namespace Go.Proofs.Ythaplmohhbdfeaa.Mk
open Go.RowKit Ls
def ac3 : AC := (AC.seq (AC.ops [(AOp.mk (some 2) (AK.box 4 (AX.t 0)) none 0 false true), (AOp.mk (some 3) (AK.box 2 (AX.t 1)) none 1 false true), (AOp.mk (some 4) (AK.mv (AX.c (PV.val (Value.bool false)))) none 2 false true)]) (AC.seq (AC.ops [(AOp.mk (some 14) (AK.ld (some 4) (AX.t 2)) none 0 false true), (AOp.mk (some 15) (AK.call 16 [(AX.t 14)]) none 1 false true), (AOp.mk (some 13) (AK.mv (AX.t 15)) none 2 false true), (AOp.mk (some 16) (AK.ext (AX.t 13) 0) none 3 false true), (AOp.mk (some 17) (AK.ext (AX.t 13) 1) none 4 false true), (AOp.mk (some 5) (AK.mv (AX.t 16)) none 5 false true), (AOp.mk (some 6) (AK.mv (AX.t 17)) none 6 false true)]) (AC.seq (AC.ops [(AOp.mk (some 19) (AK.ld (some 4) (AX.t 2)) none 0 false true), (AOp.mk (some 20) (AK.call 17 [(AX.t 19)]) none 1 false true), (AOp.mk (some 18) (AK.mv (AX.t 20)) none 2 false true), (AOp.mk (some 21) (AK.ext (AX.t 18) 0) none 3 false true), (AOp.mk (some 22) (AK.ext (AX.t 18) 1) none 4 false true), (AOp.mk (some 7) (AK.mv (AX.t 21)) none 5 false true), (AOp.mk (some 8) (AK.mv (AX.t 22)) none 6 false true)]) (AC.seq (AC.seq (AC.ops [(AOp.mk (some 23) (AK.mv (AX.t 5)) none 0 true true), (AOp.mk (some 24) (AK.mv (AX.t 7)) none 1 true true), (AOp.mk (some 25) (AK.bin true BinOp.neq (AX.t 23) (AX.t 24)) none 2 true true), (AOp.mk (some 26) (AK.mv (AX.t 25)) none 3 true true), (AOp.mk (some 27) (AK.mv (AX.t 6)) (some (26, false)) 4 true true), (AOp.mk (some 28) (AK.mv (AX.t 8)) (some (26, false)) 5 true true), (AOp.mk (some 29) (AK.bin false BinOp.neq (AX.t 27) (AX.t 28)) (some (26, false)) 6 true true), (AOp.mk (some 30) (AK.pick (AX.t 26) (AX.c (PV.val (Value.bool true))) (AX.t 29)) none 7 true true), (AOp.mk (some 31) (AK.mv (AX.t 30)) none 8 true true), (AOp.mk (some 32) (AK.ld (some 4) (AX.t 2)) (some (31, false)) 9 true false), (AOp.mk (some 34) (AK.ld (some 4) (AX.t 2)) (some (31, false)) 11 true false), (AOp.mk (some 33) (AK.call 18 [(AX.t 32)]) (some (31, false)) 10 false false), (AOp.mk (some 35) (AK.call 19 [(AX.t 34)]) (some (31, false)) 12 false true), (AOp.mk (some 36) (AK.bin false BinOp.neq (AX.t 33) (AX.t 35)) (some (31, false)) 13 true true), (AOp.mk (some 37) (AK.pick (AX.t 31) (AX.c (PV.val (Value.bool true))) (AX.t 36)) none 14 true true)]) (AC.cond (AX.t 37) (AC.seq (AC.ops [(AOp.mk (some 4) (AK.mv (AX.c (PV.val (Value.bool false)))) none 0 false true)]) AC.ret) AC.skip)) (AC.seq (AC.ops [(AOp.mk (some 39) (AK.ld (some 4) (AX.t 2)) none 0 false true), (AOp.mk (some 40) (AK.call 20 [(AX.t 39)]) none 1 false true), (AOp.mk (some 38) (AK.mv (AX.t 40)) none 2 false true), (AOp.mk (some 41) (AK.ext (AX.t 38) 0) none 3 false true), (AOp.mk (some 42) (AK.ext (AX.t 38) 1) none 4 false true), (AOp.mk (some 9) (AK.mv (AX.t 41)) none 5 false true), (AOp.mk (some 6) (AK.mv (AX.t 42)) none 6 false true)]) (AC.seq (AC.ops [(AOp.mk (some 44) (AK.ld (some 4) (AX.t 2)) none 0 false true), (AOp.mk (some 45) (AK.call 21 [(AX.t 44)]) none 1 false true), (AOp.mk (some 43) (AK.mv (AX.t 45)) none 2 false true), (AOp.mk (some 46) (AK.ext (AX.t 43) 0) none 3 false true), (AOp.mk (some 47) (AK.ext (AX.t 43) 1) none 4 false true), (AOp.mk (some 10) (AK.mv (AX.t 46)) none 5 false true), (AOp.mk (some 8) (AK.mv (AX.t 47)) none 6 false true)]) (AC.seq (AC.seq (AC.ops [(AOp.mk (some 48) (AK.mv (AX.t 9)) none 0 false true), (AOp.mk (some 49) (AK.mv (AX.t 10)) none 1 false true), (AOp.mk (some 50) (AK.call 22 [(AX.t 48), (AX.t 49)]) none 2 false true), (AOp.mk (some 51) (AK.un UnOp.not (AX.t 50)) none 3 false true), (AOp.mk (some 52) (AK.mv (AX.t 51)) none 4 false true), (AOp.mk (some 53) (AK.mv (AX.t 6)) (some (52, false)) 5 false true), (AOp.mk (some 54) (AK.mv (AX.t 8)) (some (52, false)) 6 false true), (AOp.mk (some 55) (AK.bin false BinOp.neq (AX.t 53) (AX.t 54)) (some (52, false)) 7 false true), (AOp.mk (some 56) (AK.pick (AX.t 52) (AX.c (PV.val (Value.bool true))) (AX.t 55)) none 8 false true)]) (AC.cond (AX.t 56) (AC.seq (AC.ops [(AOp.mk (some 4) (AK.mv (AX.c (PV.val (Value.bool false)))) none 0 false true)]) AC.ret) AC.skip)) (AC.seq (AC.ops [(AOp.mk (some 58) (AK.ld (some 4) (AX.t 2)) none 0 false true), (AOp.mk (some 59) (AK.iadrA 1 2 (AX.t 3) (AX.c (PV.val (Value.int IntKind.i64 0)))) none 1 false true), (AOp.mk (some 60) (AK.ld none (AX.t 59)) none 2 false true), (AOp.mk (some 61) (AK.call 23 [(AX.t 58), (AX.t 60)]) none 3 false true), (AOp.mk (some 57) (AK.mv (AX.t 61)) none 4 false true), (AOp.mk (some 62) (AK.ext (AX.t 57) 0) none 5 false true), (AOp.mk (some 63) (AK.ext (AX.t 57) 1) none 6 false true), (AOp.mk (some 11) (AK.mv (AX.t 62)) none 7 false true), (AOp.mk (some 6) (AK.mv (AX.t 63)) none 8 false true)]) (AC.seq (AC.ops [(AOp.mk (some 65) (AK.ld (some 4) (AX.t 2)) none 0 false true), (AOp.mk (some 66) (AK.iadrA 1 2 (AX.t 3) (AX.c (PV.val (Value.int IntKind.i64 0)))) none 1 false true), (AOp.mk (some 67) (AK.ld none (AX.t 66)) none 2 false true), (AOp.mk (some 68) (AK.call 24 [(AX.t 65), (AX.t 67)]) none 3 false true), (AOp.mk (some 64) (AK.mv (AX.t 68)) none 4 false true), (AOp.mk (some 69) (AK.ext (AX.t 64) 0) none 5 false true), (AOp.mk (some 70) (AK.ext (AX.t 64) 1) none 6 false true), (AOp.mk (some 12) (AK.mv (AX.t 69)) none 7 false true), (AOp.mk (some 8) (AK.mv (AX.t 70)) none 8 false true)]) (AC.seq (AC.seq (AC.ops [(AOp.mk (some 71) (AK.mv (AX.t 11)) none 0 false true), (AOp.mk (some 72) (AK.mv (AX.t 12)) none 1 false true), (AOp.mk (some 73) (AK.bin false BinOp.neq (AX.t 71) (AX.t 72)) none 2 false true), (AOp.mk (some 74) (AK.mv (AX.t 73)) none 3 false true), (AOp.mk (some 75) (AK.mv (AX.t 6)) (some (74, false)) 4 false true), (AOp.mk (some 76) (AK.mv (AX.t 8)) (some (74, false)) 5 false true), (AOp.mk (some 77) (AK.bin false BinOp.neq (AX.t 75) (AX.t 76)) (some (74, false)) 6 false true), (AOp.mk (some 78) (AK.pick (AX.t 74) (AX.c (PV.val (Value.bool true))) (AX.t 77)) none 7 false true)]) (AC.cond (AX.t 78) (AC.seq (AC.ops [(AOp.mk (some 4) (AK.mv (AX.c (PV.val (Value.bool false)))) none 0 false true)]) AC.ret) AC.skip)) (AC.seq (AC.ops [(AOp.mk (some 80) (AK.ld (some 4) (AX.t 2)) none 0 false true), (AOp.mk (some 81) (AK.iadrA 1 2 (AX.t 3) (AX.c (PV.val (Value.int IntKind.i64 0)))) none 1 false true), (AOp.mk (some 82) (AK.ld none (AX.t 81)) none 2 false true), (AOp.mk (some 83) (AK.iadrA 1 2 (AX.t 3) (AX.c (PV.val (Value.int IntKind.i64 1)))) none 3 false true), (AOp.mk (some 84) (AK.ld none (AX.t 83)) none 4 false true), (AOp.mk (some 85) (AK.call 25 [(AX.t 80), (AX.t 82), (AX.t 84)]) none 5 false true), (AOp.mk (some 79) (AK.mv (AX.t 85)) none 6 false true), (AOp.mk (some 86) (AK.ext (AX.t 79) 0) none 7 false true), (AOp.mk (some 87) (AK.ext (AX.t 79) 1) none 8 false true), (AOp.mk (some 11) (AK.mv (AX.t 86)) none 9 false true), (AOp.mk (some 6) (AK.mv (AX.t 87)) none 10 false true)]) (AC.seq (AC.ops [(AOp.mk (some 89) (AK.ld (some 4) (AX.t 2)) none 0 false true), (AOp.mk (some 90) (AK.iadrA 1 2 (AX.t 3) (AX.c (PV.val (Value.int IntKind.i64 0)))) none 1 false true), (AOp.mk (some 91) (AK.ld none (AX.t 90)) none 2 false true), (AOp.mk (some 92) (AK.iadrA 1 2 (AX.t 3) (AX.c (PV.val (Value.int IntKind.i64 1)))) none 3 false true), (AOp.mk (some 93) (AK.ld none (AX.t 92)) none 4 false true), (AOp.mk (some 94) (AK.call 26 [(AX.t 89), (AX.t 91), (AX.t 93)]) none 5 false true), (AOp.mk (some 88) (AK.mv (AX.t 94)) none 6 false true), (AOp.mk (some 95) (AK.ext (AX.t 88) 0) none 7 false true), (AOp.mk (some 96) (AK.ext (AX.t 88) 1) none 8 false true), (AOp.mk (some 12) (AK.mv (AX.t 95)) none 9 false true), (AOp.mk (some 8) (AK.mv (AX.t 96)) none 10 false true)]) (AC.seq (AC.ops [(AOp.mk (some 97) (AK.mv (AX.t 11)) none 0 false true), (AOp.mk (some 98) (AK.mv (AX.t 12)) none 1 false true), (AOp.mk (some 99) (AK.bin false BinOp.eql (AX.t 97) (AX.t 98)) none 2 false true), (AOp.mk (some 100) (AK.mv (AX.t 99)) none 3 false true), (AOp.mk (some 101) (AK.mv (AX.t 6)) (some (100, true)) 4 false true), (AOp.mk (some 102) (AK.mv (AX.t 8)) (some (100, true)) 5 false true), (AOp.mk (some 103) (AK.bin false BinOp.eql (AX.t 101) (AX.t 102)) (some (100, true)) 6 false true), (AOp.mk (some 104) (AK.pick (AX.t 100) (AX.t 103) (AX.c (PV.val (Value.bool false)))) none 7 false true), (AOp.mk (some 105) (AK.mv (AX.t 104)) none 8 false true), (AOp.mk (some 106) (AK.call 27 []) (some (105, true)) 9 false true), (AOp.mk (some 107) (AK.pick (AX.t 105) (AX.t 106) (AX.c (PV.val (Value.bool false)))) none 10 false true), (AOp.mk (some 4) (AK.mv (AX.t 107)) none 11 false true)]) AC.ret)))))))))))))
theorem ac3_ok : cCode Try.prog (fun _ => false) Try.f3.ntmps (Try.f3.body.getD .skip) = some ac3 := by kernel_rfl
theorem whoP_ex (b : MBook) : ∃ (l : List Int) (e : Int), (if errR b true = 0 then PV.tup [pis (natL (whoL b)), pi 0] else .tup [pis [], pi (errR b true)]) = .tup [pis l, pi e] := by
  split
  · exact ⟨_, _, rfl⟩
  · exact ⟨_, _, rfl⟩
theorem rightP_ex (b : MBook) : ∃ (l : Bool) (e : Int), (if errA b true = 0 then PV.tup [pb (rightB b), pi 0] else .tup [pb false, pi (errA b true)]) = .tup [pb l, pi e] := by
  split
  · exact ⟨_, _, rfl⟩
  · exact ⟨_, _, rfl⟩
theorem needsP_ex (b : MBook) (n : Int) : ∃ l e : Int, (if errR b (okM b n) = 0 then needsR (needsO b n.toNat) else .tup [pi 0, pi (errR b (okM b n))]) = .tup [pi l, pi e] := by
  split
  · cases needsO b n.toNat with
    | none => exact ⟨_, _, rfl⟩
    | some z => exact ⟨_, _, rfl⟩
  · exact ⟨_, _, rfl⟩
theorem changedP_ex (b : MBook) (n p : Int) : ∃ l e : Int, (if errR b (okM b n && okK b p) = 0 then (if possB b n.toNat then PV.tup [pi (verdictI b n.toNat p.toNat), pi 0] else .tup [pi 0, pi 4]) else .tup [pi 0, pi (errR b (okM b n && okK b p))]) = .tup [pi l, pi e] := by
  split
  · split
    · exact ⟨_, _, rfl⟩
    · exact ⟨_, _, rfl⟩
  · exact ⟨_, _, rfl⟩
set_option maxRecDepth 100000 in
set_option maxHeartbeats 2000000 in
theorem Whos_law (k k2 : SK) (b : MBook) (n p : Int) : Sem1 3 [.agg (bookC k k2 b), .agg [pi n, pi p]] (pb true) := by
  have A1 := Right_sem k k2 b
  have A2 := rRight_sem k k2 b
  have B1 := Who_sem k k2 b
  have B2 := rWho_sem k k2 b
  have C1 := Needs_sem k k2 b n
  have C2 := rNeeds_sem k k2 b n
  have D1 := Changed_sem k k2 b n p
  have D2 := rChanged_sem k k2 b n p
  obtain ⟨r, re, er⟩ := rightP_ex b
  obtain ⟨l, le, el⟩ := whoP_ex b
  obtain ⟨u, ue, eu⟩ := needsP_ex b n
  obtain ⟨v, ve, ev⟩ := changedP_ex b n p
  rw [er] at A1 A2
  rw [el] at B1 B2
  rw [eu] at C1 C2
  rw [ev] at D1 D2
  refine semC_of_exec' mixed Try.func3 (by kernel_rfl) (by kernel_rfl) ac3_ok 2 rfl (by decide) [(.tmp 4)] (by kernel_rfl) ?_
  intro hr C hC hI
  unfold ac3
  simp only [go_sem, Nat.reduceBEq, Nat.reduceAdd]
  refine call_pure2 hC (A1) rfl (PVleL_refl _) ?_
  rintro r rfl
  simp only [go_sem, Nat.reduceBEq, Nat.reduceAdd]
  refine call_pure2 hC (A2) rfl (PVleL_refl _) ?_
  rintro r rfl
  simp only [go_sem, Nat.reduceBEq, Nat.reduceAdd, decide_false, not_true_eq_false, Bool.false_eq_true]
  refine call_pure2 hC (Check_sem k k2 b) rfl (PVleL_refl _) ?_
  rintro r rfl
  simp only [go_sem, Nat.reduceBEq]
  refine call_pure2 hC (rCheck_sem k k2 b) rfl (PVleL_refl _) ?_
  rintro r rfl
  simp only [go_sem, Nat.reduceBEq, Nat.reduceAdd, decide_false, not_true_eq_false]
  refine call_pure2 hC (B1) rfl (PVleL_refl _) ?_
  rintro r rfl
  simp only [go_sem, Nat.reduceBEq, Nat.reduceAdd]
  refine call_pure2 hC (B2) rfl (PVleL_refl _) ?_
  rintro r rfl
  simp only [go_sem, Nat.reduceBEq]
  refine call_pure2 hC (Equal_sem l l) rfl (PVleL_refl _) ?_
  rintro r rfl
  simp only [go_sem, Nat.reduceBEq, Nat.reduceAdd, iadr2_0, decide_true, decide_false, not_true_eq_false]
  refine call_pure2 hC (C1) rfl (PVleL_refl _) ?_
  rintro r rfl
  simp only [go_sem, Nat.reduceBEq, Nat.reduceAdd, iadr2_0]
  refine call_pure2 hC (C2) rfl (PVleL_refl _) ?_
  rintro r rfl
  simp only [go_sem, Nat.reduceBEq, Nat.reduceAdd, iadr2_0, iadr2_1, decide_false, not_true_eq_false]
  refine call_pure2 hC (D1) rfl (PVleL_refl _) ?_
  rintro r rfl
  simp only [go_sem, Nat.reduceBEq, Nat.reduceAdd, iadr2_0, iadr2_1]
  refine call_pure2 hC (D2) rfl (PVleL_refl _) ?_
  rintro r rfl
  simp only [go_sem, Nat.reduceBEq, decide_true]
  refine call_pure2 hC (marked_sem) rfl (PVleL_refl _) ?_
  rintro r rfl
  simp only [go_sem, Nat.reduceBEq]
  exact retQ_one rfl rfl
set_option maxRecDepth 100000 in
theorem Whos_row {l0 l1 : List PV} (T0 : Ty Try.prog 10 25 l0) (T1 : Ty Try.prog 10 26 l1) : SemC Try.prog 3 [argPV Try.prog 25 l0, argPV Try.prog 26 l1] (fun r => r = pb true) := by
  obtain ⟨b, rfl⟩ := ty_book T0
  obtain ⟨n0, n1, rfl⟩ := ty_two T1
  rw [argStruct Try.underlying25, argArray Try.underlying26]
  exact Whos_law .sh .sh b n0 n1
end Go.Proofs.Ythaplmohhbdfeaa.Mk
namespace Go.Proofs.Ythaplmohhbdfeaa
open Go.Proofs.Ythaplmohhbdfeaa Go.ChangeShapes Go.WideShapes Go.ChangeAt Go.RowKit Go.Deep

set_option maxRecDepth 100000 in
theorem makerWhos_lifted (os : Os) (started : os.Started) (H : Type) (enc : TypeId × Value → H) :
    ReturnsInHanded {} Try.checked os 3 .any (Rows.makerWhosSpec.pre6 enc Try.prog Try.f3 Rows.makerWhosRow.domain false) (Rows.makerWhosSpec.post enc Try.prog Try.f3 false true false false) := by
  refine returnsInHanded_of_change_sized (C := Try.checked) ownKnobs started (by kernel_rfl) Try.func3
    (ChangeSpec.witness6 (enc := enc) (C := Try.checked) false ⟨#[], #[.agg #[.slice none 0 0, .slice none 0 0, .int .i64 0, .int .i64 0], .agg #[.int .i64 0, .int .i64 0]], []⟩ 8 (by kernel_rfl) (by kernel_rfl) (by kernel_rfl) (by kernel_rfl)) ?_
  intro W base args ds gs before hval0 hW hcnd hsz0 _
  have hval : ∀ (j : Nat) t v, Try.f3.params[j]? = some t → args[j]? = some v → Value.okWide Try.prog W .any base t v := hval0
  have hsz : (DataW.weightsEach Try.prog (Try.f3.params.toList ++ Rows.makerWhosSpec.plain.varTypes Try.prog) (ds ++ gs)).all (· ≤ reachBytes) = true := hsz0
  have hW' := hW
  obtain ⟨p, q, hA0, hV, rfl, hfz, hnd⟩ := hW
  have hA : DataW.TrodAll enc Try.prog W 0 (fun _ => true) true Try.f3.params.toList args.toList ds p := hA0
  rw [Try.params3] at hA hval hsz
  obtain ⟨v0, vs0, d0, ds0, p0, q0, hargs, rfl, rfl, h0, r0⟩ := trodAll_cons hA
  obtain ⟨v1, vs1, d1, ds1, p1, q1, rfl, rfl, rfl, h1, r1⟩ := trodAll_cons r0
  obtain ⟨rfl, rfl, rfl⟩ := trodAll_nil r1
  obtain rfl : args = #[v0, v1] := by cases args; simp_all
  obtain ⟨rfl, rfl⟩ := trodVars_none hV
  have lt0 : ∀ x ∈ p0, x.block < W.heap.size := by obtain ⟨m, hm⟩ := h0; exact DataW.trod_lt m _ _ _ hm
  have lt1 : ∀ x ∈ p1, x.block < W.heap.size := by obtain ⟨m, hm⟩ := h1; exact DataW.trod_lt m _ _ _ hm
  have z0 : SizedP Try.prog 25 d0 := sizedP_each hsz (j := 0) rfl rfl
  obtain ⟨l0, T0, R0⟩ := rd_arg 10 (by kernel_rfl) (hval 0 25 v0 rfl rfl) h0 z0
  have z1 : SizedP Try.prog 26 d1 := sizedP_each hsz (j := 1) rfl rfl
  obtain ⟨l1, T1, R1⟩ := rd_arg 10 (by kernel_rfl) (hval 1 26 v1 rfl rfl) h1 z1
  clear hA0 hval0 hsz0
  refine (law_calls (Mk.Whos_row T0 T1) (argsP_cons R0 (argsP_cons R1 argsP_nil))).mono fun e W' ⟨he, bel⟩ => ?_
  subst he
  exact ⟨_, rfl, _, _, _, [], _, [], hW', trodAll_mk1 (shut_bool Try.underlying4 _), (trodAll_cons_mk (Below.trod laidOut (by kernel_rfl) (of_decide_eq_true (by kernel_rfl)) h0 bel lt0) (trodAll_cons_mk (Below.trod laidOut (by kernel_rfl) (of_decide_eq_true (by kernel_rfl)) h1 bel lt1) trodAll_mk0)), rfl, bel.frame _, fun h => by cases h⟩

theorem makerWhos_holds : Rows.MakerWhosSaid :=
  OpenClaim.holds_of_wide 3 Try.f3 rfl rfl rfl rfl rfl rfl rfl ⟨rfl, rfl, rfl, rfl, rfl⟩ rfl rfl rfl rfl rfl (by kernel_rfl) Try.func3 (by kernel_rfl)
    (of_decide_eq_true (by kernel_rfl)) (by unfold Func.isWrapper; first | (rw [if_pos (by decide +kernel)]; kernel_rfl) | (rw [if_neg (by decide +kernel)]; exact ⟨rfl, rfl⟩))
    (fun os started H enc _ => makerWhos_lifted os started H enc)
end Go.Proofs.Ythaplmohhbdfeaa
