/- MendPay returns true for everything that it is asked; no condition. MendPay. -/
import Derived.Test.YtefehlekneahmaaGreatPay11
import Derived.Test.YtefehlekneahmaaGreatPay01
import Derived.Test.YtefehlekneahmaaGreatGa18
namespace Go.Proofs.YtefehlekneahmaaGreat.Mk.Me
open Go.RowKit Ls
def ac55 : AC := (AC.seq (AC.ops [(AOp.mk (some 2) (AK.mv (AX.c (PV.val (Value.int IntKind.i64 0)))) none 0 false true)]) (AC.seq (AC.ops [(AOp.mk (some 3) (AK.mv (AX.c (PV.val (Value.int IntKind.i64 0)))) none 0 false true)]) (AC.seq (AC.seq (AC.ops [(AOp.mk (some 4) (AK.mv (AX.c (PV.val (Value.int IntKind.i64 0)))) none 0 false true)]) (AC.block 0 (AC.loop (AC.seq (AC.seq (AC.ops [(AOp.mk (some 5) (AK.mv (AX.t 4)) none 0 false true), (AOp.mk (some 6) (AK.mv (AX.t 0)) none 1 false true), (AOp.mk (some 7) (AK.len (AX.t 6)) none 2 false true), (AOp.mk (some 8) (AK.bin false BinOp.lss (AX.t 5) (AX.t 7)) none 3 false true)]) (AC.cond (AX.t 8) AC.skip (AC.exit 0))) (AC.seq (AC.block 1 (AC.ops [(AOp.mk (some 11) (AK.mv (AX.t 3)) none 0 false true), (AOp.mk (some 12) (AK.mv (AX.t 0)) none 1 false true), (AOp.mk (some 13) (AK.mv (AX.t 4)) none 2 false true), (AOp.mk (some 14) (AK.iadrS 1 (AX.t 12) (AX.t 13)) none 3 false true), (AOp.mk (some 15) (AK.ld none (AX.t 14)) none 4 false true), (AOp.mk (some 16) (AK.bin false BinOp.add (AX.t 11) (AX.t 15)) none 5 false true), (AOp.mk (some 3) (AK.mv (AX.t 16)) none 6 false true)])) (AC.ops [(AOp.mk (some 9) (AK.mv (AX.t 4)) none 0 false true), (AOp.mk (some 10) (AK.bin false BinOp.add (AX.t 9) (AX.c (PV.val (Value.int IntKind.i64 1)))) none 1 false true), (AOp.mk (some 4) (AK.mv (AX.t 10)) none 2 false true)])))))) (AC.seq (AC.ops [(AOp.mk (some 17) (AK.mv (AX.t 3)) none 0 false true), (AOp.mk (some 2) (AK.mv (AX.t 17)) none 1 false true)]) AC.ret))))
theorem ac55_ok : cCode Tryz.prog (fun _ => false) Tryz.f55.ntmps (Tryz.f55.body.getD .skip) = some ac55 := by kernel_rfl
def ac56 : AC := (AC.seq (AC.ops [(AOp.mk (some 4) (AK.mv (AX.c (PV.val (Value.int IntKind.i64 0)))) none 0 false true)]) (AC.seq (AC.ops [(AOp.mk (some 9) (AK.bslice false 3 1 1 [(PV.val (Value.int IntKind.i64 0))] [(0, (1, (AX.c (PV.val (Value.int IntKind.i64 0)))))]) none 0 false true), (AOp.mk (some 5) (AK.mv (AX.t 9)) none 1 false true)]) (AC.seq (AC.seq (AC.ops [(AOp.mk (some 6) (AK.mv (AX.c (PV.val (Value.int IntKind.i64 1)))) none 0 false true)]) (AC.block 0 (AC.loop (AC.seq (AC.seq (AC.ops [(AOp.mk (some 10) (AK.mv (AX.t 6)) none 0 false true), (AOp.mk (some 11) (AK.mv (AX.t 1)) none 1 false true), (AOp.mk (some 12) (AK.bin false BinOp.leq (AX.t 10) (AX.t 11)) none 2 false true)]) (AC.cond (AX.t 12) AC.skip (AC.exit 0))) (AC.seq (AC.block 1 (AC.seq (AC.ops [(AOp.mk (some 15) (AK.mv (AX.t 6)) none 0 false true), (AOp.mk (some 7) (AK.mv (AX.t 15)) none 1 false true)]) (AC.seq (AC.seq (AC.ops [(AOp.mk (some 8) (AK.mv (AX.c (PV.val (Value.int IntKind.i64 0)))) none 0 false true)]) (AC.block 2 (AC.loop (AC.seq (AC.seq (AC.ops [(AOp.mk (some 16) (AK.mv (AX.t 8)) none 0 false true), (AOp.mk (some 17) (AK.mv (AX.t 0)) none 1 false true), (AOp.mk (some 18) (AK.len (AX.t 17)) none 2 false true), (AOp.mk (some 19) (AK.bin false BinOp.lss (AX.t 16) (AX.t 18)) none 3 false true)]) (AC.cond (AX.t 19) AC.skip (AC.exit 2))) (AC.seq (AC.block 3 (AC.seq (AC.ops [(AOp.mk (some 22) (AK.mv (AX.t 0)) none 0 false true), (AOp.mk (some 23) (AK.mv (AX.t 8)) none 1 false true), (AOp.mk (some 24) (AK.iadrS 1 (AX.t 22) (AX.t 23)) none 2 false true), (AOp.mk (some 25) (AK.ld none (AX.t 24)) none 3 false true), (AOp.mk (some 26) (AK.mv (AX.t 6)) none 4 false true), (AOp.mk (some 27) (AK.bin false BinOp.leq (AX.t 25) (AX.t 26)) none 5 false true)]) (AC.cond (AX.t 27) (AC.ops [(AOp.mk (some 28) (AK.mv (AX.t 7)) none 0 false true), (AOp.mk (some 29) (AK.mv (AX.t 5)) none 1 false true), (AOp.mk (some 30) (AK.mv (AX.t 6)) none 2 false true), (AOp.mk (some 31) (AK.mv (AX.t 0)) none 3 false true), (AOp.mk (some 32) (AK.mv (AX.t 8)) none 4 false true), (AOp.mk (some 33) (AK.iadrS 1 (AX.t 31) (AX.t 32)) none 5 false true), (AOp.mk (some 34) (AK.ld none (AX.t 33)) none 6 false true), (AOp.mk (some 35) (AK.bin false BinOp.sub (AX.t 30) (AX.t 34)) none 7 false true), (AOp.mk (some 36) (AK.iadrS 1 (AX.t 29) (AX.t 35)) none 8 false true), (AOp.mk (some 37) (AK.ld none (AX.t 36)) none 9 false true), (AOp.mk (some 38) (AK.bin false BinOp.add (AX.c (PV.val (Value.int IntKind.i64 1))) (AX.t 37)) none 10 false true), (AOp.mk (some 39) (AK.mx false [(AX.t 28), (AX.t 38)]) none 11 false true), (AOp.mk (some 7) (AK.mv (AX.t 39)) none 12 false true)]) AC.skip))) (AC.ops [(AOp.mk (some 20) (AK.mv (AX.t 8)) none 0 false true), (AOp.mk (some 21) (AK.bin false BinOp.add (AX.t 20) (AX.c (PV.val (Value.int IntKind.i64 1)))) none 1 false true), (AOp.mk (some 8) (AK.mv (AX.t 21)) none 2 false true)])))))) (AC.ops [(AOp.mk (some 40) (AK.mv (AX.t 5)) none 0 false true), (AOp.mk (some 41) (AK.mv (AX.t 7)) none 1 false true), (AOp.mk (some 42) (AK.bslice false 3 1 1 [(PV.val (Value.int IntKind.i64 0))] [(0, (1, (AX.t 41)))]) none 2 false true), (AOp.mk (some 43) (AK.app false 3 1 8 [(PV.val (Value.int IntKind.i64 0))] (AX.t 40) (AX.t 42)) none 3 false true), (AOp.mk (some 5) (AK.mv (AX.t 43)) none 4 false true)])))) (AC.ops [(AOp.mk (some 13) (AK.mv (AX.t 6)) none 0 false true), (AOp.mk (some 14) (AK.bin false BinOp.add (AX.t 13) (AX.c (PV.val (Value.int IntKind.i64 1)))) none 1 false true), (AOp.mk (some 6) (AK.mv (AX.t 14)) none 2 false true)])))))) (AC.seq (AC.ops [(AOp.mk (some 44) (AK.mv (AX.t 5)) none 0 false true), (AOp.mk (some 45) (AK.mv (AX.t 1)) none 1 false true), (AOp.mk (some 46) (AK.iadrS 1 (AX.t 44) (AX.t 45)) none 2 false true), (AOp.mk (some 47) (AK.ld none (AX.t 46)) none 3 false true), (AOp.mk (some 4) (AK.mv (AX.t 47)) none 4 false true)]) AC.ret))))
theorem ac56_ok : cCode Tryz.prog (fun _ => false) Tryz.f56.ntmps (Tryz.f56.body.getD .skip) = some ac56 := by kernel_rfl
def ac13 : AC := (AC.seq (AC.ops [(AOp.mk (some 2) (AK.box 8 (AX.t 0)) none 0 false true), (AOp.mk (some 4) (AK.mv (AX.c (PV.val (Value.bool false)))) none 1 false true)]) (AC.seq (AC.seq (AC.ops [(AOp.mk (some 13) (AK.ld (some 8) (AX.t 2)) none 0 false true), (AOp.mk (some 14) (AK.call 39 [(AX.t 13)]) none 1 false true), (AOp.mk (some 15) (AK.un UnOp.not (AX.t 14)) none 2 false true)]) (AC.cond (AX.t 15) (AC.seq (AC.ops [(AOp.mk (some 16) (AK.call 29 []) none 0 false true), (AOp.mk (some 4) (AK.mv (AX.t 16)) none 1 false true)]) AC.ret) AC.skip)) (AC.seq (AC.ops [(AOp.mk (some 17) (AK.mv (AX.t 1)) none 0 false true), (AOp.mk (some 18) (AK.call 48 [(AX.t 17), (AX.c (PV.val (Value.int IntKind.i64 601)))]) none 1 false true), (AOp.mk (some 5) (AK.mv (AX.t 18)) none 2 false true)]) (AC.seq (AC.ops [(AOp.mk (some 20) (AK.ld (some 8) (AX.t 2)) none 0 false true), (AOp.mk (some 21) (AK.mv (AX.t 5)) none 1 false true), (AOp.mk (some 22) (AK.call 37 [(AX.t 20), (AX.t 21)]) none 2 false true), (AOp.mk (some 19) (AK.mv (AX.t 22)) none 3 false true), (AOp.mk (some 23) (AK.ext (AX.t 19) 0) none 4 false true), (AOp.mk (some 24) (AK.ext (AX.t 19) 1) none 5 false true), (AOp.mk (some 6) (AK.mv (AX.t 23)) none 6 false true), (AOp.mk (some 7) (AK.mv (AX.t 24)) none 7 false true)]) (AC.seq (AC.seq (AC.ops [(AOp.mk (some 25) (AK.mv (AX.t 7)) none 0 false true), (AOp.mk (some 26) (AK.bin false BinOp.neq (AX.t 25) (AX.c (PV.val (Value.int IntKind.i64 0)))) none 1 false true), (AOp.mk (some 27) (AK.mv (AX.t 26)) none 2 false true), (AOp.mk (some 28) (AK.mv (AX.t 6)) (some (27, false)) 3 false true), (AOp.mk (some 29) (AK.len (AX.t 28)) (some (27, false)) 4 false true), (AOp.mk (some 30) (AK.fadr 7 (AX.t 2)) (some (27, false)) 5 false true), (AOp.mk (some 31) (AK.ld none (AX.t 30)) (some (27, false)) 6 false true), (AOp.mk (some 32) (AK.len (AX.t 31)) (some (27, false)) 7 false true), (AOp.mk (some 33) (AK.bin false BinOp.neq (AX.t 29) (AX.t 32)) (some (27, false)) 8 false true), (AOp.mk (some 34) (AK.pick (AX.t 27) (AX.c (PV.val (Value.bool true))) (AX.t 33)) none 9 false true)]) (AC.cond (AX.t 34) (AC.seq (AC.ops [(AOp.mk (some 4) (AK.mv (AX.c (PV.val (Value.bool false)))) none 0 false true)]) AC.ret) AC.skip)) (AC.seq (AC.ops [(AOp.mk (some 8) (AK.mv (AX.c (PV.val (Value.int IntKind.i64 0)))) none 0 false true)]) (AC.seq (AC.seq (AC.ops [(AOp.mk (some 9) (AK.mv (AX.c (PV.val (Value.int IntKind.i64 0)))) none 0 false true)]) (AC.block 0 (AC.loop (AC.seq (AC.seq (AC.ops [(AOp.mk (some 35) (AK.mv (AX.t 9)) none 0 false true), (AOp.mk (some 36) (AK.mv (AX.t 6)) none 1 false true), (AOp.mk (some 37) (AK.len (AX.t 36)) none 2 false true), (AOp.mk (some 38) (AK.bin false BinOp.lss (AX.t 35) (AX.t 37)) none 3 false true)]) (AC.cond (AX.t 38) AC.skip (AC.exit 0))) (AC.seq (AC.block 1 (AC.seq (AC.seq (AC.ops [(AOp.mk (some 41) (AK.mv (AX.t 6)) none 0 false true), (AOp.mk (some 42) (AK.mv (AX.t 9)) none 1 false true), (AOp.mk (some 43) (AK.iadrS 1 (AX.t 41) (AX.t 42)) none 2 false true), (AOp.mk (some 44) (AK.ld none (AX.t 43)) none 3 false true), (AOp.mk (some 45) (AK.mv (AX.t 5)) none 4 false true), (AOp.mk (some 46) (AK.call 52 [(AX.t 44), (AX.c (PV.val (Value.int IntKind.i64 0))), (AX.t 45)]) none 5 false true), (AOp.mk (some 47) (AK.un UnOp.not (AX.t 46)) none 6 false true)]) (AC.cond (AX.t 47) (AC.seq (AC.ops [(AOp.mk (some 4) (AK.mv (AX.c (PV.val (Value.bool false)))) none 0 false true)]) AC.ret) AC.skip)) (AC.ops [(AOp.mk (some 48) (AK.mv (AX.t 8)) none 0 true false), (AOp.mk (some 49) (AK.mv (AX.t 6)) none 1 true false), (AOp.mk (some 50) (AK.mv (AX.t 9)) none 2 true false), (AOp.mk (some 51) (AK.iadrS 1 (AX.t 49) (AX.t 50)) none 3 true false), (AOp.mk (some 52) (AK.ld none (AX.t 51)) none 4 true false), (AOp.mk (some 53) (AK.fadr 7 (AX.t 2)) none 5 true false), (AOp.mk (some 54) (AK.ld none (AX.t 53)) none 6 true false), (AOp.mk (some 55) (AK.mv (AX.t 9)) none 7 true false), (AOp.mk (some 56) (AK.iadrS 1 (AX.t 54) (AX.t 55)) none 8 true false), (AOp.mk (some 57) (AK.ld none (AX.t 56)) none 9 true false), (AOp.mk (some 58) (AK.bin false BinOp.mul (AX.t 52) (AX.t 57)) none 10 true true), (AOp.mk (some 59) (AK.bin false BinOp.add (AX.t 48) (AX.t 58)) none 11 true true), (AOp.mk (some 8) (AK.mv (AX.t 59)) none 12 true true)]))) (AC.ops [(AOp.mk (some 39) (AK.mv (AX.t 9)) none 0 false true), (AOp.mk (some 40) (AK.bin false BinOp.add (AX.t 39) (AX.c (PV.val (Value.int IntKind.i64 1)))) none 1 false true), (AOp.mk (some 9) (AK.mv (AX.t 40)) none 2 false true)])))))) (AC.seq (AC.ops [(AOp.mk (some 60) (AK.ld (some 8) (AX.t 2)) none 0 false true), (AOp.mk (some 10) (AK.new (PV.agg [(PV.sl SK.full 0 []), (PV.sl SK.full 0 []), (PV.val (Value.int IntKind.i64 0)), (PV.val (Value.int IntKind.i64 0)), (PV.sl SK.full 0 []), (PV.val (Value.int IntKind.i64 0)), (PV.sl SK.full 0 []), (PV.sl SK.full 0 [])])) none 1 false true), (AOp.mk none (AK.st 8 (AX.t 10) (AX.t 60)) none 2 false true)]) (AC.seq (AC.ops [(AOp.mk (some 61) (AK.fadr 0 (AX.t 10)) none 0 false true), (AOp.mk (some 62) (AK.fadr 1 (AX.t 61)) none 1 false true), (AOp.mk none (AK.st 1 (AX.t 62) (AX.c (PV.sl SK.full 0 []))) none 2 false true)]) (AC.seq (AC.ops [(AOp.mk (some 64) (AK.ld (some 8) (AX.t 10)) none 0 false true), (AOp.mk (some 65) (AK.mv (AX.t 5)) none 1 false true), (AOp.mk (some 66) (AK.call 37 [(AX.t 64), (AX.t 65)]) none 2 false true), (AOp.mk (some 63) (AK.mv (AX.t 66)) none 3 false true), (AOp.mk (some 67) (AK.ext (AX.t 63) 0) none 4 false true), (AOp.mk (some 68) (AK.ext (AX.t 63) 1) none 5 false true), (AOp.mk (some 11) (AK.mv (AX.t 67)) none 6 false true), (AOp.mk (some 12) (AK.mv (AX.t 68)) none 7 false true)]) (AC.seq (AC.ops [(AOp.mk (some 69) (AK.mv (AX.t 8)) none 0 true true), (AOp.mk (some 70) (AK.mv (AX.t 5)) none 1 true true), (AOp.mk (some 71) (AK.bin false BinOp.eql (AX.t 69) (AX.t 70)) none 2 true true), (AOp.mk (some 72) (AK.mv (AX.t 71)) none 3 true true), (AOp.mk (some 73) (AK.mv (AX.t 6)) (some (72, true)) 4 true false), (AOp.mk (some 75) (AK.fadr 7 (AX.t 2)) (some (72, true)) 6 true false), (AOp.mk (some 76) (AK.ld none (AX.t 75)) (some (72, true)) 7 true false), (AOp.mk (some 77) (AK.mv (AX.t 5)) (some (72, true)) 8 true false), (AOp.mk (some 74) (AK.call 55 [(AX.t 73)]) (some (72, true)) 5 false false), (AOp.mk (some 78) (AK.call 56 [(AX.t 76), (AX.t 77)]) (some (72, true)) 9 false true), (AOp.mk (some 79) (AK.bin false BinOp.eql (AX.t 74) (AX.t 78)) (some (72, true)) 10 true true), (AOp.mk (some 80) (AK.pick (AX.t 72) (AX.t 79) (AX.c (PV.val (Value.bool false)))) none 11 true true), (AOp.mk (some 81) (AK.mv (AX.t 80)) none 12 true true), (AOp.mk (some 82) (AK.mv (AX.t 12)) (some (81, true)) 13 true true), (AOp.mk (some 83) (AK.bin false BinOp.eql (AX.t 82) (AX.c (PV.val (Value.int IntKind.i64 0)))) (some (81, true)) 14 true true), (AOp.mk (some 84) (AK.pick (AX.t 81) (AX.t 83) (AX.c (PV.val (Value.bool false)))) none 15 true true), (AOp.mk (some 85) (AK.mv (AX.t 84)) none 16 true true), (AOp.mk (some 86) (AK.mv (AX.t 6)) (some (85, true)) 17 true true), (AOp.mk (some 87) (AK.mv (AX.t 11)) (some (85, true)) 18 true true), (AOp.mk (some 88) (AK.call 36 [(AX.t 86), (AX.t 87)]) (some (85, true)) 19 false true), (AOp.mk (some 89) (AK.pick (AX.t 85) (AX.t 88) (AX.c (PV.val (Value.bool false)))) none 20 true true), (AOp.mk (some 90) (AK.mv (AX.t 89)) none 21 true true), (AOp.mk (some 91) (AK.call 29 []) (some (90, true)) 22 false true), (AOp.mk (some 92) (AK.pick (AX.t 90) (AX.t 91) (AX.c (PV.val (Value.bool false)))) none 23 true true), (AOp.mk (some 4) (AK.mv (AX.t 92)) none 24 true true)]) AC.ret)))))))))))
theorem ac13_ok : cCode Tryz.prog (fun _ => false) Tryz.f13.ntmps (Tryz.f13.body.getD .skip) = some ac13 := by kernel_rfl
def sI (cs : List Int) (d : Nat) : Int := sumI (purP cs d)
theorem sI_nn {cs : List Int} (hc : Coins cs) (d : Nat) : 0 ≤ sI cs d := sum_nn fun n hn => by
  have h := (pur_best hc d).pays
  exact h.pos n (by rw [h.len] at hn; exact hn)
theorem sI_zero {cs : List Int} : sI cs 0 = 0 := rfl
theorem sI_step {cs : List Int} (hc : Coins cs) {d q : Nat} (hq : q < cs.length) (h : cs.getD q 0 ≤ (d : Int)) : sI cs d ≤ 1 + sI cs (d - (cs.getD q 0).toNat) := by
  have h1 := (pur_best hc (d - (cs.getD q 0).toNat)).pays
  have h2 := h1.add hc hq
  have h0 := hc.pos q hq
  rw [show d - (cs.getD q 0).toNat + (cs.getD q 0).toNat = d by omega] at h2
  have h3 := bet_sum ((pur_best hc d).best _ h2)
  have h4 := addAt_sum (purP cs (d - (cs.getD q 0).toNat)) q (by have := hc.le; rw [h1.len]; omega)
  unfold sI
  omega
theorem sI_le {cs : List Int} (hc : Coins cs) : ∀ d : Nat, sI cs d ≤ d
  | 0 => by rw [sI_zero]; decide
  | d + 1 => by
    have h0 := hc.one
    have h1 := sI_step hc (d := d + 1) (q := 0) (by have := hc.ne; omega) (by rw [h0]; omega)
    rw [h0, show d + 1 - (1 : Int).toNat = d by simp] at h1
    have := sI_le hc d
    omega
theorem sI_some {cs : List Int} (hc : Coins cs) {d : Nat} (hd : 1 ≤ d) : ∃ q, q < cs.length ∧ cs.getD q 0 ≤ (d : Int) ∧ 1 + sI cs (d - (cs.getD q 0).toNat) ≤ sI cs d := by
  have hp := (pur_best hc d).pays
  have : ∃ q, q < 4 ∧ 1 ≤ (purP cs d).getD q 0 := Classical.byContradiction fun hn => by
    have h0 := dot_zero cs (purP cs d) fun n hn2 => by
      rw [hp.len] at hn2
      have h1 := hp.pos n hn2
      have h2 : ¬ 1 ≤ (purP cs d).getD n 0 := fun h => hn ⟨n, hn2, h⟩
      omega
    rw [hp.dot] at h0
    omega
  obtain ⟨q, h4, h1⟩ := this
  have hq : q < cs.length := Nat.lt_of_not_le fun h => by
    have := hp.out q h
    omega
  obtain ⟨h2, h3⟩ := hp.sub hc hq h1
  have hpos := hc.pos q hq
  refine ⟨q, hq, by omega, ?_⟩
  have h5 := bet_sum ((pur_best hc (d - (cs.getD q 0).toNat)).best _ h3)
  have h6 := addAt_sum (subAt (purP cs d) q) q (by rw [subAt_len, hp.len]; exact h4)
  rw [sub_add] at h6
  unfold sI
  omega
def leastN (cs : List Int) (d : Nat) : Nat → Int
  | 0 => d
  | i + 1 => if cs.getD i 0 ≤ (d : Int) then min (leastN cs d i) (1 + sI cs (d - (cs.getD i 0).toNat)) else leastN cs d i
theorem leastN_next (cs : List Int) (d i : Nat) : leastN cs d (i + 1) = if cs.getD i 0 ≤ (d : Int) then min (leastN cs d i) (1 + sI cs (d - (cs.getD i 0).toNat)) else leastN cs d i := rfl
theorem leastN_ge {cs : List Int} (hc : Coins cs) (d : Nat) : ∀ i, i ≤ cs.length → sI cs d ≤ leastN cs d i ∧ leastN cs d i ≤ d
  | 0, _ => ⟨sI_le hc d, Int.le_refl _⟩
  | i + 1, h => by
    have ih := leastN_ge hc d i (by omega)
    rw [leastN_next]
    split
    · rename_i hg
      have := sI_step hc (by omega) hg
      omega
    · exact ih
theorem leastN_le {cs : List Int} {d q : Nat} (h : cs.getD q 0 ≤ (d : Int)) : ∀ i, q < i → leastN cs d i ≤ 1 + sI cs (d - (cs.getD q 0).toNat)
  | 0, hq => absurd hq (by omega)
  | i + 1, hq => by
    rw [leastN_next]
    by_cases e : q = i
    · subst e
      rw [if_pos h]
      omega
    · have := leastN_le (q := q) h i (by omega)
      split <;> omega
theorem leastN_all {cs : List Int} (hc : Coins cs) {d : Nat} (hd : 1 ≤ d) : leastN cs d cs.length = sI cs d := by
  obtain ⟨q, h1, h2, h3⟩ := sI_some hc hd
  have h4 := leastN_le h2 cs.length h1
  have h5 := (leastN_ge hc d cs.length (Nat.le_refl _)).1
  omega
def fewL (cs : List Int) (d : Nat) : List Int := (List.range (d + 1)).map (sI cs)
theorem fewL_len (cs : List Int) (d : Nat) : (fewL cs d).length = d + 1 := by simp [fewL]
theorem fewL_at (cs : List Int) {d q : Nat} (h : q ≤ d) : ∃ hl : q < (fewL cs d).length, (fewL cs d)[q] = sI cs q := ⟨by rw [fewL_len]; omega, by simp [fewL]⟩
theorem fewL_next (cs : List Int) (d : Nat) : fewL cs (d + 1) = fewL cs d ++ [sI cs (d + 1)] := by
  unfold fewL
  rw [List.range_succ, List.map_append]
  rfl
set_option maxHeartbeats 2000000 in
theorem fewest_sem (k : SK) {cs : List Int} (hc : Coins cs) {pence : Nat} (hp : pence ≤ 600) : Sem1 56 [.sl k 1 (cs.map fun x => [pi x]), pi pence] (pi (sI cs pence)) := by
  have hl4 := hc.le
  refine semC_of_exec' mixed Tryz.func56 (by kernel_rfl) (by kernel_rfl) ac56_ok 2 rfl (by decide) [(.tmp 4)] (by kernel_rfl) ?_
  intro hr C hC hI
  unfold ac56
  simp only [go_sem, Nat.reduceBEq, putCells]
  refine loop_g (α := Nat × Option Nat) (fun a => a.1 ≤ pence) (fun a => pence - a.1) [0, 1] (fun a => [(5, .p (.sl (kindO 3 1 a.2) 1 (ints (fewL cs a.1)))), (6, .p (pi ((a.1 + 1 : Nat) : Int)))]) (fun _ => []) (fun a => a.2.toList) (0, none) (Nat.zero_le _) (by simp [Wk, wkT, wkL, look, AV.lo, upS_eq, keepS_nil, keepS_cons, kindO, fewL, sI_zero]) ?_
  rintro ⟨d, o⟩ hd
  replace hd : d ≤ pence := hd
  simp only [go_sem, Nat.reduceBEq]
  refine ⟨fun h5 => ?_, fun h5 => ?_⟩
  · have hd2 : d < pence := by omega
    refine loop_kl cs.length (fun _ => True) [0, 1, 5, 6] (fun i => [(7, .p (pi (leastN cs (d + 1) i))), (8, .p (pi i))]) (fun _ => []) trivial (by cases o <;> simp [Wk, wkT, wkL, look, AV.lo, upS_eq, keepS_nil, keepS_cons, kindO, leastN]) ?_
    rintro i ⟨hi, -⟩
    have hnx := leastN_next cs (d + 1) i
    have hge := leastN_ge hc (d + 1) i hi
    have hnn := sI_nn hc (d + 1)
    simp only [go_sem, Nat.reduceBEq, Nat.reduceLeDiff, List.length_map]
    refine ⟨fun h7 => ?_, fun h7 => ?_⟩
    · have hi2 : i < cs.length := by omega
      have hg : cs[i] = cs.getD i 0 := by rw [List.getD_eq_getElem?_getD, List.getElem?_eq_getElem hi2]; rfl
      have e1 := iadr_map (f := fun x : Int => [pi x]) (kd := k) (sz := 1) hi2
      rw [hg] at e1
      have hcp := hc.pos i hi2
      have hct := hc.top i hi2
      obtain ⟨c, hcc⟩ : ∃ c : Nat, cs.getD i 0 = c := ⟨(cs.getD i 0).toNat, by omega⟩
      rw [hcc] at e1 hcp hct hnx
      simp only [go_sem, Nat.reduceBEq, e1]
      refine ⟨fun h9 => ?_, fun h9 => ?_⟩
      · obtain ⟨q, hq⟩ : ∃ q, d + 1 - c = q := ⟨_, rfl⟩
        have w1 : IntKind.i64.wrap (((d + 1 : Nat) : Int) - c) = (q : Int) := by rw [wrap_id (by omega) (by omega)]; omega
        obtain ⟨hil, hie⟩ := fewL_at cs (d := d) (q := q) (by omega)
        have e2 := iadr_map (f := fun x : Int => [pi x]) (kd := kindO 3 1 o) (sz := 1) hil
        rw [hie] at e2
        have hq1 := sI_nn hc q
        have hq2 := sI_le hc q
        rw [if_pos (by omega), Int.toNat_natCast, hq] at hnx
        simp only [go_sem, Nat.reduceBEq, e2, w1, wrap_id (n := 1 + sI cs q) (by omega) (by omega), wrap_succ (k := i) (by omega)]
        have hmm : maxI false (leastN cs (d + 1) i) (1 + sI cs q) = leastN cs (d + 1) (i + 1) := by rw [hnx]; unfold maxI; simp only [Bool.false_eq_true, if_false]; first | omega | (split <;> omega)
        refine ⟨⟨i + 1, hi2, trivial⟩, by simp only; omega, ?_⟩
        simp only [hmm]
        cases o <;> simp [Wk, wkT, wkL, look, AV.lo, kindO]
      · rw [if_neg (by omega)] at hnx
        simp only [go_sem, wrap_succ (k := i) (by omega)]
        refine ⟨⟨i + 1, hi2, trivial⟩, by simp only; omega, ?_⟩
        simp only [hnx]
        cases o <;> simp [Wk, wkT, wkL, look, AV.lo, kindO]
    · have hjn : i = cs.length := by omega
      subst hjn
      have hrow : ints (fewL cs (d + 1)) = ints (fewL cs d) ++ [[pi (sI cs (d + 1))]] := by rw [fewL_next]; simp
      rw [leastN_all hc (show 1 ≤ d + 1 by omega)]
      refine ⟨by rw [fewL_len]; omega, can_kindO o, fun t ht => ⟨⟨(d + 1, some t), hd2⟩, by simp only; omega, ?_⟩⟩
      simp only [hrow]
      rw [wrap_succ (k := d + 1) (by omega)]
      cases o <;> simp [Wk, wkT, wkL, look, AV.lo, kindO]
  · have hdn : d = pence := by omega
    subst hdn
    obtain ⟨hil, hie⟩ := fewL_at cs (d := d) (q := d) (Nat.le_refl _)
    have e2 := iadr_map (f := fun x : Int => [pi x]) (kd := kindO 3 1 o) (sz := 1) hil
    rw [hie] at e2
    simp only [go_sem, Nat.reduceBEq, e2]
    exact retQ_one rfl rfl
theorem Total_sem (k : SK) {l : List Int} (hl : l.length ≤ 10) (hb : ∀ x ∈ l, 0 ≤ x ∧ x ≤ 1000) : Sem1 55 [.sl k 1 (ints l)] (pi (sumI l)) := by
  have hk : ∀ i, 0 ≤ sumI (l.take i) ∧ sumI (l.take i) ≤ 10000 := fun i => by
    have h1 := sum_bound (m := 1000) (l := l.take i) fun x hx => hb x (List.mem_of_mem_take hx)
    have h2 : (l.take i).length ≤ 10 := by rw [List.length_take]; omega
    omega
  refine semC_of_exec' mixed Tryz.func55 (by kernel_rfl) (by kernel_rfl) ac55_ok 1 rfl (by decide) [(.tmp 2)] (by kernel_rfl) ?_
  intro hr C hC hI
  unfold ac55
  simp only [go_sem]
  refine loop_k l.length (fun _ => True) [0] (fun i => [(3, .p (pi (sumI (l.take i)))), (4, .p (pi i))]) trivial rfl ⟨rfl, by simp, by simp⟩ (by simp [wkT, look, AV.lo, sumI]) ?_
  rintro i ⟨hi, -⟩
  simp only [go_sem, Nat.reduceBEq, List.length_map]
  refine ⟨fun d5 => ?_, fun d5 => ?_⟩
  · have hi2 : i < l.length := by omega
    have h1 := hk (i + 1)
    have h3 := sum_take hi2
    rw [h3] at h1
    simp only [go_sem, Nat.reduceBEq, iadr_pis hi2, wrap_id (n := sumI (l.take i) + l[i]) (by omega) (by omega), wrap_succ (k := i) (by omega)]
    refine ⟨⟨i + 1, hi2, trivial⟩, by simp only; omega, ?_⟩
    simp only [h3]
    simp [Wk, wkT, wkL, look, AV.lo]
  · have hin : i = l.length := by omega
    subst hin
    rw [List.take_length]
    exact retQ_one rfl rfl
def dotN (cs p : List Int) : Nat → Int
  | 0 => 0
  | i + 1 => dotN cs p i + p.getD i 0 * cs.getD i 0
theorem dotN_next (cs p : List Int) (i : Nat) : dotN cs p (i + 1) = dotN cs p i + p.getD i 0 * cs.getD i 0 := rfl
theorem dotN_all {cs p : List Int} (hp : p.length = 4) (h1 : 1 ≤ cs.length) (h4 : cs.length ≤ 4) : dotN cs p cs.length = dotI cs p := by
  obtain ⟨a, b, c, d, rfl⟩ := four hp
  match cs, h1, h4 with
  | [x], _, _ => simp [dotN, dotI]
  | [x, y], _, _ => simp [dotN, dotI]
  | [x, y, z], _, _ => simp [dotN, dotI]; omega
  | [x, y, z, w], _, _ => simp [dotN, dotI]; omega
  | _ :: _ :: _ :: _ :: _ :: _, _, h => exact absurd h (by simp)
theorem mul_bound {x c : Int} (h1 : 0 ≤ x ∧ x ≤ 600) (h2 : 0 ≤ c ∧ c ≤ 240) : 0 ≤ x * c ∧ x * c ≤ 144000 := by
  have h3 := Int.mul_nonneg h1.1 h2.1
  have h4 := Int.mul_le_mul h1.2 h2.2 h2.1 (show (0 : Int) ≤ 600 by decide)
  omega
def bareE (b : EBook) : EBook := { b with mb := { b.mb with seen := [] } }
theorem okE.bare {b : EBook} (h : okE b) : okE (bareE b) := by
  obtain ⟨⟨⟨h1, h2, h3, -, h5⟩, -⟩, h⟩ := h
  exact ⟨⟨⟨h1, h2, h3, by simp [okSeen, bareE], h5⟩, by simp [bareE]⟩, h⟩
theorem Pay_law (κ : KS) (b : EBook) (n : Int) : Sem1 13 [.agg (ebC κ b), pi n] (pb true) := by
  by_cases ho : okE b
  rotate_left
  · refine semC_of_exec' mixed Tryz.func13 (by kernel_rfl) (by kernel_rfl) ac13_ok 2 rfl (by decide) [(.tmp 4)] (by kernel_rfl) ?_
    intro hr C hC hI
    unfold ac13
    simp only [go_sem, Nat.reduceBEq, Nat.reduceAdd]
    refine call_pure2 hC (sound_sem κ b) rfl (PVleL_refl _) ?_
    rintro r rfl
    simp only [go_sem, Nat.reduceBEq, decide_eq_false ho]
    refine call_pure2 hC (exs_sem) rfl (PVleL_refl _) ?_
    rintro r rfl
    simp only [go_sem, Nat.reduceBEq]
    exact retQ_one rfl rfl
  have hcn := coins_ok ho.2.2.2.2.2.2
  have hr6 := rndI_range (n := n) (m := 601) (by omega)
  obtain ⟨d, hd⟩ : ∃ d : Nat, rndI n 601 = d := ⟨(rndI n 601).toNat, by omega⟩
  have hd6 : d ≤ 600 := by omega
  have hPl := pur_len hcn d
  have hl4 := hcn.le
  obtain ⟨L, hL⟩ : ∃ L, (purP b.coins d).take b.coins.length = L := ⟨_, rfl⟩
  have hLl : L.length = b.coins.length := by rw [← hL, List.length_take, hPl]; omega
  have hPay : ∀ (κ : KS) (x : EBook), okE x → x.coins = b.coins → Sem1 37 [.agg (ebC κ x), pi d] (.tup [pis L, pi 0]) := fun κ x hx hc => by
    have := Pay_sem κ x (d : Int)
    have e1 : okP (d : Int) = true := decide_eq_true (by omega)
    have e0 : errE x (okP (d : Int)) = 0 := by
      unfold errE
      rw [e1, if_pos hx, if_pos rfl]
    rw [if_pos e0, hc, Int.toNat_natCast] at this
    rwa [hL] at this
  have hpb : ∀ i, 0 ≤ (purP b.coins d).getD i 0 ∧ (purP b.coins d).getD i 0 ≤ (d : Int) := fun i => by
    by_cases h : i < (purP b.coins d).length
    · rw [List.getD_eq_getElem?_getD, List.getElem?_eq_getElem h]
      exact pays_bound hcn (pur_best hcn d).pays _ (List.getElem_mem h)
    · rw [List.getD_eq_getElem?_getD, List.getElem?_eq_none (by omega)]
      exact ⟨Int.le_refl _, by simp only [Option.getD_none]; omega⟩
  have hLi : ∀ i (h : i < L.length), L[i] = (purP b.coins d).getD i 0 := fun i h => by
    subst hL
    rw [List.getElem_take, List.getD_eq_getElem?_getD, List.getElem?_eq_getElem (by rw [hPl]; omega)]
    rfl
  have hdN : ∀ i, i ≤ b.coins.length → 0 ≤ dotN b.coins (purP b.coins d) i ∧ dotN b.coins (purP b.coins d) i ≤ i * 144000 := by
    intro i
    induction i with
    | zero => intro _; exact ⟨Int.le_refl _, by simp [dotN]⟩
    | succ i ih =>
      intro h
      have h1 := ih (by omega)
      have h2 := mul_bound (x := (purP b.coins d).getD i 0) (c := b.coins.getD i 0) (by have := hpb i; omega) (by have := hcn.pos i (by omega); have := hcn.top i (by omega); omega)
      rw [dotN_next]
      omega
  have hdot := dotN_all hPl hcn.ne hl4
  rw [(pur_best hcn d).pays.dot] at hdot
  have hsum : sumI L = sI b.coins d := by
    unfold sI
    subst hL
    have h0 := (pur_best hcn d).pays.out
    have h1 := hcn.ne
    obtain ⟨x0, x1, x2, x3, e⟩ := four hPl
    rw [e] at h0 ⊢
    have h4 : b.coins.length = 1 ∨ b.coins.length = 2 ∨ b.coins.length = 3 ∨ b.coins.length = 4 := by omega
    have g1 := h0 1
    have g2 := h0 2
    have g3 := h0 3
    simp only [List.getD_cons_succ, List.getD_cons_zero] at g1 g2 g3
    rcases h4 with h4 | h4 | h4 | h4 <;> rw [h4] at g1 g2 g3 ⊢ <;> simp only [List.take_succ_cons, List.take_zero, sum_cons] <;> simp at g1 g2 g3 <;> simp [sumI, g1, g2, g3]
  obtain ⟨p, hp⟩ : ∃ p, purP b.coins d = p := ⟨_, rfl⟩
  rw [hp] at hpb hLi hdN hdot hPl
  have hLb : ∀ x ∈ L, 0 ≤ x ∧ x ≤ 1000 := fun x hx => by
    obtain ⟨i, hi, rfl⟩ := List.mem_iff_getElem.1 hx
    rw [hLi i hi]
    have := hpb i
    omega
  refine semC_of_exec' mixed Tryz.func13 (by kernel_rfl) (by kernel_rfl) ac13_ok 2 rfl (by decide) [(.tmp 4)] (by kernel_rfl) ?_
  intro hr C hC hI
  unfold ac13
  simp only [go_sem, Nat.reduceBEq, Nat.reduceAdd]
  refine call_pure2 hC (sound_sem κ b) rfl (PVleL_refl _) ?_
  rintro r rfl
  simp only [go_sem, Nat.reduceBEq, decide_eq_true ho]
  refine call_pure2 hC (Round_sem n 601) rfl (PVleL_refl _) ?_
  rintro r rfl
  simp only [go_sem, Nat.reduceBEq, Nat.reduceAdd, hd]
  refine call_pure2 hC (hPay κ b ho rfl) rfl (PVleL_refl _) ?_
  rintro r rfl
  simp only [go_sem, Nat.reduceBEq, List.length_map, hLl, decide_false, not_true_eq_false]
  refine loop_k L.length (fun _ => True) [2, 5, 6] (fun i => [(8, .p (pi (dotN b.coins p i))), (9, .p (pi i))]) trivial rfl ⟨rfl, by simp, by simp⟩ (by simp [wkT, look, AV.lo, dotN]) ?_
  rintro i ⟨hi, -⟩
  simp only [go_sem, Nat.reduceBEq, Nat.reduceAdd, Nat.reduceLeDiff, List.length_map]
  refine ⟨fun d5 => ?_, fun d5 => ?_⟩
  · have hi2 : i < L.length := by omega
    have hic : i < b.coins.length := by omega
    have h1 := hpb i
    have h2 := hdN (i + 1) (by omega)
    have h3 := hdN i (by omega)
    have h4 := mul_bound (x := p.getD i 0) (c := b.coins.getD i 0) (by omega) (by have := hcn.pos i hic; have := hcn.top i hic; omega)
    rw [dotN_next] at h2
    have hnx := dotN_next b.coins p i
    have hg : b.coins[i] = b.coins.getD i 0 := by rw [List.getD_eq_getElem?_getD, List.getElem?_eq_getElem hic]; rfl
    have e2 := iadr_map (f := fun x : Int => [pi x]) (kd := κ.e) (sz := 1) hic
    rw [hg] at e2
    have e1 := iadr_map (f := fun x : Int => [pi x]) (kd := .sh) (sz := 1) hi2
    rw [hLi i hi2] at e1
    simp only [go_sem, Nat.reduceBEq, e1]
    refine call_pure2 hC (In_sem ..) rfl (PVleL_refl _) ?_
    rintro r rfl
    simp only [go_sem, Nat.reduceBEq, decide_eq_true h1, e1, e2, wrap_id (n := p.getD i 0 * b.coins.getD i 0) (by omega) (by omega), wrap_id (n := dotN b.coins p i + p.getD i 0 * b.coins.getD i 0) (by omega) (by omega), wrap_succ (k := i) (by omega)]
    refine ⟨⟨i + 1, hi2, trivial⟩, by simp only; omega, ?_⟩
    simp only [hnx]
    simp [Wk, wkT, wkL, look, AV.lo, AV.lo.loL, ABlk.toZ]
  · have hin : i = b.coins.length := by omega
    subst hin
    rw [hdot]
    refine call_pure2 hC (hPay { κ with b := .sh } (bareE b) ho.bare rfl) rfl ⟨PVle.agg (show PVleL [_, _, _, _, _, _, _, _] [_, _, _, _, _, _, _, _] from ⟨PVle.refl _, PVle.nil _ _ _, PVle.refl _, PVle.refl _, PVle.refl _, PVle.refl _, PVle.refl _, PVle.refl _, trivial⟩), PVle.refl _, trivial⟩ ?_
    rintro _ rfl
    simp only [go_sem, Nat.reduceBEq, decide_true, Bool.false_eq_true]
    refine call_pure2 hC (Total_sem .sh (by omega) hLb) rfl (PVleL_refl _) ?_
    rintro _ rfl
    simp only [go_sem, Nat.reduceBEq]
    refine call_pure2 hC (fewest_sem κ.e hcn hd6) rfl (PVleL_refl _) ?_
    rintro _ rfl
    simp only [go_sem, Nat.reduceBEq, hsum, decide_true]
    refine call_pure2 hC (Equal_sem L L) rfl (PVleL_refl _) ?_
    rintro r rfl
    simp only [go_sem, Nat.reduceBEq, decide_true]
    refine call_pure2 hC (exs_sem) rfl (PVleL_refl _) ?_
    rintro r rfl
    simp only [go_sem, Nat.reduceBEq]
    exact retQ_one rfl rfl
set_option maxRecDepth 100000 in
theorem Pay_row {l0 l1 : List PV} (T0 : Ty Tryz.prog 10 29 l0) (T1 : Ty Tryz.prog 10 3 l1) : SemC Tryz.prog 13 [argPV Tryz.prog 29 l0, argPV Tryz.prog 3 l1] (fun r => r = pb true) := by
  obtain ⟨b, rfl⟩ := ty_ebook T0
  obtain ⟨n, rfl⟩ := tyInt uInt T1
  rw [argStruct Tryz.underlying29, argInt uInt]
  exact Pay_law shK b n
end Go.Proofs.YtefehlekneahmaaGreat.Mk.Me
namespace Go.Proofs.YtefehlekneahmaaGreat
open Go.Proofs.YtefehlekneahmaaGreat Go.ChangeShapes Go.WideShapes Go.ChangeAt Go.RowKit Go.Deep

set_option maxRecDepth 100000 in
theorem mendPay_lifted (os : Os) (started : os.Started) (H : Type) (enc : TypeId × Value → H) :
    ReturnsInHanded {} Tryz.checked os 13 .any (Rows.mendPaySpec.pre6 enc Tryz.prog Tryz.f13 Rows.mendPayRow.domain false) (Rows.mendPaySpec.post enc Tryz.prog Tryz.f13 false true false false) := by
  refine returnsInHanded_of_change_sized (C := Tryz.checked) ownKnobs started (by kernel_rfl) Tryz.func13
    (ChangeSpec.witness6 (enc := enc) (C := Tryz.checked) false ⟨#[], #[.agg #[.slice none 0 0, .slice none 0 0, .int .i64 0, .int .i64 0, .slice none 0 0, .int .i64 0, .slice none 0 0, .slice none 0 0], .int .i64 0], []⟩ 8 (by kernel_rfl) (by kernel_rfl) (by kernel_rfl) (by kernel_rfl)) ?_
  intro W base args ds gs before hval0 hW hcnd hsz0 _
  have hval : ∀ (j : Nat) t v, Tryz.f13.params[j]? = some t → args[j]? = some v → Value.okWide Tryz.prog W .any base t v := hval0
  have hsz : (DataW.weightsEach Tryz.prog (Tryz.f13.params.toList ++ Rows.mendPaySpec.plain.varTypes Tryz.prog) (ds ++ gs)).all (· ≤ reachBytes) = true := hsz0
  have hW' := hW
  obtain ⟨p, q, hA0, hV, rfl, hfz, hnd⟩ := hW
  have hA : DataW.TrodAll enc Tryz.prog W 0 (fun _ => true) true Tryz.f13.params.toList args.toList ds p := hA0
  rw [Tryz.params13] at hA hval hsz
  obtain ⟨v0, vs0, d0, ds0, p0, q0, hargs, rfl, rfl, h0, r0⟩ := trodAll_cons hA
  obtain ⟨v1, vs1, d1, ds1, p1, q1, rfl, rfl, rfl, h1, r1⟩ := trodAll_cons r0
  obtain ⟨rfl, rfl, rfl⟩ := trodAll_nil r1
  obtain rfl : args = #[v0, v1] := by cases args; simp_all
  obtain ⟨rfl, rfl⟩ := trodVars_none hV
  have lt0 : ∀ x ∈ p0, x.block < W.heap.size := by obtain ⟨m, hm⟩ := h0; exact DataW.trod_lt m _ _ _ hm
  have lt1 : ∀ x ∈ p1, x.block < W.heap.size := by obtain ⟨m, hm⟩ := h1; exact DataW.trod_lt m _ _ _ hm
  have z0 : SizedP Tryz.prog 29 d0 := sizedP_each hsz (j := 0) rfl rfl
  obtain ⟨l0, T0, R0⟩ := rd_arg 10 (by kernel_rfl) (hval 0 29 v0 rfl rfl) h0 z0
  have z1 : SizedP Tryz.prog 3 d1 := sizedP_each hsz (j := 1) rfl rfl
  obtain ⟨l1, T1, R1⟩ := rd_arg 10 (by kernel_rfl) (hval 1 3 v1 rfl rfl) h1 z1
  clear hA0 hval0 hsz0
  refine (law_calls (Mk.Me.Pay_row T0 T1) (argsP_cons R0 (argsP_cons R1 argsP_nil))).mono fun e W' ⟨he, bel⟩ => ?_
  subst he
  exact ⟨_, rfl, _, _, _, [], _, [], hW', trodAll_mk1 (shut_bool Tryz.underlying4 _), (trodAll_cons_mk (Below.trod laidOut (by kernel_rfl) (of_decide_eq_true (by kernel_rfl)) h0 bel lt0) (trodAll_cons_mk (Below.trod laidOut (by kernel_rfl) (of_decide_eq_true (by kernel_rfl)) h1 bel lt1) trodAll_mk0)), rfl, bel.frame _, fun h => by cases h⟩

theorem mendPay_joined : joinedFacts Tryz.prog 13 Tryz.f13 Rows.mendPaySpec Rows.mendPayRow = true := by
  simp only [joinedFacts, Bool.and_eq_true]
  repeat' apply And.intro
  all_goals first | with_reducible exact laidOut | with_reducible exact mapsR | with_reducible exact stopsH | with_reducible exact mayE | (rw [lift0]; kernel_rfl) | (rw [make0]; kernel_rfl) | kernel_rfl

theorem mendPay_holds : Rows.MendPaySaid :=
  OpenClaim.holds_of_wide 13 Tryz.f13 rfl rfl rfl rfl rfl rfl rfl ⟨rfl, rfl, rfl, rfl, rfl⟩ rfl rfl rfl rfl rfl (by kernel_rfl) Tryz.func13 mendPay_joined
    (of_decide_eq_true (by kernel_rfl)) (by unfold Func.isWrapper; first | (rw [if_pos (by decide +kernel)]; kernel_rfl) | (rw [if_neg (by decide +kernel)]; exact ⟨rfl, rfl⟩))
    (fun os started H enc _ => mendPay_lifted os started H enc)
end Go.Proofs.YtefehlekneahmaaGreat
