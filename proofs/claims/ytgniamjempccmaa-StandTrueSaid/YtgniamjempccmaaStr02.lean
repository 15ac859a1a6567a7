/- StandSign. StandWrong. -/
import Derived.Test.YtgniamjempccmaaStr01
import Derived.Test.YtgniamjempccmaaGa23
namespace Go.Proofs.Ytgniamjempccmaa
open Go.RowKit
def ac8 : AC := (AC.seq (AC.ops [(AOp.mk (some 2) (AK.box 10 (AX.t 0)) none 0 false true), (AOp.mk (some 3) (AK.box 2 (AX.t 1)) none 1 false true), (AOp.mk (some 4) (AK.mv (AX.c (PV.val (Value.bool false)))) none 2 false true)]) (AC.seq (AC.seq (AC.ops [(AOp.mk (some 18) (AK.ld (some 10) (AX.t 2)) none 0 false true), (AOp.mk (some 19) (AK.call 38 [(AX.t 18)]) none 1 false true), (AOp.mk (some 20) (AK.un UnOp.not (AX.t 19)) none 2 false true)]) (AC.cond (AX.t 20) (AC.seq (AC.ops [(AOp.mk (some 21) (AK.call 24 []) none 0 false true), (AOp.mk (some 4) (AK.mv (AX.t 21)) none 1 false true)]) AC.ret) AC.skip)) (AC.seq (AC.ops [(AOp.mk (some 22) (AK.iadrA 1 2 (AX.t 3) (AX.c (PV.val (Value.int IntKind.i64 0)))) none 0 true false), (AOp.mk (some 23) (AK.ld none (AX.t 22)) none 1 true false), (AOp.mk (some 24) (AK.fadr 8 (AX.t 2)) none 2 true false), (AOp.mk (some 25) (AK.ld none (AX.t 24)) none 3 true false), (AOp.mk (some 28) (AK.iadrA 1 2 (AX.t 3) (AX.c (PV.val (Value.int IntKind.i64 1)))) none 6 true false), (AOp.mk (some 29) (AK.ld none (AX.t 28)) none 7 true false), (AOp.mk (some 30) (AK.fadr 7 (AX.t 2)) none 8 true false), (AOp.mk (some 31) (AK.ld none (AX.t 30)) none 9 true false), (AOp.mk (some 32) (AK.bin false BinOp.mul (AX.c (PV.val (Value.int IntKind.i64 2))) (AX.t 31)) none 10 true false), (AOp.mk (some 33) (AK.bin false BinOp.add (AX.t 32) (AX.c (PV.val (Value.int IntKind.i64 1)))) none 11 true false), (AOp.mk (some 35) (AK.fadr 7 (AX.t 2)) none 13 true false), (AOp.mk (some 36) (AK.ld none (AX.t 35)) none 14 true false), (AOp.mk (some 26) (AK.call 41 [(AX.t 23), (AX.t 25)]) none 4 false false), (AOp.mk (some 27) (AK.bin false BinOp.add (AX.c (PV.val (Value.int IntKind.i64 1))) (AX.t 26)) none 5 true false), (AOp.mk (some 34) (AK.call 41 [(AX.t 29), (AX.t 33)]) none 12 false false), (AOp.mk (some 37) (AK.bin false BinOp.sub (AX.t 34) (AX.t 36)) none 15 true false), (AOp.mk (some 5) (AK.mv (AX.t 27)) none 16 true false), (AOp.mk (some 6) (AK.mv (AX.t 37)) none 17 true true)]) (AC.seq (AC.ops [(AOp.mk (some 39) (AK.ld (some 10) (AX.t 2)) none 0 false true), (AOp.mk (some 40) (AK.mv (AX.t 5)) none 1 false true), (AOp.mk (some 41) (AK.mv (AX.t 6)) none 2 false true), (AOp.mk (some 42) (AK.call 20 [(AX.t 39), (AX.t 40), (AX.t 41)]) none 3 false true), (AOp.mk (some 38) (AK.mv (AX.t 42)) none 4 false true), (AOp.mk (some 43) (AK.ext (AX.t 38) 0) none 5 false true), (AOp.mk (some 44) (AK.ext (AX.t 38) 1) none 6 false true), (AOp.mk (some 7) (AK.mv (AX.t 43)) none 7 false true), (AOp.mk (some 8) (AK.mv (AX.t 44)) none 8 false true)]) (AC.seq (AC.ops [(AOp.mk (some 46) (AK.ld (some 10) (AX.t 2)) none 0 false true), (AOp.mk (some 47) (AK.mv (AX.t 5)) none 1 false true), (AOp.mk (some 48) (AK.mv (AX.t 6)) none 2 false true), (AOp.mk (some 49) (AK.call 22 [(AX.t 46), (AX.t 47), (AX.t 48)]) none 3 false true), (AOp.mk (some 45) (AK.mv (AX.t 49)) none 4 false true), (AOp.mk (some 50) (AK.ext (AX.t 45) 0) none 5 false true), (AOp.mk (some 51) (AK.ext (AX.t 45) 1) none 6 false true), (AOp.mk (some 9) (AK.new (PV.agg [(PV.val (Value.int IntKind.i64 0)), (PV.val (Value.int IntKind.i64 0))])) none 7 false true), (AOp.mk none (AK.st 2 (AX.t 9) (AX.t 50)) none 8 false true), (AOp.mk (some 10) (AK.mv (AX.t 51)) none 9 false true)]) (AC.seq (AC.ops [(AOp.mk (some 53) (AK.ld (some 10) (AX.t 2)) none 0 false true), (AOp.mk (some 54) (AK.mv (AX.t 5)) none 1 false true), (AOp.mk (some 55) (AK.call 25 [(AX.t 53), (AX.t 54)]) none 2 false true), (AOp.mk (some 52) (AK.mv (AX.t 55)) none 3 false true), (AOp.mk (some 56) (AK.ext (AX.t 52) 0) none 4 false true), (AOp.mk (some 57) (AK.ext (AX.t 52) 1) none 5 false true), (AOp.mk (some 11) (AK.mv (AX.t 56)) none 6 false true), (AOp.mk (some 12) (AK.mv (AX.t 57)) none 7 false true)]) (AC.seq (AC.seq (AC.ops [(AOp.mk (some 58) (AK.mv (AX.t 10)) none 0 false true), (AOp.mk (some 59) (AK.mv (AX.t 8)) none 1 false true), (AOp.mk (some 60) (AK.bin false BinOp.neq (AX.t 58) (AX.t 59)) none 2 false true), (AOp.mk (some 61) (AK.mv (AX.t 60)) none 3 false true), (AOp.mk (some 62) (AK.mv (AX.t 12)) (some (61, false)) 4 false true), (AOp.mk (some 63) (AK.mv (AX.t 8)) (some (61, false)) 5 false true), (AOp.mk (some 64) (AK.bin false BinOp.neq (AX.t 62) (AX.t 63)) (some (61, false)) 6 false true), (AOp.mk (some 65) (AK.pick (AX.t 61) (AX.c (PV.val (Value.bool true))) (AX.t 64)) none 7 false true), (AOp.mk (some 66) (AK.mv (AX.t 65)) none 8 false true), (AOp.mk (some 67) (AK.mv (AX.t 8)) (some (66, false)) 9 false true), (AOp.mk (some 68) (AK.bin false BinOp.neq (AX.t 67) (AX.c (PV.val (Value.int IntKind.i64 0)))) (some (66, false)) 10 false true), (AOp.mk (some 69) (AK.pick (AX.t 66) (AX.c (PV.val (Value.bool true))) (AX.t 68)) none 11 false true)]) (AC.cond (AX.t 69) (AC.seq (AC.ops [(AOp.mk (some 70) (AK.mv (AX.t 10)) none 0 false true), (AOp.mk (some 71) (AK.mv (AX.t 8)) none 1 false true), (AOp.mk (some 72) (AK.bin false BinOp.eql (AX.t 70) (AX.t 71)) none 2 false true), (AOp.mk (some 73) (AK.mv (AX.t 72)) none 3 false true), (AOp.mk (some 74) (AK.mv (AX.t 12)) (some (73, true)) 4 false true), (AOp.mk (some 75) (AK.mv (AX.t 8)) (some (73, true)) 5 false true), (AOp.mk (some 76) (AK.bin false BinOp.eql (AX.t 74) (AX.t 75)) (some (73, true)) 6 false true), (AOp.mk (some 77) (AK.pick (AX.t 73) (AX.t 76) (AX.c (PV.val (Value.bool false)))) none 7 false true), (AOp.mk (some 78) (AK.mv (AX.t 77)) none 8 false true), (AOp.mk (some 79) (AK.mv (AX.t 8)) (some (78, true)) 9 false true), (AOp.mk (some 80) (AK.bin false BinOp.eql (AX.t 79) (AX.c (PV.val (Value.int IntKind.i64 22)))) (some (78, true)) 10 false true), (AOp.mk (some 81) (AK.pick (AX.t 78) (AX.t 80) (AX.c (PV.val (Value.bool false)))) none 11 false true), (AOp.mk (some 82) (AK.mv (AX.t 81)) none 12 false true), (AOp.mk (some 83) (AK.mv (AX.t 7)) (some (82, true)) 13 false true), (AOp.mk (some 84) (AK.bin false BinOp.eql (AX.t 83) (AX.c (PV.val (Value.int IntKind.i64 0)))) (some (82, true)) 14 false true), (AOp.mk (some 85) (AK.pick (AX.t 82) (AX.t 84) (AX.c (PV.val (Value.bool false)))) none 15 false true), (AOp.mk (some 86) (AK.mv (AX.t 85)) none 16 false true), (AOp.mk (some 87) (AK.ld (some 2) (AX.t 9)) (some (86, true)) 17 false true), (AOp.mk (some 88) (AK.build [(PV.val (Value.int IntKind.i64 0)), (PV.val (Value.int IntKind.i64 0))] []) (some (86, true)) 18 false true), (AOp.mk (some 89) (AK.eqs [CK.i, CK.i] false (AX.t 87) (AX.t 88)) (some (86, true)) 19 false true), (AOp.mk (some 90) (AK.pick (AX.t 86) (AX.t 89) (AX.c (PV.val (Value.bool false)))) none 20 false true), (AOp.mk (some 91) (AK.mv (AX.t 90)) none 21 false true), (AOp.mk (some 92) (AK.mv (AX.t 11)) (some (91, true)) 22 false true), (AOp.mk (some 93) (AK.un UnOp.not (AX.t 92)) (some (91, true)) 23 false true), (AOp.mk (some 94) (AK.pick (AX.t 91) (AX.t 93) (AX.c (PV.val (Value.bool false)))) none 24 false true), (AOp.mk (some 95) (AK.mv (AX.t 94)) none 25 false true), (AOp.mk (some 96) (AK.call 24 []) (some (95, true)) 26 false true), (AOp.mk (some 97) (AK.pick (AX.t 95) (AX.t 96) (AX.c (PV.val (Value.bool false)))) none 27 false true), (AOp.mk (some 4) (AK.mv (AX.t 97)) none 28 false true)]) AC.ret) AC.skip)) (AC.seq (AC.seq (AC.ops [(AOp.mk (some 98) (AK.mv (AX.t 7)) none 0 false true), (AOp.mk (some 99) (AK.bin false BinOp.gtr (AX.t 98) (AX.c (PV.val (Value.int IntKind.i64 0)))) none 1 false true), (AOp.mk (some 100) (AK.fadr 0 (AX.t 9)) none 2 false true), (AOp.mk (some 101) (AK.ld none (AX.t 100)) none 3 false true), (AOp.mk (some 102) (AK.bin false BinOp.lss (AX.t 101) (AX.c (PV.val (Value.int IntKind.i64 0)))) none 4 false true), (AOp.mk (some 103) (AK.bin true BinOp.neq (AX.t 99) (AX.t 102)) none 5 false true), (AOp.mk (some 104) (AK.mv (AX.t 103)) none 6 false true), (AOp.mk (some 105) (AK.fadr 1 (AX.t 9)) (some (104, false)) 7 false true), (AOp.mk (some 106) (AK.ld none (AX.t 105)) (some (104, false)) 8 false true), (AOp.mk (some 107) (AK.call 43 [(AX.t 106), (AX.c (PV.val (Value.int IntKind.i64 1))), (AX.c (PV.val (Value.int IntKind.i64 500)))]) (some (104, false)) 9 false true), (AOp.mk (some 108) (AK.un UnOp.not (AX.t 107)) (some (104, false)) 10 false true), (AOp.mk (some 109) (AK.pick (AX.t 104) (AX.c (PV.val (Value.bool true))) (AX.t 108)) none 11 false true), (AOp.mk (some 110) (AK.mv (AX.t 109)) none 12 false true), (AOp.mk (some 111) (AK.fadr 0 (AX.t 9)) (some (110, false)) 13 false true), (AOp.mk (some 112) (AK.ld none (AX.t 111)) (some (110, false)) 14 false true), (AOp.mk (some 113) (AK.bin false BinOp.eql (AX.t 112) (AX.c (PV.val (Value.int IntKind.i64 0)))) (some (110, false)) 15 false true), (AOp.mk (some 114) (AK.mv (AX.t 113)) (some (110, false)) 16 false true), (AOp.mk (some 115) (AK.fadr 1 (AX.t 9)) (some (114, true)) 17 false true), (AOp.mk (some 116) (AK.ld none (AX.t 115)) (some (114, true)) 18 false true), (AOp.mk (some 117) (AK.bin false BinOp.neq (AX.t 116) (AX.c (PV.val (Value.int IntKind.i64 1)))) (some (114, true)) 19 false true), (AOp.mk (some 118) (AK.pick (AX.t 114) (AX.t 117) (AX.c (PV.val (Value.bool false)))) (some (110, false)) 20 false true), (AOp.mk (some 119) (AK.pick (AX.t 110) (AX.c (PV.val (Value.bool true))) (AX.t 118)) none 21 false true)]) (AC.cond (AX.t 119) (AC.seq (AC.ops [(AOp.mk (some 4) (AK.mv (AX.c (PV.val (Value.bool false)))) none 0 false true)]) AC.ret) AC.skip)) (AC.seq (AC.seq (AC.ops [(AOp.mk (some 13) (AK.mv (AX.c (PV.val (Value.int IntKind.i64 2)))) none 0 false true)]) (AC.block 0 (AC.loop (AC.seq (AC.seq (AC.ops [(AOp.mk (some 120) (AK.mv (AX.t 13)) none 0 false true), (AOp.mk (some 121) (AK.fadr 1 (AX.t 9)) none 1 false true), (AOp.mk (some 122) (AK.ld none (AX.t 121)) none 2 false true), (AOp.mk (some 123) (AK.bin false BinOp.leq (AX.t 120) (AX.t 122)) none 3 false true)]) (AC.cond (AX.t 123) AC.skip (AC.exit 0))) (AC.seq (AC.block 1 (AC.seq (AC.ops [(AOp.mk (some 126) (AK.fadr 0 (AX.t 9)) none 0 false true), (AOp.mk (some 127) (AK.ld none (AX.t 126)) none 1 false true), (AOp.mk (some 128) (AK.mv (AX.t 13)) none 2 false true), (AOp.mk (some 129) (AK.bin false BinOp.rem (AX.t 127) (AX.t 128)) none 3 false true), (AOp.mk (some 130) (AK.bin false BinOp.eql (AX.t 129) (AX.c (PV.val (Value.int IntKind.i64 0)))) none 4 false true), (AOp.mk (some 131) (AK.mv (AX.t 130)) none 5 false true), (AOp.mk (some 132) (AK.fadr 1 (AX.t 9)) (some (131, true)) 6 false true), (AOp.mk (some 133) (AK.ld none (AX.t 132)) (some (131, true)) 7 false true), (AOp.mk (some 134) (AK.mv (AX.t 13)) (some (131, true)) 8 false true), (AOp.mk (some 135) (AK.bin false BinOp.rem (AX.t 133) (AX.t 134)) (some (131, true)) 9 false true), (AOp.mk (some 136) (AK.bin false BinOp.eql (AX.t 135) (AX.c (PV.val (Value.int IntKind.i64 0)))) (some (131, true)) 10 false true), (AOp.mk (some 137) (AK.pick (AX.t 131) (AX.t 136) (AX.c (PV.val (Value.bool false)))) none 11 false true)]) (AC.cond (AX.t 137) (AC.seq (AC.ops [(AOp.mk (some 4) (AK.mv (AX.c (PV.val (Value.bool false)))) none 0 false true)]) AC.ret) AC.skip))) (AC.ops [(AOp.mk (some 124) (AK.mv (AX.t 13)) none 0 false true), (AOp.mk (some 125) (AK.bin false BinOp.add (AX.t 124) (AX.c (PV.val (Value.int IntKind.i64 1)))) none 1 false true), (AOp.mk (some 13) (AK.mv (AX.t 125)) none 2 false true)])))))) (AC.seq (AC.ops [(AOp.mk (some 14) (AK.mv (AX.c (PV.val (Value.bool true)))) none 0 false true)]) (AC.seq (AC.seq (AC.ops [(AOp.mk (some 138) (AK.fadr 7 (AX.t 2)) none 0 false true), (AOp.mk (some 139) (AK.ld none (AX.t 138)) none 1 false true), (AOp.mk (some 140) (AK.un UnOp.neg (AX.t 139)) none 2 false true), (AOp.mk (some 15) (AK.mv (AX.t 140)) none 3 false true)]) (AC.block 2 (AC.loop (AC.seq (AC.seq (AC.ops [(AOp.mk (some 141) (AK.mv (AX.t 15)) none 0 false true), (AOp.mk (some 142) (AK.fadr 7 (AX.t 2)) none 1 false true), (AOp.mk (some 143) (AK.ld none (AX.t 142)) none 2 false true), (AOp.mk (some 144) (AK.bin false BinOp.leq (AX.t 141) (AX.t 143)) none 3 false true)]) (AC.cond (AX.t 144) AC.skip (AC.exit 2))) (AC.seq (AC.block 3 (AC.seq (AC.ops [(AOp.mk (some 148) (AK.ld (some 10) (AX.t 2)) none 0 false true), (AOp.mk (some 149) (AK.mv (AX.t 5)) none 1 false true), (AOp.mk (some 150) (AK.mv (AX.t 15)) none 2 false true), (AOp.mk (some 151) (AK.call 20 [(AX.t 148), (AX.t 149), (AX.t 150)]) none 3 false true), (AOp.mk (some 147) (AK.mv (AX.t 151)) none 4 false true), (AOp.mk (some 152) (AK.ext (AX.t 147) 0) none 5 false true), (AOp.mk (some 153) (AK.ext (AX.t 147) 1) none 6 false true), (AOp.mk (some 16) (AK.mv (AX.t 152)) none 7 false true), (AOp.mk (some 17) (AK.mv (AX.t 153)) none 8 false true)]) (AC.seq (AC.seq (AC.ops [(AOp.mk (some 154) (AK.mv (AX.t 17)) none 0 false true), (AOp.mk (some 155) (AK.bin false BinOp.neq (AX.t 154) (AX.c (PV.val (Value.int IntKind.i64 0)))) none 1 false true)]) (AC.cond (AX.t 155) (AC.seq (AC.ops [(AOp.mk (some 4) (AK.mv (AX.c (PV.val (Value.bool false)))) none 0 false true)]) AC.ret) AC.skip)) (AC.ops [(AOp.mk (some 156) (AK.mv (AX.t 14)) none 0 false true), (AOp.mk (some 157) (AK.mv (AX.t 156)) none 1 false true), (AOp.mk (some 158) (AK.mv (AX.t 16)) (some (157, true)) 2 false true), (AOp.mk (some 159) (AK.bin false BinOp.eql (AX.t 158) (AX.c (PV.val (Value.int IntKind.i64 0)))) (some (157, true)) 3 false true), (AOp.mk (some 160) (AK.pick (AX.t 157) (AX.t 159) (AX.c (PV.val (Value.bool false)))) none 4 false true), (AOp.mk (some 14) (AK.mv (AX.t 160)) none 5 false true)])))) (AC.ops [(AOp.mk (some 145) (AK.mv (AX.t 15)) none 0 false true), (AOp.mk (some 146) (AK.bin false BinOp.add (AX.t 145) (AX.c (PV.val (Value.int IntKind.i64 1)))) none 1 false true), (AOp.mk (some 15) (AK.mv (AX.t 146)) none 2 false true)])))))) (AC.seq (AC.ops [(AOp.mk (some 161) (AK.mv (AX.t 11)) none 0 false true), (AOp.mk (some 162) (AK.mv (AX.t 14)) none 1 false true), (AOp.mk (some 163) (AK.bin true BinOp.eql (AX.t 161) (AX.t 162)) none 2 false true), (AOp.mk (some 164) (AK.mv (AX.t 163)) none 3 false true), (AOp.mk (some 165) (AK.call 24 []) (some (164, true)) 4 false true), (AOp.mk (some 166) (AK.pick (AX.t 164) (AX.t 165) (AX.c (PV.val (Value.bool false)))) none 5 false true), (AOp.mk (some 4) (AK.mv (AX.t 166)) none 6 false true)]) AC.ret))))))))))))
theorem ac8_ok : cCode Try.prog (fun _ => false) Try.f8.ntmps (Try.f8.body.getD .skip) = some ac8 := by kernel_rfl
theorem lm_facts {b : SBook} (ho : okBook b) (hT : truthL b ≠ []) {w n : Int} (hw : 1 ≤ w ∧ w ≤ 60) : (((lmI b w n (loadsI b)).2.1 < 0) ↔ ¬ holdsI b (loadsI b) w n) ∧ (1 ≤ (lmI b w n (loadsI b)).2.2 ∧ (lmI b w n (loadsI b)).2.2 ≤ 500) ∧ Int.gcd (lmI b w n (loadsI b)).2.1 (lmI b w n (loadsI b)).2.2 = 1 := by
  have hne : loadsI b ≠ [] := by unfold loadsI; simpa using hT
  have hsp := seat_pos (n := n) ho.fit hw.1
  obtain ⟨-, ⟨l0, hl0, e⟩, h3⟩ := lmI_least hsp hne
  obtain ⟨g, g1, g2, g3, g4, g5⟩ := margin_facts b l0 w n (hsp l0 hl0)
  have h4 := loadsI_400 ho.fit l0 hl0
  rw [← e] at g2 g3 g4 g5
  refine ⟨⟨fun h hh => ?_, fun h => ?_⟩, ⟨g4, ?_⟩, g5⟩
  · exact hh l0 hl0 ((margin_neg (hsp l0 hl0)).1 (by rw [← e]; exact h))
  · obtain ⟨l, hl, ht⟩ : ∃ l ∈ loadsI b, tipsI b l w n := by
      refine Classical.byContradiction fun hn => h fun l hl ht => hn ⟨l, hl, ht⟩
    obtain ⟨g', q1, q2, q3, q4, q5⟩ := margin_facts b l w n (hsp l hl)
    have h5 := (margin_neg (hsp l hl)).2 ht
    have h6 := h3 l hl
    have h7 : (marginI b l w n).1 * (lmI b w n (loadsI b)).2.2 < 0 := Int.mul_neg_of_neg_of_pos h5 (by omega)
    exact (sign_mul q4).1 (by omega)
  · have h5 : (seatB b l0 w n).w = l0.w + w := rfl
    have h6 : (lmI b w n (loadsI b)).2.2 * 1 ≤ (lmI b w n (loadsI b)).2.2 * g := Int.mul_le_mul_of_nonneg_left g1 (by omega)
    unfold SLoad.ok at h4
    omega
theorem gcd_tmods {a c d : Int} (h : Int.gcd a c = 1) (hd : 2 ≤ d) : ¬ (a.tmod d = 0 ∧ c.tmod d = 0) := by
  rintro ⟨h1, h2⟩
  have := Int.dvd_coe_gcd (Int.dvd_of_tmod_eq_zero h1) (Int.dvd_of_tmod_eq_zero h2)
  rw [h] at this
  have := Int.le_of_dvd (by omega) this
  omega
theorem gcd_zero_one {c : Int} (h : Int.gcd 0 c = 1) (hc : 1 ≤ c) : c = 1 := by
  rw [Int.gcd_zero_left] at h
  omega
def nvI (b : SBook) (w : Int) (j : Nat) : Bool := (List.range j).all fun q => decide (countI b (loadsI b) w (q - b.lean) = 0)
theorem nv_succ (b : SBook) (w : Int) (j : Nat) : nvI b w (j + 1) = (nvI b w j && decide (answerI b (loadsI b) w (j - b.lean) = 0)) := by
  unfold nvI
  rw [List.range_succ, List.all_append]
  simp only [List.all_cons, List.all_nil, Bool.and_true]
  congr 1
  exact decide_eq_decide.2 (by rw [answer_holds, count_zero])
set_option maxRecDepth 100000 in
theorem StandSign_law (b : SBook) (n0 n1 : Int) : Sem1 8 [.agg (bookC .sh .sh b), .agg [pi n0, pi n1]] (pb true) := by
  have e10 : iadrAS 1 2 (.loc 1 0) (.p (pi 0)) = some (.loc 1 0) := rfl
  have e11 : iadrAS 1 2 (.loc 1 0) (.p (pi 1)) = some (.loc 1 1) := rfl
  refine semC_of_exec' mixed Try.func8 (by kernel_rfl) (by kernel_rfl) ac8_ok 2 rfl (by decide) [(.tmp 4)] (by kernel_rfl) ?_
  intro hr C hC hI
  unfold ac8
  simp only [go_sem, Nat.reduceBEq, Nat.reduceAdd]
  refine call_pure2 hC (sound_sem ..) rfl (PVleL_refl _) ?_
  rintro r rfl
  simp only [go_sem, Nat.reduceBEq, e10, e11]
  refine ⟨fun _ => ?_, fun ho => ?_⟩
  · refine call_pure2 hC (stood_sem) rfl (PVleL_refl _) ?_
    rintro r rfl
    simp only [go_sem, Nat.reduceBEq]
    exact retQ_one rfl rfl
  have hg := ok_rng ho
  have r1 := rndI_range (n := n0) (m := b.limit) (by omega)
  have r2 := rndI_range (n := n1) (m := 2 * b.lean + 1) (by omega)
  obtain ⟨w, hw⟩ : ∃ w, 1 + rndI n0 b.limit = w := ⟨_, rfl⟩
  obtain ⟨v, hv⟩ : ∃ v, rndI n1 (2 * b.lean + 1) - b.lean = v := ⟨_, rfl⟩
  have hwr : 1 ≤ w ∧ w ≤ b.limit := by omega
  have hvr : -b.lean ≤ v ∧ v ≤ b.lean := by omega
  simp only [go_sem, wrap_id (n := 2 * b.lean) (by omega) (by omega), wrap_id (n := 2 * b.lean + 1) (by omega) (by omega)]
  refine call_pure2 hC (Round_sem n0 b.limit) rfl (PVleL_refl _) ?_
  rintro r rfl
  simp only [go_sem, Nat.reduceBEq, hw, wrap_id (n := w) (by omega) (by omega)]
  refine call_pure2 hC (Round_sem n1 (2 * b.lean + 1)) rfl (PVleL_refl _) ?_
  rintro r rfl
  simp only [go_sem, Nat.reduceBEq, Nat.reduceAdd, hv, wrap_id (n := v) (by omega) (by omega)]
  by_cases hT : truthL b = []
  · refine call_pure2 hC (Tips_F ho hT hwr hvr) rfl (PVleL_refl _) ?_
    rintro r rfl
    simp only [go_sem, Nat.reduceBEq, Nat.reduceAdd]
    refine call_pure2 hC (Margin_F ho hT hwr hvr) rfl (PVleL_refl _) ?_
    rintro r rfl
    simp only [go_sem, Nat.reduceBEq, Nat.reduceAdd, putCells]
    refine call_pure2 hC (Safe_F ho hT hwr) rfl (PVleL_refl _) ?_
    rintro r rfl
    simp only [go_sem, Nat.reduceBEq, Nat.reduceAdd, decide_true, decide_false, not_true_eq_false, Bool.true_and, not_false_eq_true, Int.reduceEq]
    refine call_pure2 hC (stood_sem) rfl (PVleL_refl _) ?_
    rintro r rfl
    simp only [go_sem, Nat.reduceBEq]
    exact retQ_one rfl rfl
  obtain ⟨f1, f2, f3⟩ := lm_facts (n := v) ho hT (w := w) (by omega)
  have hM := Margin_T (k := .sh) (k2 := .sh) ho hT hwr hvr
  have hsm := lmI_b (w := w) (n := v) ho.fit.small (by omega) (by omega) (loadsI b) (loadsI_ok ho.fit)
  obtain ⟨P, hP⟩ : ∃ P, (lmI b w v (loadsI b)).2 = P := ⟨_, rfl⟩
  rw [hP] at f1 f2 f3 hM hsm
  obtain ⟨⟨p1, p2⟩, p3, p4⟩ := hsm
  have hsgn : decide (0 < answerI b (loadsI b) w v) = decide (P.1 < 0) := by
    refine decide_eq_decide.2 ?_
    rw [f1, ← answer_holds]
    have := answer_rng b (loadsI b) w v
    omega
  have hP0 : P.1 = 0 → P.2 = 1 := fun h => gcd_zero_one (by rw [← h]; exact f3) f2.1
  obtain ⟨s, hs⟩ : ∃ s, safeI b (loadsI b) w = s := ⟨_, rfl⟩
  refine call_pure2 hC (Tips_T ho hT hwr hvr) rfl (PVleL_refl _) ?_
  rintro r rfl
  simp only [go_sem, Nat.reduceBEq, Nat.reduceAdd]
  refine call_pure2 hC (hM) rfl (PVleL_refl _) ?_
  rintro r rfl
  simp only [go_sem, Nat.reduceBEq, Nat.reduceAdd, putCells]
  refine call_pure2 hC (Safe_T ho hT hwr) rfl (PVleL_refl _) ?_
  rintro r rfl
  simp only [go_sem, Nat.reduceBEq, decide_false, not_true_eq_false, hsgn, hs]
  refine call_pure2 hC (In_sem P.2 1 500) rfl (PVleL_refl _) ?_
  rintro r rfl
  simp only [go_sem, Nat.reduceBEq, decide_eq_true f2]
  repeat' (first | (exfalso; omega) | (guard_target =~ _ ∧ _; refine ⟨fun _ => ?_, fun _ => ?_⟩))
  all_goals
    refine loop_nat (P.2 - 1).toNat (fun _ => True) (fun (j : Nat) => ⟨[(13, .p (pi (j + 2))), (11, .p (pb s)), (9, .loc 2 0), (5, .p (pi w)), (2, .loc 0 0)], [.cells ((bookC .sh .sh b).map .p), .cells [.p (pi n0), .p (pi n1)], .cells [.p (pi P.1), .p (pi P.2)]], [], some [], 0⟩) trivial (by simp [Wk, wkT, wkL, look, AV.lo, AV.lo.loL]) ?_
    rintro j ⟨hj, -⟩
    simp only [go_sem, Nat.reduceBEq]
    refine ⟨fun h5 => ?_, fun h5 => ?_⟩
    · have hgt := gcd_tmods (d := (j : Int) + 2) f3 (by omega)
      have hnx : IntKind.i64.wrap ((j : Int) + 2 + 1) = ((j + 1 : Nat) : Int) + 2 := by rw [wrap_id (by omega) (by omega)]; omega
      simp only [go_sem, Nat.reduceBEq, bin_rem (k := .i64) (a := P.1) (b := (j : Int) + 2) (by omega), bin_rem (k := .i64) (a := P.2) (b := (j : Int) + 2) (by omega), hnx]
      refine ⟨fun h6 => ⟨fun h7 => absurd ⟨h6, h7⟩ hgt, fun h7 => ?_⟩, fun h6 => ?_⟩
      · exact ⟨⟨j + 1, by omega, trivial⟩, by simp only; omega, by simp [Wk, wkT, wkL, look, AV.lo, AV.lo.loL]⟩
      · exact ⟨⟨j + 1, by omega, trivial⟩, by simp only; omega, by simp [Wk, wkT, wkL, look, AV.lo, AV.lo.loL]⟩
    · have hz : IntKind.i64.wrap (0 - b.lean) = ((0 : Nat) : Int) - b.lean := by rw [wrap_id (by omega) (by omega)]; omega
      simp only [go_sem, hz]
      refine loop_nat (2 * b.lean + 1).toNat (fun _ => True) (fun (j : Nat) => ⟨[(15, .p (pi (j - b.lean))), (14, .p (pb (nvI b w j))), (11, .p (pb s)), (5, .p (pi w)), (2, .loc 0 0)], [.cells ((bookC .sh .sh b).map .p)], [], some [], 0⟩) trivial (by simp [Wk, wkT, wkL, look, AV.lo, AV.lo.loL, nvI]) ?_
      rintro i ⟨hi, -⟩
      have hns := nv_succ b w i
      obtain ⟨m, hm⟩ : ∃ m, (i : Int) - b.lean = m := ⟨_, rfl⟩
      have hnx : IntKind.i64.wrap (m + 1) = ((i + 1 : Nat) : Int) - b.lean := by rw [wrap_id (by omega) (by omega)]; omega
      obtain ⟨nv, hnv⟩ : ∃ nv, nvI b w i = nv := ⟨_, rfl⟩
      rw [hm, hnv] at hns
      simp only [hm, hnv]
      simp only [go_sem, Nat.reduceBEq, Nat.reduceAdd]
      refine ⟨fun h6 => ?_, fun h6 => ?_⟩
      · refine call_pure2 hC (Tips_T ho hT (n := m) hwr (by omega)) rfl (PVleL_refl _) ?_
        rintro r rfl
        simp only [go_sem, Nat.reduceBEq, decide_false, not_true_eq_false]
        cases nv
        · simp only [go_sem, Nat.reduceBEq, hnx]
          rw [Bool.false_and] at hns
          exact ⟨⟨i + 1, by omega, trivial⟩, by simp only; omega, by simp [Wk, wkT, wkL, look, AV.lo, AV.lo.loL, hns]⟩
        · simp only [go_sem, Nat.reduceBEq, hnx]
          rw [Bool.true_and] at hns
          exact ⟨⟨i + 1, by omega, trivial⟩, by simp only; omega, by simp [Wk, wkT, wkL, look, AV.lo, AV.lo.loL, hns]⟩
      · have hii : i = (2 * b.lean + 1).toNat := by omega
        have hsn : s = nv := by rw [← hs, ← hnv, hii]; rfl
        subst hsn
        simp only [go_sem, decide_true, not_true_eq_false, false_implies, true_implies]
        refine call_pure2 hC (stood_sem) rfl (PVleL_refl _) ?_
        rintro r rfl
        simp only [go_sem, Nat.reduceBEq]
        exact retQ_one rfl rfl
set_option maxRecDepth 100000 in
theorem StandSign_row {l0 l1 : List PV} (T0 : Ty Try.prog 10 25 l0) (T1 : Ty Try.prog 10 26 l1) : SemC Try.prog 8 [argPV Try.prog 25 l0, argPV Try.prog 26 l1] (fun r => r = pb true) := by
  obtain ⟨b, rfl⟩ := ty_book T0
  obtain ⟨n0, n1, rfl⟩ := ty_two T1
  rw [argStruct Try.underlying25, argArray Try.underlying26]
  exact StandSign_law b n0 n1
end Go.Proofs.Ytgniamjempccmaa
namespace Go.Proofs.Ytgniamjempccmaa
open Go.RowKit
def ac48 : AC := (AC.seq (AC.ops [(AOp.mk (some 1) (AK.box 10 (AX.t 0)) none 0 false true), (AOp.mk (some 2) (AK.new (PV.agg [(PV.val (Value.int IntKind.i64 0)), (PV.val (Value.int IntKind.i64 0)), (PV.val (Value.int IntKind.i64 0)), (PV.val (Value.int IntKind.i64 0)), (PV.sl SK.full 0 []), (PV.val (Value.int IntKind.i64 0)), (PV.val (Value.int IntKind.i64 0)), (PV.val (Value.int IntKind.i64 0)), (PV.val (Value.int IntKind.i64 0)), (PV.sl SK.full 0 [])])) none 1 false true)]) (AC.seq (AC.ops [(AOp.mk (some 4) (AK.ld (some 10) (AX.t 1)) none 0 false true), (AOp.mk (some 3) (AK.new (PV.agg [(PV.val (Value.int IntKind.i64 0)), (PV.val (Value.int IntKind.i64 0)), (PV.val (Value.int IntKind.i64 0)), (PV.val (Value.int IntKind.i64 0)), (PV.sl SK.full 0 []), (PV.val (Value.int IntKind.i64 0)), (PV.val (Value.int IntKind.i64 0)), (PV.val (Value.int IntKind.i64 0)), (PV.val (Value.int IntKind.i64 0)), (PV.sl SK.full 0 [])])) none 1 false true), (AOp.mk none (AK.st 10 (AX.t 3) (AX.t 4)) none 2 false true)]) (AC.seq (AC.ops [(AOp.mk (some 5) (AK.fadr 9 (AX.t 3)) none 0 false true), (AOp.mk none (AK.st 1 (AX.t 5) (AX.c (PV.sl SK.full 0 []))) none 1 false true)]) (AC.seq (AC.ops [(AOp.mk (some 6) (AK.ld (some 10) (AX.t 3)) none 0 false true), (AOp.mk none (AK.st 10 (AX.t 2) (AX.t 6)) none 1 false true)]) AC.ret))))
theorem ac48_ok : cCode Try.prog (fun _ => false) Try.f48.ntmps (Try.f48.body.getD .skip) = some ac48 := by kernel_rfl
def ac52 : AC := (AC.seq (AC.ops [(AOp.mk (some 2) (AK.box 10 (AX.t 0)) none 0 false true), (AOp.mk (some 4) (AK.new (PV.agg [(PV.val (Value.int IntKind.i64 0)), (PV.val (Value.int IntKind.i64 0)), (PV.val (Value.int IntKind.i64 0)), (PV.val (Value.int IntKind.i64 0)), (PV.sl SK.full 0 []), (PV.val (Value.int IntKind.i64 0)), (PV.val (Value.int IntKind.i64 0)), (PV.val (Value.int IntKind.i64 0)), (PV.val (Value.int IntKind.i64 0)), (PV.sl SK.full 0 [])])) none 1 false true)]) (AC.seq (AC.ops [(AOp.mk (some 7) (AK.ld (some 10) (AX.t 2)) none 0 false true), (AOp.mk (some 5) (AK.new (PV.agg [(PV.val (Value.int IntKind.i64 0)), (PV.val (Value.int IntKind.i64 0)), (PV.val (Value.int IntKind.i64 0)), (PV.val (Value.int IntKind.i64 0)), (PV.sl SK.full 0 []), (PV.val (Value.int IntKind.i64 0)), (PV.val (Value.int IntKind.i64 0)), (PV.val (Value.int IntKind.i64 0)), (PV.val (Value.int IntKind.i64 0)), (PV.sl SK.full 0 [])])) none 1 false true), (AOp.mk none (AK.st 10 (AX.t 5) (AX.t 7)) none 2 false true)]) (AC.seq (AC.ops [(AOp.mk (some 8) (AK.fadr 9 (AX.t 5)) none 0 false true), (AOp.mk none (AK.st 1 (AX.t 8) (AX.c (PV.sl SK.full 0 []))) none 1 false true)]) (AC.seq (AC.seq (AC.ops [(AOp.mk (some 6) (AK.mv (AX.c (PV.val (Value.int IntKind.i64 0)))) none 0 false true)]) (AC.block 0 (AC.loop (AC.seq (AC.seq (AC.ops [(AOp.mk (some 9) (AK.mv (AX.t 6)) none 0 false true), (AOp.mk (some 10) (AK.fadr 9 (AX.t 2)) none 1 false true), (AOp.mk (some 11) (AK.ld none (AX.t 10)) none 2 false true), (AOp.mk (some 12) (AK.len (AX.t 11)) none 3 false true), (AOp.mk (some 13) (AK.bin false BinOp.lss (AX.t 9) (AX.t 12)) none 4 false true)]) (AC.cond (AX.t 13) AC.skip (AC.exit 0))) (AC.seq (AC.block 1 (AC.seq (AC.ops [(AOp.mk (some 16) (AK.mv (AX.t 1)) none 0 false true), (AOp.mk (some 17) (AK.mv (AX.t 6)) none 1 false true), (AOp.mk (some 18) (AK.call 95 [(AX.t 16), (AX.t 17)]) none 2 false true), (AOp.mk (some 19) (AK.bin false BinOp.lss (AX.t 18) (AX.c (PV.val (Value.int IntKind.i64 0)))) none 3 false true)]) (AC.cond (AX.t 19) (AC.ops [(AOp.mk (some 20) (AK.fadr 9 (AX.t 5)) none 0 true false), (AOp.mk (some 21) (AK.ld none (AX.t 20)) none 1 true false), (AOp.mk (some 22) (AK.fadr 9 (AX.t 2)) none 2 true false), (AOp.mk (some 23) (AK.ld none (AX.t 22)) none 3 true false), (AOp.mk (some 24) (AK.mv (AX.t 6)) none 4 true false), (AOp.mk (some 25) (AK.iadrS 3 (AX.t 23) (AX.t 24)) none 5 true false), (AOp.mk (some 26) (AK.ld (some 3) (AX.t 25)) none 6 true false), (AOp.mk (some 27) (AK.bslice false 65 3 1 [(PV.val (Value.int IntKind.i64 0)), (PV.val (Value.int IntKind.i64 0)), (PV.val (Value.bool false))] [(0, (3, (AX.t 26)))]) none 7 false false), (AOp.mk (some 28) (AK.app false 65 3 24 [(PV.val (Value.int IntKind.i64 0)), (PV.val (Value.int IntKind.i64 0)), (PV.val (Value.bool false))] (AX.t 21) (AX.t 27)) none 8 false false), (AOp.mk (some 29) (AK.fadr 9 (AX.t 5)) none 9 true false), (AOp.mk none (AK.st 1 (AX.t 29) (AX.t 28)) none 10 false true)]) AC.skip))) (AC.ops [(AOp.mk (some 14) (AK.mv (AX.t 6)) none 0 false true), (AOp.mk (some 15) (AK.bin false BinOp.add (AX.t 14) (AX.c (PV.val (Value.int IntKind.i64 1)))) none 1 false true), (AOp.mk (some 6) (AK.mv (AX.t 15)) none 2 false true)])))))) (AC.seq (AC.ops [(AOp.mk (some 30) (AK.ld (some 10) (AX.t 5)) none 0 false true), (AOp.mk none (AK.st 10 (AX.t 4) (AX.t 30)) none 1 false true)]) AC.ret)))))
theorem ac52_ok : cCode Try.prog (fun _ => false) Try.f52.ntmps (Try.f52.body.getD .skip) = some ac52 := by kernel_rfl
def ac14 : AC := (AC.seq (AC.ops [(AOp.mk (some 2) (AK.box 10 (AX.t 0)) none 0 false true), (AOp.mk (some 4) (AK.mv (AX.c (PV.val (Value.bool false)))) none 1 false true)]) (AC.seq (AC.ops [(AOp.mk (some 15) (AK.ld (some 10) (AX.t 2)) none 0 false true), (AOp.mk (some 16) (AK.call 35 [(AX.t 15)]) none 1 false true), (AOp.mk (some 14) (AK.mv (AX.t 16)) none 2 false true), (AOp.mk (some 17) (AK.ext (AX.t 14) 0) none 3 false true), (AOp.mk (some 18) (AK.ext (AX.t 14) 1) none 4 false true), (AOp.mk (some 5) (AK.mv (AX.t 17)) none 5 false true), (AOp.mk (some 6) (AK.mv (AX.t 18)) none 6 false true)]) (AC.seq (AC.seq (AC.ops [(AOp.mk (some 19) (AK.ld (some 10) (AX.t 2)) none 0 false true), (AOp.mk (some 20) (AK.call 38 [(AX.t 19)]) none 1 false true), (AOp.mk (some 21) (AK.un UnOp.not (AX.t 20)) none 2 false true)]) (AC.cond (AX.t 21) (AC.seq (AC.ops [(AOp.mk (some 22) (AK.mv (AX.t 6)) none 0 false true), (AOp.mk (some 23) (AK.bin false BinOp.eql (AX.t 22) (AX.c (PV.val (Value.int IntKind.i64 20)))) none 1 false true), (AOp.mk (some 24) (AK.mv (AX.t 23)) none 2 false true), (AOp.mk (some 25) (AK.mv (AX.t 5)) (some (24, true)) 3 false true), (AOp.mk (some 26) (AK.len (AX.t 25)) (some (24, true)) 4 false true), (AOp.mk (some 27) (AK.bin false BinOp.eql (AX.t 26) (AX.c (PV.val (Value.int IntKind.i64 0)))) (some (24, true)) 5 false true), (AOp.mk (some 28) (AK.pick (AX.t 24) (AX.t 27) (AX.c (PV.val (Value.bool false)))) none 6 false true), (AOp.mk (some 29) (AK.mv (AX.t 28)) none 7 false true), (AOp.mk (some 30) (AK.call 24 []) (some (29, true)) 8 false true), (AOp.mk (some 31) (AK.pick (AX.t 29) (AX.t 30) (AX.c (PV.val (Value.bool false)))) none 9 false true), (AOp.mk (some 4) (AK.mv (AX.t 31)) none 10 false true)]) AC.ret) AC.skip)) (AC.seq (AC.ops [(AOp.mk (some 33) (AK.ld (some 10) (AX.t 2)) none 0 false true), (AOp.mk (some 34) (AK.call 16 [(AX.t 33)]) none 1 false true), (AOp.mk (some 32) (AK.mv (AX.t 34)) none 2 false true), (AOp.mk (some 35) (AK.ext (AX.t 32) 0) none 3 false true), (AOp.mk (some 36) (AK.ext (AX.t 32) 1) none 4 false true), (AOp.mk (some 7) (AK.mv (AX.t 35)) none 5 false true), (AOp.mk (some 8) (AK.mv (AX.t 36)) none 6 false true)]) (AC.seq (AC.seq (AC.ops [(AOp.mk (some 37) (AK.mv (AX.t 6)) none 0 false true), (AOp.mk (some 38) (AK.bin false BinOp.neq (AX.t 37) (AX.c (PV.val (Value.int IntKind.i64 0)))) none 1 false true), (AOp.mk (some 39) (AK.mv (AX.t 38)) none 2 false true), (AOp.mk (some 40) (AK.mv (AX.t 8)) (some (39, false)) 3 false true), (AOp.mk (some 41) (AK.bin false BinOp.neq (AX.t 40) (AX.c (PV.val (Value.int IntKind.i64 0)))) (some (39, false)) 4 false true), (AOp.mk (some 42) (AK.pick (AX.t 39) (AX.c (PV.val (Value.bool true))) (AX.t 41)) none 5 false true), (AOp.mk (some 43) (AK.mv (AX.t 42)) none 6 false true), (AOp.mk (some 44) (AK.mv (AX.t 5)) (some (43, false)) 7 false true), (AOp.mk (some 45) (AK.fadr 9 (AX.t 2)) (some (43, false)) 8 false true), (AOp.mk (some 46) (AK.ld none (AX.t 45)) (some (43, false)) 9 false true), (AOp.mk (some 47) (AK.len (AX.t 46)) (some (43, false)) 10 false true), (AOp.mk (some 48) (AK.call 51 [(AX.t 44), (AX.t 47)]) (some (43, false)) 11 false true), (AOp.mk (some 49) (AK.un UnOp.not (AX.t 48)) (some (43, false)) 12 false true), (AOp.mk (some 50) (AK.pick (AX.t 43) (AX.c (PV.val (Value.bool true))) (AX.t 49)) none 13 false true), (AOp.mk (some 51) (AK.mv (AX.t 50)) none 14 false true), (AOp.mk (some 52) (AK.mv (AX.t 5)) (some (51, false)) 15 false true), (AOp.mk (some 53) (AK.len (AX.t 52)) (some (51, false)) 16 false true), (AOp.mk (some 54) (AK.bin false BinOp.eql (AX.t 53) (AX.c (PV.val (Value.int IntKind.i64 0)))) (some (51, false)) 17 false true), (AOp.mk (some 55) (AK.mv (AX.t 7)) (some (51, false)) 18 false true), (AOp.mk (some 56) (AK.bin true BinOp.neq (AX.t 54) (AX.t 55)) (some (51, false)) 19 false true), (AOp.mk (some 57) (AK.pick (AX.t 51) (AX.c (PV.val (Value.bool true))) (AX.t 56)) none 20 false true)]) (AC.cond (AX.t 57) (AC.seq (AC.ops [(AOp.mk (some 4) (AK.mv (AX.c (PV.val (Value.bool false)))) none 0 false true)]) AC.ret) AC.skip)) (AC.seq (AC.seq (AC.ops [(AOp.mk (some 59) (AK.ld (some 10) (AX.t 2)) none 0 false true), (AOp.mk (some 60) (AK.mv (AX.t 5)) none 1 false true), (AOp.mk (some 61) (AK.call 52 [(AX.t 59), (AX.t 60)]) none 2 false true), (AOp.mk (some 62) (AK.call 16 [(AX.t 61)]) none 3 false true), (AOp.mk (some 58) (AK.mv (AX.t 62)) none 4 false true), (AOp.mk (some 63) (AK.ext (AX.t 58) 0) none 5 false true), (AOp.mk (some 64) (AK.ext (AX.t 58) 1) none 6 false true), (AOp.mk (some 9) (AK.mv (AX.t 63)) none 7 false true), (AOp.mk (some 10) (AK.mv (AX.t 64)) none 8 false true)]) (AC.seq (AC.ops [(AOp.mk (some 65) (AK.mv (AX.t 10)) none 0 false true), (AOp.mk (some 66) (AK.bin false BinOp.neq (AX.t 65) (AX.c (PV.val (Value.int IntKind.i64 0)))) none 1 false true), (AOp.mk (some 67) (AK.mv (AX.t 66)) none 2 false true), (AOp.mk (some 68) (AK.mv (AX.t 9)) (some (67, false)) 3 false true), (AOp.mk (some 69) (AK.un UnOp.not (AX.t 68)) (some (67, false)) 4 false true), (AOp.mk (some 70) (AK.pick (AX.t 67) (AX.c (PV.val (Value.bool true))) (AX.t 69)) none 5 false true)]) (AC.cond (AX.t 70) (AC.seq (AC.ops [(AOp.mk (some 4) (AK.mv (AX.c (PV.val (Value.bool false)))) none 0 false true)]) AC.ret) AC.skip))) (AC.seq (AC.ops [(AOp.mk (some 71) (AK.mv (AX.t 1)) none 0 true false), (AOp.mk (some 72) (AK.fadr 9 (AX.t 2)) none 1 true false), (AOp.mk (some 73) (AK.ld none (AX.t 72)) none 2 true false), (AOp.mk (some 74) (AK.len (AX.t 73)) none 3 true false), (AOp.mk (some 75) (AK.bin false BinOp.shl (AX.c (PV.val (Value.int IntKind.i64 1))) (AX.t 74)) none 4 true false), (AOp.mk (some 77) (AK.fadr 9 (AX.t 2)) none 6 true false), (AOp.mk (some 78) (AK.ld none (AX.t 77)) none 7 true false), (AOp.mk (some 79) (AK.len (AX.t 78)) none 8 true false), (AOp.mk (some 76) (AK.call 41 [(AX.t 71), (AX.t 75)]) none 5 false false), (AOp.mk (some 80) (AK.call 53 [(AX.t 76), (AX.t 79)]) none 9 false false), (AOp.mk (some 11) (AK.mv (AX.t 80)) none 10 true true)]) (AC.seq (AC.seq (AC.ops [(AOp.mk (some 81) (AK.mv (AX.t 11)) none 0 false true), (AOp.mk (some 82) (AK.mv (AX.t 5)) none 1 false true), (AOp.mk (some 83) (AK.call 54 [(AX.t 81), (AX.t 82)]) none 2 false true), (AOp.mk (some 84) (AK.un UnOp.not (AX.t 83)) none 3 false true)]) (AC.cond (AX.t 84) (AC.seq (AC.ops [(AOp.mk (some 85) (AK.call 24 []) none 0 false true), (AOp.mk (some 4) (AK.mv (AX.t 85)) none 1 false true)]) AC.ret) AC.skip)) (AC.seq (AC.ops [(AOp.mk (some 87) (AK.ld (some 10) (AX.t 2)) none 0 false true), (AOp.mk (some 88) (AK.mv (AX.t 11)) none 1 false true), (AOp.mk (some 89) (AK.call 52 [(AX.t 87), (AX.t 88)]) none 2 false true), (AOp.mk (some 90) (AK.call 16 [(AX.t 89)]) none 3 false true), (AOp.mk (some 86) (AK.mv (AX.t 90)) none 4 false true), (AOp.mk (some 91) (AK.ext (AX.t 86) 0) none 5 false true), (AOp.mk (some 92) (AK.ext (AX.t 86) 1) none 6 false true), (AOp.mk (some 12) (AK.mv (AX.t 91)) none 7 false true), (AOp.mk (some 13) (AK.mv (AX.t 92)) none 8 false true)]) (AC.seq (AC.ops [(AOp.mk (some 93) (AK.mv (AX.t 13)) none 0 false true), (AOp.mk (some 94) (AK.bin false BinOp.eql (AX.t 93) (AX.c (PV.val (Value.int IntKind.i64 0)))) none 1 false true), (AOp.mk (some 95) (AK.mv (AX.t 94)) none 2 false true), (AOp.mk (some 96) (AK.mv (AX.t 12)) (some (95, true)) 3 false true), (AOp.mk (some 97) (AK.un UnOp.not (AX.t 96)) (some (95, true)) 4 false true), (AOp.mk (some 98) (AK.pick (AX.t 95) (AX.t 97) (AX.c (PV.val (Value.bool false)))) none 5 false true), (AOp.mk (some 99) (AK.mv (AX.t 98)) none 6 false true), (AOp.mk (some 100) (AK.call 24 []) (some (99, true)) 7 false true), (AOp.mk (some 101) (AK.pick (AX.t 99) (AX.t 100) (AX.c (PV.val (Value.bool false)))) none 8 false true), (AOp.mk (some 4) (AK.mv (AX.t 101)) none 9 false true)]) AC.ret))))))))))
theorem ac14_ok : cCode Try.prog (fun _ => false) Try.f14.ntmps (Try.f14.body.getD .skip) = some ac14 := by kernel_rfl
theorem plain_sem (k k2 : SK) (b : SBook) : Sem1 48 [.agg (bookC k k2 b)] (.agg (bookC k .sh (plainB b))) := by
  refine semC_of_exec' mixed Try.func48 (by kernel_rfl) (by kernel_rfl) ac48_ok 1 rfl (by decide) [(.cell 2 25)] (by kernel_rfl) ?_
  intro hr C hC hI
  unfold ac48
  simp only [go_sem, Nat.reduceBEq, Nat.reduceAdd, putCells]
  refine retQ_cell_le (n := some 10) (by kernel_rfl) rfl ?_ rfl
  exact PVle.agg ⟨PVle.refl _, PVle.refl _, PVle.refl _, PVle.refl _, PVle.refl _, PVle.refl _, PVle.refl _, PVle.refl _, PVle.refl _, PVle.nil _ _ _, trivial⟩
/-- The trials that stay, of the first ones. -/
def stayT (ts : List STrial) (l : List Int) (j : Nat) : List STrial := ((List.range j).filter fun (i : Nat) => decide ((i : Int) ∉ l)).filterMap fun i => ts[i]?
theorem stayT_succ {ts : List STrial} {l : List Int} {j : Nat} (h : j < ts.length) : stayT ts l (j + 1) = if (j : Int) ∈ l then stayT ts l j else stayT ts l j ++ [ts[j]] := by
  unfold stayT
  rw [List.range_succ, List.filter_append, List.filterMap_append]
  split
  · rename_i hm; simp [hm]
  · rename_i hm; simp [hm, List.getElem?_eq_getElem h]
theorem stayT_len (ts : List STrial) (l : List Int) (j : Nat) : (stayT ts l j).length ≤ j := by
  unfold stayT
  refine Nat.le_trans (List.length_filterMap_le ..) (Nat.le_trans (List.length_filter_le ..) (by simp))
def slT (o : Option Nat) (l : List STrial) : PV :=
  match o with
  | none => .sl .full 0 []
  | some t => .sl (.own t 65 3) 3 (l.map trialC)
theorem without_sem (k k2 : SK) (b : SBook) (l : List Int) (hb : b.trials.length ≤ 1000) : Sem1 52 [.agg (bookC k k2 b), pis l] (.agg (bookC k .sh (withoutB b l))) := by
  rw [show withoutB b l = { b with trials := stayT b.trials l b.trials.length } from rfl]
  refine semC_of_exec' mixed Try.func52 (by kernel_rfl) (by kernel_rfl) ac52_ok 2 rfl (by decide) [(.cell 4 25)] (by kernel_rfl) ?_
  intro hr C hC hI
  unfold ac52
  simp only [go_sem, Nat.reduceBEq, Nat.reduceAdd, putCells]
  refine ⟨{x : Nat × Option Nat // x.1 ≤ b.trials.length ∧ (x.2 = none → stayT b.trials l x.1 = [])}, fun x => ⟨[(6, .p (pi x.1.1)), (5, .loc 2 0), (4, .loc 1 0), (2, .loc 0 0), (1, .p (pis l))], [.cells ((bookC k k2 b).map .p), .cells [.p (pi 0), .p (pi 0), .p (pi 0), .p (pi 0), .p (.sl .full 0 []), .p (pi 0), .p (pi 0), .p (pi 0), .p (pi 0), .p (.sl .full 0 [])], .cells [.p (pi b.kind), .p (pi b.front), .p (pi b.back), .p (pi b.radius), .p (.sl k 4 (b.parts.map partC)), .p (pi b.along), .p (pi b.high), .p (pi b.lean), .p (pi b.limit), .p (slT x.1.2 (stayT b.trials l x.1.1))]], x.1.2.toList, some [], 0⟩, fun x => b.trials.length - x.1.1, ⟨(0, none), by simp, fun _ => rfl⟩, by simp [Wk, wkT, wkL, look, AV.lo, AV.lo.loL, slT], ?_⟩
  rintro ⟨⟨j, o⟩, hj, ho⟩
  simp only at hj ho
  simp only [go_sem, Nat.reduceBEq, Nat.reduceAdd, List.length_map]
  refine ⟨fun h5 => ?_, fun h5 => ?_⟩
  · have hj2 : j < b.trials.length := by omega
    have hs := stayT_succ (l := l) hj2
    have hl := stayT_len b.trials l j
    have e := iadr_map (f := trialC) (kd := k2) (sz := 3) hj2
    refine call_pure2 hC (Find_sem l j) rfl (PVleL_refl _) ?_
    rintro r ⟨i, rfl, hi⟩
    simp only [go_sem, Nat.reduceBEq]
    refine ⟨fun h6 => ?_, fun h6 => ?_⟩
    · rw [if_neg (hi.1 h6)] at hs
      obtain ⟨P, hP⟩ : ∃ P, b.trials[j] = P := ⟨_, rfl⟩
      rw [hP] at hs e
      cases o with
      | none =>
        rw [ho rfl] at hs
        simp only [slT]
        simp only [go_sem, Nat.reduceBEq, Nat.reduceAdd, Nat.reduceLeDiff, Nat.reduceEqDiff, e, trialC, wrap_succ (k := j) (by omega), putCells]
        intro tk _
        refine ⟨⟨(j + 1, some tk), by simp only; omega, fun h => by cases h⟩, by simp only; omega, ?_⟩
        simp only [hs]
        simp [Wk, wkT, wkL, look, AV.lo, AV.lo.loL, trialC]
      | some tk =>
        simp only [slT]
        simp only [go_sem, Nat.reduceBEq, Nat.reduceAdd, Nat.reduceLeDiff, Nat.reduceEqDiff, e, trialC, wrap_succ (k := j) (by omega), putCells]
        refine ⟨by rw [List.length_map]; omega, by simp, fun t2 _ => ?_⟩
        refine ⟨⟨(j + 1, some t2), by simp only; omega, fun h => by cases h⟩, by simp only; omega, ?_⟩
        simp only [hs]
        simp [Wk, wkT, wkL, look, AV.lo, AV.lo.loL, trialC]
    · rw [if_pos (Classical.not_not.1 fun hn => h6 (hi.2 hn))] at hs
      simp only [go_sem, wrap_succ (k := j) (by omega)]
      refine ⟨⟨(j + 1, o), by simp only; omega, fun h => by simp only; rw [hs]; exact ho h⟩, by simp only; omega, ?_⟩
      simp only [hs]
      cases o <;> simp [Wk, wkT, wkL, look, AV.lo, AV.lo.loL, slT]
  · have hjn : j = b.trials.length := by omega
    subst hjn
    cases o with
    | none =>
      simp only [slT]
      rw [ho rfl]
      refine retQ_cell_le (n := some 10) (by kernel_rfl) rfl ?_ rfl
      exact PVle.agg ⟨PVle.refl _, PVle.refl _, PVle.refl _, PVle.refl _, PVle.refl _, PVle.refl _, PVle.refl _, PVle.refl _, PVle.refl _, PVle.nil _ _ _, trivial⟩
    | some tk =>
      simp only [slT]
      refine retQ_cell_le (n := some 10) (by kernel_rfl) rfl ?_ rfl
      exact PVle.agg ⟨PVle.refl _, PVle.refl _, PVle.refl _, PVle.refl _, PVle.refl _, PVle.refl _, PVle.refl _, PVle.refl _, PVle.refl _, PVle.sh _ _ _, trivial⟩
theorem without_ok {b : SBook} (ho : okBook b) (l : List Int) : okBook (withoutB b l) := by
  obtain ⟨h1, h2, h3, h4, h5, h6⟩ := ho
  have hsub : ∀ t ∈ (withoutB b l).trials, t ∈ b.trials := fun t ht => by
    unfold withoutB at ht
    simp only [List.mem_filterMap] at ht
    obtain ⟨i, -, hi⟩ := ht
    exact List.mem_of_getElem? hi
  refine ⟨h1, h2, h3, ?_, h5, fun t ht => h6 t (hsub t ht)⟩
  have := stayT_len b.trials l b.trials.length
  show (stayT b.trials l b.trials.length).length ≤ 5
  omega
theorem allF_ne {los his : List Int} (hle : ∀ i, i < los.length → los.getD i 0 ≤ his.getD i 0) : ∀ (r j : Nat) (ws : List Int), j < los.length → los.length ≤ j + r → allF los his r j ws ≠ []
  | 0, j, ws, h1, h2 => by omega
  | r + 1, j, ws, h1, h2 => by
    rw [allF_succ]
    have hm : los.getD j 0 ∈ spanL (los.getD j 0) (his.getD j 0) := mem_spanL.2 ⟨Int.le_refl _, hle j h1⟩
    intro hn
    rw [List.flatMap_eq_nil_iff] at hn
    have := hn _ hm
    split at this
    · rename_i hj
      exact allF_ne hle r (j + 1) _ hj (by omega) this
    · cases this
theorem allW_ne {b : SBook} (ho : okBook b) : allW b ≠ [] := by
  have h3 := ho.2.2.1
  refine allF_ne (fun i hi => ?_) 4 0 _ (by simp; omega) (by simp; omega)
  simp only [List.length_map] at hi
  have := ho.2.2.2.2.1 _ (List.getElem_mem hi)
  unfold okPart at this
  simp only [List.getD_eq_getElem?_getD, List.getElem?_map, List.getElem?_eq_getElem hi, Option.map_some, Option.getD_some]
  omega
theorem fewS_best (b : SBook) : ∀ (l : List (List Int)) (x : List Int), l.foldl (fewS b) (some x) = some (bestL (l.map (wrongI b)) x)
  | [], x => rfl
  | w :: l, x => by
    simp only [List.foldl_cons, List.map_cons]
    exact fewS_best b l _
theorem few_facts {b : SBook} (ho : okBook b) : (∃ ws ∈ allW b, fewI b = wrongI b ws) ∧ ∀ ws ∈ allW b, shortB (wrongI b ws) (fewI b) = false := by
  have hA : truthL (plainB b) = allW b := all_nil (plainB b) rfl
  unfold fewI fewO
  rw [hA]
  have hne := allW_ne ho
  generalize allW b = A at hne
  match A, hne with
  | w :: l, _ =>
    rw [List.foldl_cons, show fewS b none w = some (wrongI b w) from rfl, fewS_best]
    simp only [Option.getD_some]
    obtain ⟨h1, h2, h3⟩ := bestL_facts (l.map (wrongI b)) (wrongI b w)
    constructor
    · rcases h1 with h1 | h1
      · exact ⟨w, List.mem_cons_self .., h1⟩
      · rw [List.mem_map] at h1
        obtain ⟨v, hv, e⟩ := h1
        exact ⟨v, List.mem_cons_of_mem _ hv, e.symm⟩
    · intro ws hws
      rcases List.mem_cons.1 hws with rfl | hws
      · exact h2
      · exact h3 _ (List.mem_map.2 ⟨ws, hws, rfl⟩)
theorem few_nil {b : SBook} (ho : okBook b) : fewI b = [] ↔ truthL b ≠ [] := by
  obtain ⟨⟨ws, hws, e⟩, hmin⟩ := few_facts ho
  constructor
  · intro h
    rw [h] at e
    refine List.ne_nil_of_mem (a := ws) (mem_truthL.2 ⟨hws, fun t ht => ?_⟩)
    obtain ⟨i, hi⟩ := List.mem_iff_getElem?.1 ht
    cases hr : rightI b ws t
    · have : (i : Int) ∈ wrongI b ws := mem_wrongI.2 ⟨i, t, rfl, hi, hr⟩
      rw [← e] at this
      cases this
    · rfl
  · intro h
    obtain ⟨v, hv⟩ := List.exists_mem_of_ne_nil _ h
    obtain ⟨h1, h2⟩ := mem_truthL.1 hv
    have hn : wrongI b v = [] := by
      refine List.eq_nil_iff_forall_not_mem.2 fun n hn => ?_
      obtain ⟨i, t, -, h3, h4⟩ := mem_wrongI.1 hn
      rw [h2 t (List.mem_of_getElem? h3)] at h4
      cases h4
    have := hmin v h1
    rw [hn] at this
    cases hf : fewI b with
    | nil => rfl
    | cons x l => rw [hf] at this; simp [shortB] at this
theorem few_grows {b : SBook} (ho : okBook b) : growsI (fewI b) b.trials.length := by
  obtain ⟨⟨ws, hws, e⟩, -⟩ := few_facts ho
  rw [e]
  refine ⟨wrongI_inc b ws, fun n hn => ?_⟩
  obtain ⟨i, t, rfl, h3, -⟩ := mem_wrongI.1 hn
  have := (List.getElem?_eq_some_iff.1 h3).1
  omega
theorem few_true {b : SBook} (ho : okBook b) : truthL (withoutB b (fewI b)) ≠ [] := by
  obtain ⟨⟨ws, hws, e⟩, -⟩ := few_facts ho
  exact without_true.2 ⟨ws, hws, fun n hn => by rw [e]; exact hn⟩
theorem few_least {b : SBook} (ho : okBook b) {l : List Int} (hl : incL l) (hs : shortB l (fewI b) = true) : truthL (withoutB b l) = [] := by
  obtain ⟨-, hmin⟩ := few_facts ho
  rcases Classical.em (truthL (withoutB b l) = []) with h | h
  · exact h
  · obtain ⟨ws, hws, hsub⟩ := without_true.1 h
    have h1 := hmin ws hws
    have h2 := inc_short (wrongI_inc b ws) hl hsub
    cases h3 : shortB (fewI b) (wrongI b ws)
    · rw [shortB_total h3 h1, h2] at hs; cases hs
    · rw [shortB_trans hs h3] at h2; cases h2
theorem listI_inc (set : Int) (m : Nat) : incL (listI set m) := by
  unfold listI incL
  rw [List.pairwise_map]
  refine List.Pairwise.imp ?_ ((List.pairwise_lt_range (n := m)).filter _)
  intro a c h; omega
theorem shl_len {m : Nat} (h : m ≤ 5) : ∃ M : Int, IntKind.i64.wrap (1 * 2 ^ (min (m : Int).toNat 64)) = M ∧ 1 ≤ M := by
  have : m = 0 ∨ m = 1 ∨ m = 2 ∨ m = 3 ∨ m = 4 ∨ m = 5 := by omega
  rcases this with rfl | rfl | rfl | rfl | rfl | rfl
  · exact ⟨1, by decide, by decide⟩
  · exact ⟨2, by decide, by decide⟩
  · exact ⟨4, by decide, by decide⟩
  · exact ⟨8, by decide, by decide⟩
  · exact ⟨16, by decide, by decide⟩
  · exact ⟨32, by decide, by decide⟩
theorem StandWrong_law (b : SBook) (n : Int) : Sem1 14 [.agg (bookC .sh .sh b), pi n] (pb true) := by
  by_cases ho : okBook b
  case neg =>
    have hW := (Wrong_sem .sh .sh b).mono fun r h => h.trans (if_neg ho)
    have hS := (sound_sem .sh .sh b).mono fun r h => h.trans (congrArg pb (decide_eq_false ho))
    refine semC_of_exec' mixed Try.func14 (by kernel_rfl) (by kernel_rfl) ac14_ok 2 rfl (by decide) [(.tmp 4)] (by kernel_rfl) ?_
    intro hr C hC hI
    unfold ac14
    simp only [go_sem, Nat.reduceBEq, Nat.reduceAdd]
    refine call_pure2 hC (hW) rfl (PVleL_refl _) ?_
    rintro r rfl
    simp only [go_sem, Nat.reduceBEq, Nat.reduceAdd]
    refine call_pure2 hC (hS) rfl (PVleL_refl _) ?_
    rintro r rfl
    simp only [go_sem, Nat.reduceBEq, decide_true, Int.natCast_zero]
    refine call_pure2 hC (stood_sem) rfl (PVleL_refl _) ?_
    rintro r rfl
    simp only [go_sem, Nat.reduceBEq]
    exact retQ_one rfl rfl
  have hS := (sound_sem .sh .sh b).mono fun r h => h.trans (congrArg pb (decide_eq_true ho))
  have ht := ho.2.2.2.1
  obtain ⟨M, hM, hM1⟩ := shl_len (m := b.trials.length) ht
  have hgr := few_grows ho
  have hnil := few_nil ho
  have hlen : decide (((fewI b).length : Int) = 0) = decide (truthL b ≠ []) := decide_eq_decide.2 (by rw [← hnil]; simp)
  refine semC_of_exec' mixed Try.func14 (by kernel_rfl) (by kernel_rfl) ac14_ok 2 rfl (by decide) [(.tmp 4)] (by kernel_rfl) ?_
  intro hr C hC hI
  unfold ac14
  simp only [go_sem, Nat.reduceBEq, Nat.reduceAdd]
  refine call_pure2 hC (Wrong_ok ho) rfl (PVleL_refl _) ?_
  rintro r rfl
  simp only [go_sem, Nat.reduceBEq, Nat.reduceAdd]
  refine call_pure2 hC (hS) rfl (PVleL_refl _) ?_
  rintro r rfl
  simp only [go_sem, Nat.reduceBEq, Nat.reduceAdd]
  refine call_pure2 hC (Right_ok ho) rfl (PVleL_refl _) ?_
  rintro r rfl
  simp only [go_sem, Nat.reduceBEq, decide_false, not_true_eq_false, List.length_map]
  refine call_pure2 hC (Grows_sem (fewI b) b.trials.length) rfl (PVleL_refl _) ?_
  rintro r ⟨t, rfl, hg⟩
  rw [hg.2 hgr]
  simp only [go_sem, Nat.reduceBEq, Nat.reduceAdd, decide_false, not_true_eq_false, List.length_map, hlen]
  refine call_pure2 hC (without_sem .sh .sh b (fewI b) (by omega)) rfl (PVleL_refl _) ?_
  rintro r rfl
  simp only [go_sem, Nat.reduceBEq]
  refine call_pure2 hC (Right_ok (without_ok ho (fewI b))) rfl (PVleL_refl _) ?_
  rintro r rfl
  simp only [go_sem, Nat.reduceBEq, decide_eq_true (few_true ho), decide_false, not_true_eq_false, Bool.false_eq_true, bin_shl (show ¬ ((b.trials.length : Nat) : Int) < 0 by omega), List.length_map, hM]
  refine call_pure2 hC (Round_sem n M) rfl (PVleL_refl _) ?_
  rintro r rfl
  simp only [go_sem, Nat.reduceBEq]
  refine call_pure2 hC (List_sem (rndI n M) b.trials.length (by omega)) rfl (PVleL_refl _) ?_
  rintro r rfl
  simp only [go_sem, Nat.reduceBEq]
  refine call_pure2 hC (Shorter_sem ..) rfl (PVleL_refl _) ?_
  rintro r rfl
  simp only [go_sem, Nat.reduceBEq]
  cases hs : shortB (listI (rndI n M) b.trials.length) (fewI b)
  · simp only [go_sem, Nat.reduceBEq]
    refine call_pure2 hC (stood_sem) rfl (PVleL_refl _) ?_
    rintro r rfl
    simp only [go_sem, Nat.reduceBEq]
    exact retQ_one rfl rfl
  · simp only [go_sem, Nat.reduceBEq, Nat.reduceAdd]
    refine call_pure2 hC (without_sem .sh .sh b (listI (rndI n M) b.trials.length) (by omega)) rfl (PVleL_refl _) ?_
    rintro r rfl
    simp only [go_sem, Nat.reduceBEq]
    refine call_pure2 hC (Right_ok (without_ok ho (listI (rndI n M) b.trials.length))) rfl (PVleL_refl _) ?_
    rintro r rfl
    simp only [go_sem, Nat.reduceBEq, decide_eq_false (show ¬ truthL (withoutB b (listI (rndI n M) b.trials.length)) ≠ [] from fun h => h (few_least ho (listI_inc _ _) hs)), decide_true]
    refine call_pure2 hC (stood_sem) rfl (PVleL_refl _) ?_
    rintro r rfl
    simp only [go_sem, Nat.reduceBEq]
    exact retQ_one rfl rfl
set_option maxRecDepth 100000 in
theorem StandWrong_row {l0 l1 : List PV} (T0 : Ty Try.prog 10 25 l0) (T1 : Ty Try.prog 10 3 l1) : SemC Try.prog 14 [argPV Try.prog 25 l0, argPV Try.prog 3 l1] (fun r => r = pb true) := by
  obtain ⟨b, rfl⟩ := ty_book T0
  obtain ⟨n, rfl⟩ := tyInt uInt T1
  rw [argStruct Try.underlying25, argInt uInt]
  exact StandWrong_law b n
end Go.Proofs.Ytgniamjempccmaa
