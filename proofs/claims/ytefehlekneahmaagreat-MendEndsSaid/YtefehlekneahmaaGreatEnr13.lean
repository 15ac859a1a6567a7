/- MendEnds returns true for everything that it is asked; no condition. MendEnds. Contracts of mend: what is asked of a sound book. -/
import Derived.Test.YtefehlekneahmaaGreatEnr12
import Derived.Test.YtefehlekneahmaaGreatGa18
namespace Go.Proofs.YtefehlekneahmaaGreat.Mk.Me
open Go.RowKit Ls
theorem errF_no {b : EBook} (ho : okE b) (hw : whoL b.mb = []) : errF b true = 82 := by
  unfold errF
  rw [if_pos ho, if_pos rfl, if_pos hw]
section
variable (κ : KS) {b : EBook}
theorem Bill_ok (h : errF b true = 0) : Sem1 30 [.agg (ebC κ b)] (.tup [spanP b 1 b.jobs, pi 0]) := by
  have := Bill_sem κ b
  rwa [if_pos h] at this
theorem Bill_no (h : errF b true = 82) : Sem1 30 [.agg (ebC κ b)] (.tup [.agg [pi 0, pi 0], pi 82]) := by
  have := Bill_sem κ b
  rwa [h, if_neg (by decide)] at this
theorem Whose_ok (h : errF b true = 0) (pence : Int) : Sem1 34 [.agg (ebC κ b), pi pence] (.tup [pis (natL (whoseL b pence)), pi 0]) := by
  have := Whose_sem κ b pence
  rwa [if_pos h] at this
theorem Can_ok (h : errF b true = 0) (pence : Int) : Sem1 32 [.agg (ebC κ b), pi pence] (.tup [pb (decide (whoseL b pence ≠ [])), pi 0]) := by
  have := Can_sem κ b pence
  rwa [if_pos h] at this
theorem Can_no (h : errF b true = 82) (pence : Int) : Sem1 32 [.agg (ebC κ b), pi pence] (.tup [pb false, pi 82]) := by
  have := Can_sem κ b pence
  rwa [h, if_neg (by decide)] at this
end
end Go.Proofs.YtefehlekneahmaaGreat.Mk.Me
namespace Go.Proofs.YtefehlekneahmaaGreat.Mk.Me
open Go.RowKit Ls
def ac7 : AC := (AC.seq (AC.ops [(AOp.mk (some 2) (AK.box 8 (AX.t 0)) none 0 false true), (AOp.mk (some 4) (AK.mv (AX.c (PV.val (Value.bool false)))) none 1 false true)]) (AC.seq (AC.seq (AC.ops [(AOp.mk (some 18) (AK.ld (some 8) (AX.t 2)) none 0 false true), (AOp.mk (some 19) (AK.call 39 [(AX.t 18)]) none 1 false true), (AOp.mk (some 20) (AK.un UnOp.not (AX.t 19)) none 2 false true)]) (AC.cond (AX.t 20) (AC.seq (AC.ops [(AOp.mk (some 21) (AK.call 29 []) none 0 false true), (AOp.mk (some 4) (AK.mv (AX.t 21)) none 1 false true)]) AC.ret) AC.skip)) (AC.seq (AC.ops [(AOp.mk (some 23) (AK.ld (some 8) (AX.t 2)) none 0 false true), (AOp.mk (some 24) (AK.call 40 [(AX.t 23)]) none 1 false true), (AOp.mk (some 22) (AK.mv (AX.t 24)) none 2 false true), (AOp.mk (some 25) (AK.ext (AX.t 22) 0) none 3 false true), (AOp.mk (some 26) (AK.ext (AX.t 22) 1) none 4 false true), (AOp.mk (some 5) (AK.mv (AX.t 25)) none 5 false true), (AOp.mk (some 6) (AK.mv (AX.t 26)) none 6 false true)]) (AC.seq (AC.ops [(AOp.mk (some 28) (AK.ld (some 8) (AX.t 2)) none 0 false true), (AOp.mk (some 29) (AK.call 30 [(AX.t 28)]) none 1 false true), (AOp.mk (some 27) (AK.mv (AX.t 29)) none 2 false true), (AOp.mk (some 30) (AK.ext (AX.t 27) 0) none 3 false true), (AOp.mk (some 31) (AK.ext (AX.t 27) 1) none 4 false true), (AOp.mk (some 7) (AK.new (PV.agg [(PV.val (Value.int IntKind.i64 0)), (PV.val (Value.int IntKind.i64 0))])) none 5 false true), (AOp.mk none (AK.st 2 (AX.t 7) (AX.t 30)) none 6 false true), (AOp.mk (some 8) (AK.mv (AX.t 31)) none 7 false true)]) (AC.seq (AC.seq (AC.ops [(AOp.mk (some 32) (AK.mv (AX.t 6)) none 0 false true), (AOp.mk (some 33) (AK.un UnOp.not (AX.t 32)) none 1 false true)]) (AC.cond (AX.t 33) (AC.seq (AC.ops [(AOp.mk (some 35) (AK.ld (some 8) (AX.t 2)) none 0 false true), (AOp.mk (some 36) (AK.mv (AX.t 1)) none 1 false true), (AOp.mk (some 37) (AK.call 32 [(AX.t 35), (AX.t 36)]) none 2 false true), (AOp.mk (some 34) (AK.mv (AX.t 37)) none 3 false true), (AOp.mk (some 38) (AK.ext (AX.t 34) 0) none 4 false true), (AOp.mk (some 39) (AK.ext (AX.t 34) 1) none 5 false true), (AOp.mk (some 9) (AK.mv (AX.t 38)) none 6 false true), (AOp.mk (some 10) (AK.mv (AX.t 39)) none 7 false true)]) (AC.seq (AC.ops [(AOp.mk (some 40) (AK.mv (AX.t 8)) none 0 false true), (AOp.mk (some 41) (AK.bin false BinOp.eql (AX.t 40) (AX.c (PV.val (Value.int IntKind.i64 82)))) none 1 false true), (AOp.mk (some 42) (AK.mv (AX.t 41)) none 2 false true), (AOp.mk (some 43) (AK.mv (AX.t 10)) (some (42, true)) 3 false true), (AOp.mk (some 44) (AK.mv (AX.t 8)) (some (42, true)) 4 false true), (AOp.mk (some 45) (AK.bin false BinOp.eql (AX.t 43) (AX.t 44)) (some (42, true)) 5 false true), (AOp.mk (some 46) (AK.pick (AX.t 42) (AX.t 45) (AX.c (PV.val (Value.bool false)))) none 6 false true), (AOp.mk (some 47) (AK.mv (AX.t 46)) none 7 false true), (AOp.mk (some 48) (AK.call 29 []) (some (47, true)) 8 false true), (AOp.mk (some 49) (AK.pick (AX.t 47) (AX.t 48) (AX.c (PV.val (Value.bool false)))) none 9 false true), (AOp.mk (some 4) (AK.mv (AX.t 49)) none 10 false true)]) AC.ret)) AC.skip)) (AC.seq (AC.seq (AC.ops [(AOp.mk (some 50) (AK.mv (AX.t 8)) none 0 false true), (AOp.mk (some 51) (AK.bin false BinOp.neq (AX.t 50) (AX.c (PV.val (Value.int IntKind.i64 0)))) none 1 false true), (AOp.mk (some 52) (AK.mv (AX.t 51)) none 2 false true), (AOp.mk (some 53) (AK.fadr 0 (AX.t 7)) (some (52, false)) 3 false true), (AOp.mk (some 54) (AK.ld none (AX.t 53)) (some (52, false)) 4 false true), (AOp.mk (some 55) (AK.bin false BinOp.lss (AX.t 54) (AX.c (PV.val (Value.int IntKind.i64 0)))) (some (52, false)) 5 false true), (AOp.mk (some 56) (AK.pick (AX.t 52) (AX.c (PV.val (Value.bool true))) (AX.t 55)) none 6 false true), (AOp.mk (some 57) (AK.mv (AX.t 56)) none 7 false true), (AOp.mk (some 58) (AK.fadr 0 (AX.t 7)) (some (57, false)) 8 false true), (AOp.mk (some 59) (AK.ld none (AX.t 58)) (some (57, false)) 9 false true), (AOp.mk (some 60) (AK.fadr 1 (AX.t 7)) (some (57, false)) 10 false true), (AOp.mk (some 61) (AK.ld none (AX.t 60)) (some (57, false)) 11 false true), (AOp.mk (some 62) (AK.bin false BinOp.gtr (AX.t 59) (AX.t 61)) (some (57, false)) 12 false true), (AOp.mk (some 63) (AK.pick (AX.t 57) (AX.c (PV.val (Value.bool true))) (AX.t 62)) none 13 false true)]) (AC.cond (AX.t 63) (AC.seq (AC.ops [(AOp.mk (some 4) (AK.mv (AX.c (PV.val (Value.bool false)))) none 0 false true)]) AC.ret) AC.skip)) (AC.seq (AC.ops [(AOp.mk (some 64) (AK.fadr 0 (AX.t 7)) none 0 true false), (AOp.mk (some 65) (AK.ld none (AX.t 64)) none 1 true false), (AOp.mk (some 66) (AK.fadr 1 (AX.t 7)) none 2 true false), (AOp.mk (some 67) (AK.ld none (AX.t 66)) none 3 true false), (AOp.mk (some 68) (AK.fadr 0 (AX.t 7)) none 4 true false), (AOp.mk (some 69) (AK.ld none (AX.t 68)) none 5 true false), (AOp.mk (some 70) (AK.bin false BinOp.sub (AX.t 69) (AX.c (PV.val (Value.int IntKind.i64 1)))) none 6 true false), (AOp.mk (some 71) (AK.fadr 1 (AX.t 7)) none 7 true false), (AOp.mk (some 72) (AK.ld none (AX.t 71)) none 8 true false), (AOp.mk (some 73) (AK.bin false BinOp.add (AX.t 72) (AX.c (PV.val (Value.int IntKind.i64 1)))) none 9 true false), (AOp.mk (some 74) (AK.mv (AX.t 1)) none 10 true false), (AOp.mk (some 75) (AK.fadr 0 (AX.t 7)) none 11 true false), (AOp.mk (some 76) (AK.ld none (AX.t 75)) none 12 true false), (AOp.mk (some 77) (AK.mv (AX.t 1)) none 13 true false), (AOp.mk (some 78) (AK.fadr 1 (AX.t 7)) none 14 true false), (AOp.mk (some 79) (AK.ld none (AX.t 78)) none 15 true false), (AOp.mk (some 80) (AK.fadr 0 (AX.t 7)) none 16 true false), (AOp.mk (some 81) (AK.ld none (AX.t 80)) none 17 true false), (AOp.mk (some 82) (AK.bin false BinOp.sub (AX.t 79) (AX.t 81)) none 18 true false), (AOp.mk (some 83) (AK.bin false BinOp.add (AX.t 82) (AX.c (PV.val (Value.int IntKind.i64 1)))) none 19 true false), (AOp.mk (some 84) (AK.call 48 [(AX.t 77), (AX.t 83)]) none 20 false false), (AOp.mk (some 85) (AK.bin false BinOp.add (AX.t 76) (AX.t 84)) none 21 true false), (AOp.mk (some 86) (AK.bslice false 3 1 6 [(PV.val (Value.int IntKind.i64 0))] [(0, (1, (AX.t 65))), (1, (1, (AX.t 67))), (2, (1, (AX.t 70))), (3, (1, (AX.t 73))), (4, (1, (AX.t 74))), (5, (1, (AX.t 85)))]) none 22 false true), (AOp.mk (some 11) (AK.mv (AX.t 86)) none 23 true true)]) (AC.seq (AC.seq (AC.ops [(AOp.mk (some 12) (AK.mv (AX.c (PV.val (Value.int IntKind.i64 0)))) none 0 false true)]) (AC.block 0 (AC.loop (AC.seq (AC.seq (AC.ops [(AOp.mk (some 87) (AK.mv (AX.t 12)) none 0 false true), (AOp.mk (some 88) (AK.mv (AX.t 11)) none 1 false true), (AOp.mk (some 89) (AK.len (AX.t 88)) none 2 false true), (AOp.mk (some 90) (AK.bin false BinOp.lss (AX.t 87) (AX.t 89)) none 3 false true)]) (AC.cond (AX.t 90) AC.skip (AC.exit 0))) (AC.seq (AC.block 1 (AC.seq (AC.ops [(AOp.mk (some 94) (AK.ld (some 8) (AX.t 2)) none 0 true false), (AOp.mk (some 95) (AK.mv (AX.t 11)) none 1 true false), (AOp.mk (some 96) (AK.mv (AX.t 12)) none 2 true false), (AOp.mk (some 97) (AK.iadrS 1 (AX.t 95) (AX.t 96)) none 3 true false), (AOp.mk (some 98) (AK.ld none (AX.t 97)) none 4 true false), (AOp.mk (some 99) (AK.call 32 [(AX.t 94), (AX.t 98)]) none 5 false true), (AOp.mk (some 93) (AK.mv (AX.t 99)) none 6 true true), (AOp.mk (some 100) (AK.ext (AX.t 93) 0) none 7 true false), (AOp.mk (some 101) (AK.ext (AX.t 93) 1) none 8 true false), (AOp.mk (some 13) (AK.mv (AX.t 100)) none 9 true false), (AOp.mk (some 14) (AK.mv (AX.t 101)) none 10 true true)]) (AC.seq (AC.ops [(AOp.mk (some 103) (AK.ld (some 8) (AX.t 2)) none 0 true false), (AOp.mk (some 104) (AK.mv (AX.t 11)) none 1 true false), (AOp.mk (some 105) (AK.mv (AX.t 12)) none 2 true false), (AOp.mk (some 106) (AK.iadrS 1 (AX.t 104) (AX.t 105)) none 3 true false), (AOp.mk (some 107) (AK.ld none (AX.t 106)) none 4 true false), (AOp.mk (some 108) (AK.call 34 [(AX.t 103), (AX.t 107)]) none 5 false true), (AOp.mk (some 102) (AK.mv (AX.t 108)) none 6 true true), (AOp.mk (some 109) (AK.ext (AX.t 102) 0) none 7 true false), (AOp.mk (some 110) (AK.ext (AX.t 102) 1) none 8 true false), (AOp.mk (some 15) (AK.mv (AX.t 109)) none 9 true false), (AOp.mk (some 16) (AK.mv (AX.t 110)) none 10 true true)]) (AC.seq (AC.seq (AC.ops [(AOp.mk (some 111) (AK.mv (AX.t 14)) none 0 true true), (AOp.mk (some 112) (AK.bin false BinOp.neq (AX.t 111) (AX.c (PV.val (Value.int IntKind.i64 0)))) none 1 true true), (AOp.mk (some 113) (AK.mv (AX.t 112)) none 2 true true), (AOp.mk (some 114) (AK.mv (AX.t 16)) (some (113, false)) 3 true true), (AOp.mk (some 115) (AK.bin false BinOp.neq (AX.t 114) (AX.c (PV.val (Value.int IntKind.i64 0)))) (some (113, false)) 4 true true), (AOp.mk (some 116) (AK.pick (AX.t 113) (AX.c (PV.val (Value.bool true))) (AX.t 115)) none 5 true true), (AOp.mk (some 117) (AK.mv (AX.t 116)) none 6 true true), (AOp.mk (some 118) (AK.mv (AX.t 13)) (some (117, false)) 7 true false), (AOp.mk (some 119) (AK.mv (AX.t 15)) (some (117, false)) 8 true true), (AOp.mk (some 120) (AK.len (AX.t 119)) (some (117, false)) 9 true true), (AOp.mk (some 121) (AK.bin false BinOp.gtr (AX.t 120) (AX.c (PV.val (Value.int IntKind.i64 0)))) (some (117, false)) 10 true true), (AOp.mk (some 122) (AK.bin true BinOp.neq (AX.t 118) (AX.t 121)) (some (117, false)) 11 true true), (AOp.mk (some 123) (AK.pick (AX.t 117) (AX.c (PV.val (Value.bool true))) (AX.t 122)) none 12 true true), (AOp.mk (some 124) (AK.mv (AX.t 123)) none 13 true true), (AOp.mk (some 125) (AK.mv (AX.t 12)) (some (124, false)) 14 true true), (AOp.mk (some 126) (AK.bin false BinOp.lss (AX.t 125) (AX.c (PV.val (Value.int IntKind.i64 2)))) (some (124, false)) 15 true true), (AOp.mk (some 127) (AK.mv (AX.t 126)) (some (124, false)) 16 true true), (AOp.mk (some 128) (AK.mv (AX.t 13)) (some (127, true)) 17 true true), (AOp.mk (some 129) (AK.un UnOp.not (AX.t 128)) (some (127, true)) 18 true true), (AOp.mk (some 130) (AK.pick (AX.t 127) (AX.t 129) (AX.c (PV.val (Value.bool false)))) (some (124, false)) 19 true true), (AOp.mk (some 131) (AK.pick (AX.t 124) (AX.c (PV.val (Value.bool true))) (AX.t 130)) none 20 true true), (AOp.mk (some 132) (AK.mv (AX.t 131)) none 21 true true), (AOp.mk (some 133) (AK.mv (AX.t 13)) (some (132, false)) 22 true true), (AOp.mk (some 134) (AK.mv (AX.t 133)) (some (132, false)) 23 true true), (AOp.mk (some 135) (AK.ld (some 2) (AX.t 7)) (some (134, true)) 24 true false), (AOp.mk (some 136) (AK.mv (AX.t 11)) (some (134, true)) 25 true false), (AOp.mk (some 137) (AK.mv (AX.t 12)) (some (134, true)) 26 true false), (AOp.mk (some 138) (AK.iadrS 1 (AX.t 136) (AX.t 137)) (some (134, true)) 27 true false), (AOp.mk (some 139) (AK.ld none (AX.t 138)) (some (134, true)) 28 true false), (AOp.mk (some 140) (AK.call 45 [(AX.t 135), (AX.t 139)]) (some (134, true)) 29 false true), (AOp.mk (some 141) (AK.un UnOp.not (AX.t 140)) (some (134, true)) 30 true true), (AOp.mk (some 142) (AK.pick (AX.t 134) (AX.t 141) (AX.c (PV.val (Value.bool false)))) (some (132, false)) 31 true true), (AOp.mk (some 143) (AK.pick (AX.t 132) (AX.c (PV.val (Value.bool true))) (AX.t 142)) none 32 true true), (AOp.mk (some 144) (AK.mv (AX.t 143)) none 33 true true), (AOp.mk (some 145) (AK.mv (AX.t 15)) (some (144, false)) 34 true false), (AOp.mk (some 146) (AK.fadr 0 (AX.t 2)) (some (144, false)) 35 true true), (AOp.mk (some 147) (AK.fadr 0 (AX.t 146)) (some (144, false)) 36 true true), (AOp.mk (some 148) (AK.ld none (AX.t 147)) (some (144, false)) 37 true true), (AOp.mk (some 149) (AK.len (AX.t 148)) (some (144, false)) 38 true true), (AOp.mk (some 150) (AK.call 49 [(AX.t 145), (AX.t 149)]) (some (144, false)) 39 false true), (AOp.mk (some 151) (AK.un UnOp.not (AX.t 150)) (some (144, false)) 40 true true), (AOp.mk (some 152) (AK.pick (AX.t 144) (AX.c (PV.val (Value.bool true))) (AX.t 151)) none 41 true true)]) (AC.cond (AX.t 152) (AC.seq (AC.ops [(AOp.mk (some 4) (AK.mv (AX.c (PV.val (Value.bool false)))) none 0 false true)]) AC.ret) AC.skip)) (AC.seq (AC.ops [(AOp.mk (some 17) (AK.mv (AX.c (PV.val (Value.int IntKind.i64 0)))) none 0 false true)]) (AC.block 2 (AC.loop (AC.seq (AC.seq (AC.ops [(AOp.mk (some 153) (AK.mv (AX.t 17)) none 0 false true), (AOp.mk (some 154) (AK.mv (AX.t 15)) none 1 false true), (AOp.mk (some 155) (AK.len (AX.t 154)) none 2 false true), (AOp.mk (some 156) (AK.bin false BinOp.lss (AX.t 153) (AX.t 155)) none 3 false true)]) (AC.cond (AX.t 156) AC.skip (AC.exit 2))) (AC.seq (AC.block 3 (AC.seq (AC.ops [(AOp.mk (some 159) (AK.mv (AX.t 5)) none 0 false true), (AOp.mk (some 160) (AK.mv (AX.t 15)) none 1 false true), (AOp.mk (some 161) (AK.mv (AX.t 17)) none 2 false true), (AOp.mk (some 162) (AK.iadrS 1 (AX.t 160) (AX.t 161)) none 3 false true), (AOp.mk (some 163) (AK.ld none (AX.t 162)) none 4 false true), (AOp.mk (some 164) (AK.call 47 [(AX.t 159), (AX.t 163)]) none 5 false true), (AOp.mk (some 165) (AK.bin false BinOp.lss (AX.t 164) (AX.c (PV.val (Value.int IntKind.i64 0)))) none 6 false true)]) (AC.cond (AX.t 165) (AC.seq (AC.ops [(AOp.mk (some 4) (AK.mv (AX.c (PV.val (Value.bool false)))) none 0 false true)]) AC.ret) AC.skip))) (AC.ops [(AOp.mk (some 157) (AK.mv (AX.t 17)) none 0 false true), (AOp.mk (some 158) (AK.bin false BinOp.add (AX.t 157) (AX.c (PV.val (Value.int IntKind.i64 1)))) none 1 false true), (AOp.mk (some 17) (AK.mv (AX.t 158)) none 2 false true)])))))))))) (AC.ops [(AOp.mk (some 91) (AK.mv (AX.t 12)) none 0 false true), (AOp.mk (some 92) (AK.bin false BinOp.add (AX.t 91) (AX.c (PV.val (Value.int IntKind.i64 1)))) none 1 false true), (AOp.mk (some 12) (AK.mv (AX.t 92)) none 2 false true)])))))) (AC.seq (AC.ops [(AOp.mk (some 166) (AK.call 29 []) none 0 false true), (AOp.mk (some 4) (AK.mv (AX.t 166)) none 1 false true)]) AC.ret)))))))))
theorem ac7_ok : cCode Tryz.prog (fun _ => false) Tryz.f7.ntmps (Tryz.f7.body.getD .skip) = some ac7 := by kernel_rfl
theorem whose_grows (b : EBook) (pence : Int) : growsI (natL (whoseL b pence)) b.mb.makers.length := by
  refine ⟨?_, fun n hn => ?_⟩
  · unfold incL natL
    rw [List.pairwise_map]
    exact (whose_inc b pence).imp fun h => by omega
  · unfold natL at hn
    obtain ⟨m, hm, rfl⟩ := List.mem_map.1 hn
    have := (mem_who.1 (whose_who hm)).1
    omega
def penceL (lo hi n : Int) : List Int := [lo, hi, lo - 1, hi + 1, n, lo + rndI n (hi - lo + 1)]
theorem Ends_law (κ : KS) (b : EBook) (n : Int) : Sem1 7 [.agg (ebC κ b), pi n] (pb true) := by
  by_cases ho : okE b
  rotate_left
  · refine semC_of_exec' mixed Tryz.func7 (by kernel_rfl) (by kernel_rfl) ac7_ok 2 rfl (by decide) [(.tmp 4)] (by kernel_rfl) ?_
    intro hr C hC hI
    unfold ac7
    simp only [go_sem, Nat.reduceBEq, Nat.reduceAdd]
    refine call_pure2 hC (sound_sem κ b) rfl (PVleL_refl _) ?_
    rintro r rfl
    simp only [go_sem, Nat.reduceBEq, decide_eq_false ho]
    refine call_pure2 hC (exs_sem) rfl (PVleL_refl _) ?_
    rintro r rfl
    simp only [go_sem, Nat.reduceBEq]
    exact retQ_one rfl rfl
  by_cases hw : whoL b.mb = []
  · have hF := errF_no ho hw
    refine semC_of_exec' mixed Tryz.func7 (by kernel_rfl) (by kernel_rfl) ac7_ok 2 rfl (by decide) [(.tmp 4)] (by kernel_rfl) ?_
    intro hr C hC hI
    unfold ac7
    simp only [go_sem, Nat.reduceBEq, Nat.reduceAdd]
    refine call_pure2 hC (sound_sem κ b) rfl (PVleL_refl _) ?_
    rintro r rfl
    simp only [go_sem, Nat.reduceBEq, Nat.reduceAdd, decide_eq_true ho]
    refine call_pure2 hC (somebody_sem κ ho) rfl (PVleL_refl _) ?_
    rintro r rfl
    simp only [go_sem, Nat.reduceBEq, Nat.reduceAdd, decide_eq_false (show ¬ whoL b.mb ≠ [] from fun h => h hw)]
    refine call_pure2 hC (Bill_no κ hF) rfl (PVleL_refl _) ?_
    rintro r rfl
    simp only [go_sem, Nat.reduceBEq, Nat.reduceAdd, not_false_eq_true]
    refine call_pure2 hC (Can_no κ hF n) rfl (PVleL_refl _) ?_
    rintro r rfl
    simp only [go_sem, Nat.reduceBEq, decide_true]
    refine call_pure2 hC (exs_sem) rfl (PVleL_refl _) ?_
    rintro r rfl
    simp only [go_sem, Nat.reduceBEq]
    exact retQ_one rfl rfl
  have hF := errF_of ho hw
  have hne := known_ne hw
  have hE := ends_le ho.rate0 hne (js := b.jobs) (fun j hj => ho.span hj) 1
  have hB := out_bound ho hne ho.2.2.2.1 true 1
  have hB2 := out_bound ho hne ho.2.2.2.1 false 1
  have h4 := ho.2.1.2
  have eL := can_end ho hne true
  have eH := can_end ho hne false
  have hin : ∀ x, whoseL b x ≠ [] → outI true b 1 b.jobs ≤ x ∧ x ≤ outI false b 1 b.jobs := fun x hx => by
    obtain ⟨t, ht, hc⟩ := whose_ne.1 hx
    exact can_has ho ht hc
  have wL : whoseL b (outI true b 1 b.jobs) ≠ [] := whose_ne.2 eL
  have wH : whoseL b (outI false b 1 b.jobs) ≠ [] := whose_ne.2 eH
  have hBill := Bill_ok κ hF
  unfold spanP at hBill
  obtain ⟨lo, hlo⟩ : ∃ x, outI true b 1 b.jobs = x := ⟨_, rfl⟩
  obtain ⟨hi, hhi⟩ : ∃ x, outI false b 1 b.jobs = x := ⟨_, rfl⟩
  rw [hlo] at hE hB hin wL hBill
  rw [hhi] at hE hB2 hin wH hBill
  have hr3 := rndI_range (n := n) (m := hi - lo + 1) (by omega)
  refine semC_of_exec' mixed Tryz.func7 (by kernel_rfl) (by kernel_rfl) ac7_ok 2 rfl (by decide) [(.tmp 4)] (by kernel_rfl) ?_
  intro hr C hC hI
  unfold ac7
  simp only [go_sem, Nat.reduceBEq, Nat.reduceAdd]
  refine call_pure2 hC (sound_sem κ b) rfl (PVleL_refl _) ?_
  rintro r rfl
  simp only [go_sem, Nat.reduceBEq, Nat.reduceAdd, decide_eq_true ho]
  refine call_pure2 hC (somebody_sem κ ho) rfl (PVleL_refl _) ?_
  rintro r rfl
  simp only [go_sem, Nat.reduceBEq, Nat.reduceAdd, decide_eq_true hw]
  refine call_pure2 hC (hBill) rfl (PVleL_refl _) ?_
  rintro r rfl
  simp only [go_sem, Nat.reduceBEq, Nat.reduceAdd, decide_false, not_true_eq_false, Bool.false_eq_true, not_false_eq_true, putCells, eq_false (show ¬ lo < 0 by omega), eq_false (show ¬ hi < lo by omega), wrap_id (n := lo - 1) (by omega) (by omega), wrap_id (n := hi + 1) (by omega) (by omega), wrap_id (n := hi - lo) (by omega) (by omega), wrap_id (n := hi - lo + 1) (by omega) (by omega)]
  refine call_pure2 hC (Round_sem n (hi - lo + 1)) rfl (PVleL_refl _) ?_
  rintro r rfl
  simp only [go_sem, Nat.reduceBEq, Nat.reduceAdd, Nat.reduceLeDiff, putCells, wrap_id (n := lo + rndI n (hi - lo + 1)) (by omega) (by omega)]
  obtain ⟨P, hP⟩ : ∃ P, penceL lo hi n = P := ⟨_, rfl⟩
  have hPl : P.length = 6 := by rw [← hP]; rfl
  have hP0 : ∀ i (h : i < P.length), i < 2 → whoseL b P[i] ≠ [] := fun i h h2 => by
    subst hP
    match i, h2 with
    | 0, _ => exact wL
    | 1, _ => exact wH
  have ePs : PV.sl SK.full 1 [[pi lo], [pi hi], [pi (lo - 1)], [pi (hi + 1)], [pi n], [pi (lo + rndI n (hi - lo + 1))]] = .sl .full 1 (P.map fun x => [pi x]) := by rw [← hP]; rfl
  refine loop_k P.length (fun _ => True) [2, 5, 7, 11] (fun i => [(12, .p (pi i))]) trivial rfl ⟨rfl, by simp, by simp⟩ (by simp [wkT, look, AV.lo]) ?_
  rintro i ⟨hi6, -⟩
  simp only [go_sem, Nat.reduceBEq, Nat.reduceAdd]
  refine ⟨fun d5 => ?_, fun d5 => ?_⟩
  · have hi2 : i < P.length := by rw [hPl]; omega
    have e1 : iadrS' 1 (.p (PV.sl SK.full 1 [[pi lo], [pi hi], [pi (lo - 1)], [pi (hi + 1)], [pi n], [pi (lo + rndI n (hi - lo + 1))]])) (.p (pi i)) = some (.p (.ptr [pi P[i]] 0)) := by rw [ePs]; exact iadr_map (f := fun x => [pi x]) (kd := .full) (sz := 1) hi2
    have hwi := hP0 i hi2
    have hini := hin P[i]
    have hgr := whose_grows b P[i]
    obtain ⟨p, hp⟩ : ∃ p, P[i] = p := ⟨_, rfl⟩
    rw [hp] at e1 hwi hini hgr
    have hsub : ∀ x ∈ natL (whoseL b p), x ∈ natL (whoL b.mb) := fun x hx => by
      obtain ⟨m, hm, rfl⟩ := List.mem_map.1 hx
      exact List.mem_map.2 ⟨m, whose_who hm, rfl⟩
    obtain ⟨W, hW⟩ : ∃ W, natL (whoseL b p) = W := ⟨_, rfl⟩
    have hWl : decide (whoseL b p ≠ []) = decide (0 < (W.length : Int)) := by
      rw [← hW, natL_len]
      exact decide_eq_decide.2 ⟨fun h => by have := List.length_pos_iff.2 h; omega, fun h => List.length_pos_iff.1 (by omega)⟩
    have hWn : W.length ≤ 320 := by rw [← hW, natL_len]; exact Nat.le_trans (whose_len b p) (known_len ho.1.1)
    have hwW : whoseL b p ≠ [] ↔ 0 < (W.length : Int) := decide_eq_decide.1 hWl
    have hCan := Can_ok κ hF p
    have hWho := Whose_ok κ hF p
    rw [hW] at hWho hgr hsub
    rw [hWl] at hCan
    simp only [go_sem, Nat.reduceBEq, e1]
    refine call_pure2 hC (hCan) rfl (PVleL_refl _) ?_
    rintro r rfl
    simp only [go_sem, Nat.reduceBEq, Nat.reduceAdd, e1]
    by_cases hpos : 0 < (W.length : Int)
    · have hhas := hini (hwW.2 hpos)
      by_cases h2 : (i : Int) < 2
      · refine call_pure2 hC (hWho) rfl (PVleL_refl _) ?_
        rintro r rfl
        simp only [go_sem, Nat.reduceBEq, Nat.reduceAdd, eq_true hpos, eq_true h2, e1, decide_true, decide_false, not_true_eq_false, List.length_map]
        refine call_pure2 hC (Has_sem lo hi p) rfl (PVleL_refl _) ?_
        rintro r rfl
        simp only [go_sem, Nat.reduceBEq, decide_eq_true hhas, List.length_map]
        refine call_pure2 hC (Grows_sem W b.mb.makers.length) rfl (PVleL_refl _) ?_
        rintro r ⟨t, rfl, ht⟩
        rw [ht.2 hgr]
        simp only [go_sem, Nat.reduceBEq]
        refine loop_k W.length (fun _ => True) [2, 5, 7, 11, 12, 15] (fun k => [(17, .p (pi k))]) trivial rfl ⟨rfl, by simp, by simp⟩ (by simp [wkT, look, AV.lo]) ?_
        rintro k ⟨hk, -⟩
        simp only [go_sem, Nat.reduceBEq, List.length_map]
        refine ⟨fun d6 => ?_, fun d6 => ?_⟩
        · have hk2 : k < W.length := by omega
          simp only [go_sem, Nat.reduceBEq, iadr_pis hk2]
          refine call_pure2 hC (Find_sem (natL (whoL b.mb)) W[k]) rfl (PVleL_refl _) ?_
          rintro r ⟨q, rfl, hq⟩
          have hq0 : ¬ q < 0 := fun h => hq.1 h (hsub _ (List.getElem_mem hk2))
          simp only [go_sem, Nat.reduceBEq, eq_false hq0, wrap_succ (k := k) (by omega), decide_false]
          refine ⟨⟨k + 1, hk2, trivial⟩, by simp only; omega, ?_⟩
          simp [Wk, wkT, wkL, look, AV.lo, AV.lo.loL, ABlk.toZ]
        · have hkn : k = W.length := by omega
          subst hkn
          simp only [go_sem, wrap_succ (k := i) (by omega)]
          refine ⟨⟨i + 1, hi2, trivial⟩, by simp only; omega, ?_⟩
          simp [Wk, wkT, wkL, look, AV.lo, AV.lo.loL, ABlk.toZ]
      · refine call_pure2 hC (hWho) rfl (PVleL_refl _) ?_
        rintro r rfl
        simp only [go_sem, Nat.reduceBEq, Nat.reduceAdd, eq_true hpos, eq_false h2, e1, decide_true, decide_false, not_true_eq_false, List.length_map]
        refine call_pure2 hC (Has_sem lo hi p) rfl (PVleL_refl _) ?_
        rintro r rfl
        simp only [go_sem, Nat.reduceBEq, decide_eq_true hhas, List.length_map]
        refine call_pure2 hC (Grows_sem W b.mb.makers.length) rfl (PVleL_refl _) ?_
        rintro r ⟨t, rfl, ht⟩
        rw [ht.2 hgr]
        simp only [go_sem, Nat.reduceBEq]
        refine loop_k W.length (fun _ => True) [2, 5, 7, 11, 12, 15] (fun k => [(17, .p (pi k))]) trivial rfl ⟨rfl, by simp, by simp⟩ (by simp [wkT, look, AV.lo]) ?_
        rintro k ⟨hk, -⟩
        simp only [go_sem, Nat.reduceBEq, List.length_map]
        refine ⟨fun d6 => ?_, fun d6 => ?_⟩
        · have hk2 : k < W.length := by omega
          simp only [go_sem, Nat.reduceBEq, iadr_pis hk2]
          refine call_pure2 hC (Find_sem (natL (whoL b.mb)) W[k]) rfl (PVleL_refl _) ?_
          rintro r ⟨q, rfl, hq⟩
          have hq0 : ¬ q < 0 := fun h => hq.1 h (hsub _ (List.getElem_mem hk2))
          simp only [go_sem, Nat.reduceBEq, eq_false hq0, wrap_succ (k := k) (by omega), decide_false]
          refine ⟨⟨k + 1, hk2, trivial⟩, by simp only; omega, ?_⟩
          simp [Wk, wkT, wkL, look, AV.lo, AV.lo.loL, ABlk.toZ]
        · have hkn : k = W.length := by omega
          subst hkn
          simp only [go_sem, wrap_succ (k := i) (by omega)]
          refine ⟨⟨i + 1, hi2, trivial⟩, by simp only; omega, ?_⟩
          simp [Wk, wkT, wkL, look, AV.lo, AV.lo.loL, ABlk.toZ]
    · have h2 : ¬ (i : Int) < 2 := fun h2 => hpos (hwW.1 (hwi (by omega)))
      refine call_pure2 hC (hWho) rfl (PVleL_refl _) ?_
      rintro r rfl
      simp only [go_sem, Nat.reduceBEq, eq_false hpos, eq_false h2, decide_false, not_true_eq_false, List.length_map]
      refine call_pure2 hC (Grows_sem W b.mb.makers.length) rfl (PVleL_refl _) ?_
      rintro r ⟨t, rfl, ht⟩
      rw [ht.2 hgr]
      simp only [go_sem, Nat.reduceBEq]
      refine loop_k W.length (fun _ => True) [2, 5, 7, 11, 12, 15] (fun k => [(17, .p (pi k))]) trivial rfl ⟨rfl, by simp, by simp⟩ (by simp [wkT, look, AV.lo]) ?_
      rintro k ⟨hk, -⟩
      simp only [go_sem, Nat.reduceBEq, List.length_map]
      refine ⟨fun d6 => ?_, fun d6 => ?_⟩
      · have hk2 : k < W.length := by omega
        simp only [go_sem, Nat.reduceBEq, iadr_pis hk2]
        refine call_pure2 hC (Find_sem (natL (whoL b.mb)) W[k]) rfl (PVleL_refl _) ?_
        rintro r ⟨q, rfl, hq⟩
        have hq0 : ¬ q < 0 := fun h => hq.1 h (hsub _ (List.getElem_mem hk2))
        simp only [go_sem, Nat.reduceBEq, eq_false hq0, wrap_succ (k := k) (by omega), decide_false]
        refine ⟨⟨k + 1, hk2, trivial⟩, by simp only; omega, ?_⟩
        simp [Wk, wkT, wkL, look, AV.lo, AV.lo.loL, ABlk.toZ]
      · have hkn : k = W.length := by omega
        subst hkn
        simp only [go_sem, wrap_succ (k := i) (by omega)]
        refine ⟨⟨i + 1, hi2, trivial⟩, by simp only; omega, ?_⟩
        simp [Wk, wkT, wkL, look, AV.lo, AV.lo.loL, ABlk.toZ]
  · refine call_pure2 hC (exs_sem) rfl (PVleL_refl _) ?_
    rintro r rfl
    simp only [go_sem, Nat.reduceBEq]
    exact retQ_one rfl rfl
set_option maxRecDepth 100000 in
theorem Ends_row {l0 l1 : List PV} (T0 : Ty Tryz.prog 10 29 l0) (T1 : Ty Tryz.prog 10 3 l1) : SemC Tryz.prog 7 [argPV Tryz.prog 29 l0, argPV Tryz.prog 3 l1] (fun r => r = pb true) := by
  obtain ⟨b, rfl⟩ := ty_ebook T0
  obtain ⟨n, rfl⟩ := tyInt uInt T1
  rw [argStruct Tryz.underlying29, argInt uInt]
  exact Ends_law shK b n
end Go.Proofs.YtefehlekneahmaaGreat.Mk.Me
namespace Go.Proofs.YtefehlekneahmaaGreat
open Go.Proofs.YtefehlekneahmaaGreat Go.ChangeShapes Go.WideShapes Go.ChangeAt Go.RowKit Go.Deep

set_option maxRecDepth 100000 in
theorem mendEnds_lifted (os : Os) (started : os.Started) (H : Type) (enc : TypeId × Value → H) :
    ReturnsInHanded {} Tryz.checked os 7 .any (Rows.mendEndsSpec.pre6 enc Tryz.prog Tryz.f7 Rows.mendEndsRow.domain false) (Rows.mendEndsSpec.post enc Tryz.prog Tryz.f7 false true false false) := by
  refine returnsInHanded_of_change_sized (C := Tryz.checked) ownKnobs started (by kernel_rfl) Tryz.func7
    (ChangeSpec.witness6 (enc := enc) (C := Tryz.checked) false ⟨#[], #[.agg #[.slice none 0 0, .slice none 0 0, .int .i64 0, .int .i64 0, .slice none 0 0, .int .i64 0, .slice none 0 0, .slice none 0 0], .int .i64 0], []⟩ 8 (by kernel_rfl) (by kernel_rfl) (by kernel_rfl) (by kernel_rfl)) ?_
  intro W base args ds gs before hval0 hW hcnd hsz0 _
  have hval : ∀ (j : Nat) t v, Tryz.f7.params[j]? = some t → args[j]? = some v → Value.okWide Tryz.prog W .any base t v := hval0
  have hsz : (DataW.weightsEach Tryz.prog (Tryz.f7.params.toList ++ Rows.mendEndsSpec.plain.varTypes Tryz.prog) (ds ++ gs)).all (· ≤ reachBytes) = true := hsz0
  have hW' := hW
  obtain ⟨p, q, hA0, hV, rfl, hfz, hnd⟩ := hW
  have hA : DataW.TrodAll enc Tryz.prog W 0 (fun _ => true) true Tryz.f7.params.toList args.toList ds p := hA0
  rw [Tryz.params7] at hA hval hsz
  obtain ⟨v0, vs0, d0, ds0, p0, q0, hargs, rfl, rfl, h0, r0⟩ := trodAll_cons hA
  obtain ⟨v1, vs1, d1, ds1, p1, q1, rfl, rfl, rfl, h1, r1⟩ := trodAll_cons r0
  obtain ⟨rfl, rfl, rfl⟩ := trodAll_nil r1
  obtain rfl : args = #[v0, v1] := by cases args; simp_all
  obtain ⟨rfl, rfl⟩ := trodVars_none hV
  have lt0 : ∀ x ∈ p0, x.block < W.heap.size := by obtain ⟨m, hm⟩ := h0; exact DataW.trod_lt m _ _ _ hm
  have lt1 : ∀ x ∈ p1, x.block < W.heap.size := by obtain ⟨m, hm⟩ := h1; exact DataW.trod_lt m _ _ _ hm
  have z0 : SizedP Tryz.prog 29 d0 := sizedP_each hsz (j := 0) rfl rfl
  obtain ⟨l0, T0, R0⟩ := rd_arg 10 (by kernel_rfl) (hval 0 29 v0 rfl rfl) h0 z0
  have z1 : SizedP Tryz.prog 3 d1 := sizedP_each hsz (j := 1) rfl rfl
  obtain ⟨l1, T1, R1⟩ := rd_arg 10 (by kernel_rfl) (hval 1 3 v1 rfl rfl) h1 z1
  clear hA0 hval0 hsz0
  refine (law_calls (Mk.Me.Ends_row T0 T1) (argsP_cons R0 (argsP_cons R1 argsP_nil))).mono fun e W' ⟨he, bel⟩ => ?_
  subst he
  exact ⟨_, rfl, _, _, _, [], _, [], hW', trodAll_mk1 (shut_bool Tryz.underlying4 _), (trodAll_cons_mk (Below.trod laidOut (by kernel_rfl) (of_decide_eq_true (by kernel_rfl)) h0 bel lt0) (trodAll_cons_mk (Below.trod laidOut (by kernel_rfl) (of_decide_eq_true (by kernel_rfl)) h1 bel lt1) trodAll_mk0)), rfl, bel.frame _, fun h => by cases h⟩

theorem mendEnds_joined : joinedFacts Tryz.prog 7 Tryz.f7 Rows.mendEndsSpec Rows.mendEndsRow = true := by
  simp only [joinedFacts, Bool.and_eq_true]
  repeat' apply And.intro
  all_goals first | with_reducible exact laidOut | with_reducible exact mapsR | with_reducible exact stopsH | with_reducible exact mayE | (rw [lift0]; kernel_rfl) | (rw [make0]; kernel_rfl) | kernel_rfl

theorem mendEnds_holds : Rows.MendEndsSaid :=
  OpenClaim.holds_of_wide 7 Tryz.f7 rfl rfl rfl rfl rfl rfl rfl ⟨rfl, rfl, rfl, rfl, rfl⟩ rfl rfl rfl rfl rfl (by kernel_rfl) Tryz.func7 mendEnds_joined
    (of_decide_eq_true (by kernel_rfl)) (by unfold Func.isWrapper; first | (rw [if_pos (by decide +kernel)]; kernel_rfl) | (rw [if_neg (by decide +kernel)]; exact ⟨rfl, rfl⟩))
    (fun os started H enc _ => mendEnds_lifted os started H enc)
end Go.Proofs.YtefehlekneahmaaGreat
