/- MendPlain returns true for everything that it is asked; no condition. MendPlain. Contracts of mend: what is asked of a sound book. -/
import Derived.Test.YtefehlekneahmaaGreatPln12
import Derived.Test.YtefehlekneahmaaGreatPln01
import Derived.Test.YtefehlekneahmaaGreatGa18
namespace Go.Proofs.YtefehlekneahmaaGreat.Mk.Me
open Go.RowKit Ls
theorem okN_of {b : EBook} {k : Nat} (h : k < b.jobs.length) : okN b (k : Int) = true := decide_eq_true (by omega)
section
variable (κ : KS) {b : EBook}
theorem Job_ok (h : errF b true = 0) {k : Nat} (hk : k < b.jobs.length) : Sem1 19 [.agg (ebC κ b), pi k] (.tup [spanP b 0 [jobN b k], pi 0]) := by
  have := Job_sem κ b (k : Int)
  rwa [okN_of hk, if_pos h, Int.toNat_natCast] at this
theorem Bill_ok (h : errF b true = 0) : Sem1 30 [.agg (ebC κ b)] (.tup [spanP b 1 b.jobs, pi 0]) := by
  have := Bill_sem κ b
  rwa [if_pos h] at this
theorem Whose_ok (h : errF b true = 0) (pence : Int) : Sem1 34 [.agg (ebC κ b), pi pence] (.tup [pis (natL (whoseL b pence)), pi 0]) := by
  have := Whose_sem κ b pence
  rwa [if_pos h] at this
end
end Go.Proofs.YtefehlekneahmaaGreat.Mk.Me
namespace Go.Proofs.YtefehlekneahmaaGreat.Mk.Me
open Go.RowKit Ls
def ac46 : AC := (AC.seq (AC.ops [(AOp.mk (some 2) (AK.box 6 (AX.t 0)) none 0 false true), (AOp.mk (some 4) (AK.mv (AX.c (PV.val (Value.int IntKind.i64 0)))) none 1 false true)]) (AC.seq (AC.seq (AC.ops [(AOp.mk (some 5) (AK.fadr 5 (AX.t 2)) none 0 false true), (AOp.mk (some 6) (AK.ld none (AX.t 5)) none 1 false true), (AOp.mk (some 7) (AK.bin false BinOp.eql (AX.t 6) (AX.c (PV.val (Value.int IntKind.i64 (-1))))) none 2 false true)]) (AC.cond (AX.t 7) (AC.seq (AC.ops [(AOp.mk (some 8) (AK.mv (AX.t 1)) none 0 false true), (AOp.mk (some 4) (AK.mv (AX.t 8)) none 1 false true)]) AC.ret) AC.skip)) (AC.seq (AC.ops [(AOp.mk (some 9) (AK.fadr 5 (AX.t 2)) none 0 false true), (AOp.mk (some 10) (AK.ld none (AX.t 9)) none 1 false true), (AOp.mk (some 11) (AK.mv (AX.t 1)) none 2 false true), (AOp.mk (some 12) (AK.mx false [(AX.t 10), (AX.t 11)]) none 3 false true), (AOp.mk (some 4) (AK.mv (AX.t 12)) none 4 false true)]) AC.ret)))
theorem ac46_ok : cCode Tryz.prog (fun _ => false) Tryz.f46.ntmps (Tryz.f46.body.getD .skip) = some ac46 := by kernel_rfl
def ac12 : AC := (AC.seq (AC.ops [(AOp.mk (some 1) (AK.box 8 (AX.t 0)) none 0 false true), (AOp.mk (some 2) (AK.mv (AX.c (PV.val (Value.bool false)))) none 1 false true)]) (AC.seq (AC.seq (AC.ops [(AOp.mk (some 20) (AK.ld (some 8) (AX.t 1)) none 0 false true), (AOp.mk (some 21) (AK.call 39 [(AX.t 20)]) none 1 false true), (AOp.mk (some 22) (AK.un UnOp.not (AX.t 21)) none 2 false true)]) (AC.cond (AX.t 22) (AC.seq (AC.ops [(AOp.mk (some 23) (AK.call 29 []) none 0 false true), (AOp.mk (some 2) (AK.mv (AX.t 23)) none 1 false true)]) AC.ret) AC.skip)) (AC.seq (AC.ops [(AOp.mk (some 24) (AK.ld (some 8) (AX.t 1)) none 0 false true), (AOp.mk (some 3) (AK.new (PV.agg [(PV.sl SK.full 0 []), (PV.sl SK.full 0 []), (PV.val (Value.int IntKind.i64 0)), (PV.val (Value.int IntKind.i64 0)), (PV.sl SK.full 0 []), (PV.val (Value.int IntKind.i64 0)), (PV.sl SK.full 0 []), (PV.sl SK.full 0 [])])) none 1 false true), (AOp.mk none (AK.st 8 (AX.t 3) (AX.t 24)) none 2 false true)]) (AC.seq (AC.ops [(AOp.mk (some 25) (AK.fadr 6 (AX.t 1)) none 0 false true), (AOp.mk (some 26) (AK.ld none (AX.t 25)) none 1 false true), (AOp.mk (some 27) (AK.len (AX.t 26)) none 2 false true), (AOp.mk (some 28) (AK.mks false 3 1 8 [(PV.val (Value.int IntKind.i64 0))] (AX.t 27) (AX.t 27)) none 3 false true), (AOp.mk (some 29) (AK.fadr 6 (AX.t 3)) none 4 false true), (AOp.mk none (AK.st 1 (AX.t 29) (AX.t 28)) none 5 false true)]) (AC.seq (AC.ops [(AOp.mk (some 31) (AK.ld (some 8) (AX.t 3)) none 0 false true), (AOp.mk (some 32) (AK.call 40 [(AX.t 31)]) none 1 false true), (AOp.mk (some 30) (AK.mv (AX.t 32)) none 2 false true), (AOp.mk (some 33) (AK.ext (AX.t 30) 0) none 3 false true), (AOp.mk (some 34) (AK.ext (AX.t 30) 1) none 4 false true), (AOp.mk (some 4) (AK.mv (AX.t 33)) none 5 false true), (AOp.mk (some 5) (AK.mv (AX.t 34)) none 6 false true)]) (AC.seq (AC.seq (AC.ops [(AOp.mk (some 35) (AK.mv (AX.t 5)) none 0 false true), (AOp.mk (some 36) (AK.un UnOp.not (AX.t 35)) none 1 false true)]) (AC.cond (AX.t 36) (AC.seq (AC.ops [(AOp.mk (some 37) (AK.call 29 []) none 0 false true), (AOp.mk (some 2) (AK.mv (AX.t 37)) none 1 false true)]) AC.ret) AC.skip)) (AC.seq (AC.ops [(AOp.mk (some 6) (AK.mv (AX.c (PV.val (Value.int IntKind.i64 0)))) none 0 false true), (AOp.mk (some 7) (AK.mv (AX.c (PV.val (Value.int IntKind.i64 0)))) none 1 false true)]) (AC.seq (AC.seq (AC.ops [(AOp.mk (some 8) (AK.mv (AX.c (PV.val (Value.int IntKind.i64 0)))) none 0 false true)]) (AC.block 0 (AC.loop (AC.seq (AC.seq (AC.ops [(AOp.mk (some 38) (AK.mv (AX.t 8)) none 0 false true), (AOp.mk (some 39) (AK.fadr 4 (AX.t 1)) none 1 false true), (AOp.mk (some 40) (AK.ld none (AX.t 39)) none 2 false true), (AOp.mk (some 41) (AK.len (AX.t 40)) none 3 false true), (AOp.mk (some 42) (AK.bin false BinOp.lss (AX.t 38) (AX.t 41)) none 4 false true)]) (AC.cond (AX.t 42) AC.skip (AC.exit 0))) (AC.seq (AC.block 1 (AC.seq (AC.ops [(AOp.mk (some 45) (AK.fadr 4 (AX.t 1)) none 0 false true), (AOp.mk (some 46) (AK.ld none (AX.t 45)) none 1 false true), (AOp.mk (some 47) (AK.mv (AX.t 8)) none 2 false true), (AOp.mk (some 48) (AK.iadrS 6 (AX.t 46) (AX.t 47)) none 3 false true), (AOp.mk (some 49) (AK.ld (some 6) (AX.t 48)) none 4 false true), (AOp.mk (some 9) (AK.new (PV.agg [(PV.val (Value.int IntKind.i64 0)), (PV.val (Value.int IntKind.i64 0)), (PV.val (Value.int IntKind.i64 0)), (PV.val (Value.int IntKind.i64 0)), (PV.val (Value.int IntKind.i64 0)), (PV.val (Value.int IntKind.i64 0))])) none 5 false true), (AOp.mk none (AK.st 6 (AX.t 9) (AX.t 49)) none 6 false true)]) (AC.seq (AC.ops [(AOp.mk (some 51) (AK.ld (some 8) (AX.t 3)) none 0 false true), (AOp.mk (some 52) (AK.mv (AX.t 8)) none 1 false true), (AOp.mk (some 53) (AK.call 19 [(AX.t 51), (AX.t 52)]) none 2 false true), (AOp.mk (some 50) (AK.mv (AX.t 53)) none 3 false true), (AOp.mk (some 54) (AK.ext (AX.t 50) 0) none 4 false true), (AOp.mk (some 55) (AK.ext (AX.t 50) 1) none 5 false true), (AOp.mk (some 10) (AK.new (PV.agg [(PV.val (Value.int IntKind.i64 0)), (PV.val (Value.int IntKind.i64 0))])) none 6 false true), (AOp.mk none (AK.st 2 (AX.t 10) (AX.t 54)) none 7 false true), (AOp.mk (some 11) (AK.mv (AX.t 55)) none 8 false true)]) (AC.seq (AC.ops [(AOp.mk (some 56) (AK.fadr 1 (AX.t 9)) none 0 true false), (AOp.mk (some 57) (AK.fadr 0 (AX.t 56)) none 1 true false), (AOp.mk (some 58) (AK.ld none (AX.t 57)) none 2 true false), (AOp.mk (some 59) (AK.fadr 5 (AX.t 1)) none 3 true false), (AOp.mk (some 60) (AK.ld none (AX.t 59)) none 4 true false), (AOp.mk (some 61) (AK.bin false BinOp.mul (AX.t 58) (AX.t 60)) none 5 true false), (AOp.mk (some 62) (AK.fadr 3 (AX.t 9)) none 6 true false), (AOp.mk (some 63) (AK.fadr 0 (AX.t 62)) none 7 true false), (AOp.mk (some 64) (AK.ld none (AX.t 63)) none 8 true false), (AOp.mk (some 65) (AK.bin false BinOp.add (AX.t 61) (AX.t 64)) none 9 true false), (AOp.mk (some 66) (AK.fadr 1 (AX.t 9)) none 10 true false), (AOp.mk (some 67) (AK.fadr 1 (AX.t 66)) none 11 true false), (AOp.mk (some 68) (AK.ld none (AX.t 67)) none 12 true false), (AOp.mk (some 69) (AK.fadr 5 (AX.t 1)) none 13 true false), (AOp.mk (some 70) (AK.ld none (AX.t 69)) none 14 true false), (AOp.mk (some 71) (AK.bin false BinOp.mul (AX.t 68) (AX.t 70)) none 15 true false), (AOp.mk (some 72) (AK.fadr 3 (AX.t 9)) none 16 true false), (AOp.mk (some 73) (AK.fadr 1 (AX.t 72)) none 17 true false), (AOp.mk (some 74) (AK.ld none (AX.t 73)) none 18 true false), (AOp.mk (some 75) (AK.bin false BinOp.add (AX.t 71) (AX.t 74)) none 19 true false), (AOp.mk (some 12) (AK.mv (AX.t 65)) none 20 true false), (AOp.mk (some 13) (AK.mv (AX.t 75)) none 21 true true)]) (AC.seq (AC.seq (AC.ops [(AOp.mk (some 76) (AK.mv (AX.t 11)) none 0 true true), (AOp.mk (some 77) (AK.bin false BinOp.neq (AX.t 76) (AX.c (PV.val (Value.int IntKind.i64 0)))) none 1 true true), (AOp.mk (some 78) (AK.mv (AX.t 77)) none 2 true true), (AOp.mk (some 79) (AK.ld (some 2) (AX.t 10)) (some (78, false)) 3 true false), (AOp.mk (some 80) (AK.mv (AX.t 12)) (some (78, false)) 4 true false), (AOp.mk (some 81) (AK.mv (AX.t 13)) (some (78, false)) 5 true false), (AOp.mk (some 82) (AK.call 54 [(AX.t 80), (AX.t 81)]) (some (78, false)) 6 false false), (AOp.mk (some 83) (AK.eqs [CK.i, CK.i] true (AX.t 79) (AX.t 82)) (some (78, false)) 7 true true), (AOp.mk (some 84) (AK.pick (AX.t 78) (AX.c (PV.val (Value.bool true))) (AX.t 83)) none 8 true true)]) (AC.cond (AX.t 84) (AC.seq (AC.ops [(AOp.mk (some 2) (AK.mv (AX.c (PV.val (Value.bool false)))) none 0 false true)]) AC.ret) AC.skip)) (AC.ops [(AOp.mk (some 85) (AK.mv (AX.t 6)) none 0 true false), (AOp.mk (some 86) (AK.ld (some 6) (AX.t 9)) none 1 true false), (AOp.mk (some 87) (AK.mv (AX.t 12)) none 2 true false), (AOp.mk (some 90) (AK.mv (AX.t 7)) none 5 true false), (AOp.mk (some 91) (AK.ld (some 6) (AX.t 9)) none 6 true false), (AOp.mk (some 92) (AK.mv (AX.t 13)) none 7 true false), (AOp.mk (some 88) (AK.call 46 [(AX.t 86), (AX.t 87)]) none 3 false false), (AOp.mk (some 89) (AK.bin false BinOp.add (AX.t 85) (AX.t 88)) none 4 true false), (AOp.mk (some 93) (AK.call 46 [(AX.t 91), (AX.t 92)]) none 8 false false), (AOp.mk (some 94) (AK.bin false BinOp.add (AX.t 90) (AX.t 93)) none 9 true false), (AOp.mk (some 6) (AK.mv (AX.t 89)) none 10 true false), (AOp.mk (some 7) (AK.mv (AX.t 94)) none 11 true true)])))))) (AC.ops [(AOp.mk (some 43) (AK.mv (AX.t 8)) none 0 false true), (AOp.mk (some 44) (AK.bin false BinOp.add (AX.t 43) (AX.c (PV.val (Value.int IntKind.i64 1)))) none 1 false true), (AOp.mk (some 8) (AK.mv (AX.t 44)) none 2 false true)])))))) (AC.seq (AC.ops [(AOp.mk (some 96) (AK.ld (some 8) (AX.t 3)) none 0 false true), (AOp.mk (some 97) (AK.call 30 [(AX.t 96)]) none 1 false true), (AOp.mk (some 95) (AK.mv (AX.t 97)) none 2 false true), (AOp.mk (some 98) (AK.ext (AX.t 95) 0) none 3 false true), (AOp.mk (some 99) (AK.ext (AX.t 95) 1) none 4 false true), (AOp.mk (some 14) (AK.new (PV.agg [(PV.val (Value.int IntKind.i64 0)), (PV.val (Value.int IntKind.i64 0))])) none 5 false true), (AOp.mk none (AK.st 2 (AX.t 14) (AX.t 98)) none 6 false true), (AOp.mk (some 15) (AK.mv (AX.t 99)) none 7 false true)]) (AC.seq (AC.ops [(AOp.mk (some 101) (AK.ld (some 8) (AX.t 3)) none 0 false true), (AOp.mk (some 102) (AK.mv (AX.t 6)) none 1 false true), (AOp.mk (some 103) (AK.call 34 [(AX.t 101), (AX.t 102)]) none 2 false true), (AOp.mk (some 100) (AK.mv (AX.t 103)) none 3 false true), (AOp.mk (some 104) (AK.ext (AX.t 100) 0) none 4 false true), (AOp.mk (some 105) (AK.ext (AX.t 100) 1) none 5 false true), (AOp.mk (some 16) (AK.mv (AX.t 104)) none 6 false true), (AOp.mk (some 17) (AK.mv (AX.t 105)) none 7 false true)]) (AC.seq (AC.ops [(AOp.mk (some 107) (AK.ld (some 8) (AX.t 3)) none 0 false true), (AOp.mk (some 108) (AK.mv (AX.t 7)) none 1 false true), (AOp.mk (some 109) (AK.call 34 [(AX.t 107), (AX.t 108)]) none 2 false true), (AOp.mk (some 106) (AK.mv (AX.t 109)) none 3 false true), (AOp.mk (some 110) (AK.ext (AX.t 106) 0) none 4 false true), (AOp.mk (some 111) (AK.ext (AX.t 106) 1) none 5 false true), (AOp.mk (some 18) (AK.mv (AX.t 110)) none 6 false true), (AOp.mk (some 19) (AK.mv (AX.t 111)) none 7 false true)]) (AC.seq (AC.ops [(AOp.mk (some 112) (AK.mv (AX.t 15)) none 0 true true), (AOp.mk (some 113) (AK.bin false BinOp.eql (AX.t 112) (AX.c (PV.val (Value.int IntKind.i64 0)))) none 1 true true), (AOp.mk (some 114) (AK.mv (AX.t 113)) none 2 true true), (AOp.mk (some 115) (AK.mv (AX.t 17)) (some (114, true)) 3 true true), (AOp.mk (some 116) (AK.bin false BinOp.eql (AX.t 115) (AX.c (PV.val (Value.int IntKind.i64 0)))) (some (114, true)) 4 true true), (AOp.mk (some 117) (AK.pick (AX.t 114) (AX.t 116) (AX.c (PV.val (Value.bool false)))) none 5 true true), (AOp.mk (some 118) (AK.mv (AX.t 117)) none 6 true true), (AOp.mk (some 119) (AK.mv (AX.t 19)) (some (118, true)) 7 true true), (AOp.mk (some 120) (AK.bin false BinOp.eql (AX.t 119) (AX.c (PV.val (Value.int IntKind.i64 0)))) (some (118, true)) 8 true true), (AOp.mk (some 121) (AK.pick (AX.t 118) (AX.t 120) (AX.c (PV.val (Value.bool false)))) none 9 true true), (AOp.mk (some 122) (AK.mv (AX.t 121)) none 10 true true), (AOp.mk (some 123) (AK.ld (some 2) (AX.t 14)) (some (122, true)) 11 true false), (AOp.mk (some 124) (AK.mv (AX.t 6)) (some (122, true)) 12 true false), (AOp.mk (some 125) (AK.mv (AX.t 7)) (some (122, true)) 13 true false), (AOp.mk (some 126) (AK.call 54 [(AX.t 124), (AX.t 125)]) (some (122, true)) 14 false false), (AOp.mk (some 127) (AK.eqs [CK.i, CK.i] false (AX.t 123) (AX.t 126)) (some (122, true)) 15 true true), (AOp.mk (some 128) (AK.pick (AX.t 122) (AX.t 127) (AX.c (PV.val (Value.bool false)))) none 16 true true), (AOp.mk (some 129) (AK.mv (AX.t 128)) none 17 true true), (AOp.mk (some 130) (AK.mv (AX.t 16)) (some (129, true)) 18 true true), (AOp.mk (some 131) (AK.mv (AX.t 4)) (some (129, true)) 19 true true), (AOp.mk (some 132) (AK.call 36 [(AX.t 130), (AX.t 131)]) (some (129, true)) 20 false true), (AOp.mk (some 133) (AK.pick (AX.t 129) (AX.t 132) (AX.c (PV.val (Value.bool false)))) none 21 true true), (AOp.mk (some 134) (AK.mv (AX.t 133)) none 22 true true), (AOp.mk (some 135) (AK.mv (AX.t 18)) (some (134, true)) 23 true true), (AOp.mk (some 136) (AK.mv (AX.t 4)) (some (134, true)) 24 true true), (AOp.mk (some 137) (AK.call 36 [(AX.t 135), (AX.t 136)]) (some (134, true)) 25 false true), (AOp.mk (some 138) (AK.pick (AX.t 134) (AX.t 137) (AX.c (PV.val (Value.bool false)))) none 26 true true), (AOp.mk (some 139) (AK.mv (AX.t 138)) none 27 true true), (AOp.mk (some 140) (AK.call 29 []) (some (139, true)) 28 false true), (AOp.mk (some 141) (AK.pick (AX.t 139) (AX.t 140) (AX.c (PV.val (Value.bool false)))) none 29 true true), (AOp.mk (some 2) (AK.mv (AX.t 141)) none 30 true true)]) AC.ret))))))))))))
theorem ac12_ok : cCode Tryz.prog (fun _ => false) Tryz.f12.ntmps (Tryz.f12.body.getD .skip) = some ac12 := by kernel_rfl
theorem pays_sem (j : Job) (c : Int) : Sem1 46 [.agg (jobC j), pi c] (pi (paidI j c)) := by
  unfold paidI
  refine semC_of_exec' mixed Tryz.func46 (by kernel_rfl) (by kernel_rfl) ac46_ok 2 rfl (by decide) [(.tmp 4)] (by kernel_rfl) ?_
  intro hr C hC hI
  unfold ac46
  simp only [go_sem, Nat.reduceBEq, Nat.reduceAdd]
  refine ⟨fun h => retQ_one rfl (by rw [if_pos h]), fun h => retQ_one rfl (by rw [if_neg h]; unfold maxI; simp only [Bool.false_eq_true, if_false]; congr 2; split <;> omega)⟩
def plainE (b : EBook) : EBook := { b with extra := List.replicate b.extra.length 0 }
def plI (lo : Bool) (b : EBook) (j : Job) : Int := endH lo j * b.rate + endPt lo j
theorem okE.plain {b : EBook} (h : okE b) : okE (plainE b) := by
  obtain ⟨h1, h2, h3, h4, h5, h6⟩ := h
  exact ⟨h1, h2, by simpa [plainE] using h3, h4, fun x hx => by
    have := List.eq_of_mem_replicate hx
    omega, h6⟩
theorem plain_cost (b : EBook) (t : Nat × Nat) (j : Job) (h p : Int) : costI (plainE b) t j h p = h * b.rate + p := by
  have : extraI (plainE b) t j = 0 := by
    unfold extraI
    split
    · rfl
    · simp only [plainE, List.getD_eq_getElem?_getD, List.getElem?_replicate]
      split <;> rfl
  unfold costI
  rw [this]
  show h * b.rate + p + 0 = _
  omega
theorem plain_jobs (lo : Bool) (b : EBook) (w : Nat) (js : List Job) (t : Nat × Nat) : jobsI lo (plainE b) w js t = sumI (js.map fun j => shareI w j (plI lo b j)) := by
  unfold jobsI
  congr 1
  refine List.map_congr_left fun j _ => ?_
  unfold eachI
  rw [plain_cost]
  rfl
theorem plain_out (lo : Bool) {b : EBook} (hne : known (plainE b) ≠ []) (w : Nat) (js : List Job) : outI lo (plainE b) w js = sumI (js.map fun j => shareI w j (plI lo b j)) := by
  cases lo
  · obtain ⟨⟨t, -, h⟩, -⟩ := high_facts hne w js
    rw [h, plain_jobs]
  · obtain ⟨⟨t, -, h⟩, -⟩ := low_facts hne w js
    rw [h, plain_jobs]
theorem inc_ext : ∀ {l m : List Nat}, l.Pairwise (· < ·) → m.Pairwise (· < ·) → (∀ x, x ∈ l ↔ x ∈ m) → l = m
  | [], [], _, _, _ => rfl
  | [], y :: m, _, _, h => absurd ((h y).2 (List.mem_cons_self ..)) (by simp)
  | x :: l, [], _, _, h => absurd ((h x).1 (List.mem_cons_self ..)) (by simp)
  | x :: l, y :: m, hl, hm, h => by
    obtain ⟨hl1, hl2⟩ := List.pairwise_cons.1 hl
    obtain ⟨hm1, hm2⟩ := List.pairwise_cons.1 hm
    have e : x = y := by
      rcases List.mem_cons.1 ((h x).1 (List.mem_cons_self ..)) with e | hx
      · exact e
      · rcases List.mem_cons.1 ((h y).2 (List.mem_cons_self ..)) with e | hy
        · exact e.symm
        · have := hl1 _ hy
          have := hm1 _ hx
          omega
    subst e
    rw [inc_ext hl2 hm2 fun z => by
      have hz := h z
      rw [List.mem_cons, List.mem_cons] at hz
      constructor
      · intro hzl
        have := hl1 _ hzl
        exact (hz.1 (.inr hzl)).resolve_left (by omega)
      · intro hzm
        have := hm1 _ hzm
        exact (hz.2 (.inr hzm)).resolve_left (by omega)]
theorem plain_whose (lo : Bool) {b : EBook} (ho : okE b) (hw : whoL b.mb ≠ []) : whoseL (plainE b) (sumI (b.jobs.map fun j => paidI j (plI lo b j))) = whoL b.mb := by
  refine inc_ext (whose_inc _ _) (who_inc _) fun m => ⟨fun h => whose_who (b := plainE b) h, fun h => ?_⟩
  obtain ⟨s, hs⟩ := who_known (b := plainE b) (m := m) h
  obtain ⟨cs, h1, h2⟩ := ends_costs (b := plainE b) (m, s) lo b.jobs fun j hj => ho.span hj
  refine mem_whose.2 ⟨s, hs, ?_⟩
  have h3 := can_of ho.plain (t := (m, s)) (cs := cs) h1
  have h4 := h2 1
  rw [plain_jobs, shares_paid] at h4
  have h5 : paidL (plainE b).jobs cs = sumI (b.jobs.map fun j => paidI j (plI lo b j)) := h4
  rw [h5] at h3
  exact h3
theorem pl_le {b : EBook} (ho : okE b) {j : Job} (hj : j ∈ b.jobs) (lo : Bool) : (0 ≤ endH lo j * b.rate ∧ endH lo j * b.rate ≤ 400) ∧ 0 ≤ plI lo b j ∧ plI lo b j ≤ 549 := by
  obtain ⟨-, ⟨q1, q2, q3, -⟩, ⟨p1, p2, p3, -⟩, -⟩ := ho.2.2.2.1 j hj
  have h1 : 0 ≤ endH lo j ∧ endH lo j ≤ 20 := by unfold endH; split <;> omega
  have h2 : 0 ≤ endPt lo j ∧ endPt lo j ≤ 99 := by unfold endPt; split <;> omega
  have h3 := (cost_le ho (0, 0) j h1 h2).1
  unfold plI
  omega
def plS (lo : Bool) (b : EBook) (i : Nat) : Int := sumI ((b.jobs.take i).map fun j => paidI j (plI lo b j))
theorem plS_next (lo : Bool) (b : EBook) {i : Nat} (h : i < b.jobs.length) : plS lo b (i + 1) = plS lo b i + paidI b.jobs[i] (plI lo b b.jobs[i]) := by
  unfold plS
  rw [List.take_succ_eq_append_getElem h, List.map_append, List.map_cons, List.map_nil, sum_app]
theorem plS_le {b : EBook} (ho : okE b) (lo : Bool) (i : Nat) : 0 ≤ plS lo b i ∧ plS lo b i ≤ 2196 := by
  have h1 := sum_bound (m := 549) (l := (b.jobs.take i).map fun j => paidI j (plI lo b j)) fun x hx => by
    obtain ⟨j, hj, rfl⟩ := List.mem_map.1 hx
    have hj2 := List.mem_of_mem_take hj
    have h2 := pl_le ho hj2 lo
    have h3 := paid_le (ho.2.2.2.1 j hj2).2.2.2.1 h2.2.1
    omega
  have h2 : ((b.jobs.take i).map fun j => paidI j (plI lo b j)).length ≤ 4 := by
    rw [List.length_map, List.length_take]
    have := ho.2.1.2
    omega
  unfold plS
  omega
theorem Plain_law (κ : KS) (b : EBook) : Sem1 12 [.agg (ebC κ b)] (pb true) := by
  by_cases ho : okE b
  rotate_left
  · refine semC_of_exec' mixed Tryz.func12 (by kernel_rfl) (by kernel_rfl) ac12_ok 1 rfl (by decide) [(.tmp 2)] (by kernel_rfl) ?_
    intro hr C hC hI
    unfold ac12
    simp only [go_sem, Nat.reduceBEq, Nat.reduceAdd]
    refine call_pure2 hC (sound_sem κ b) rfl (PVleL_refl _) ?_
    rintro r rfl
    simp only [go_sem, Nat.reduceBEq, decide_eq_false ho]
    refine call_pure2 hC (exs_sem) rfl (PVleL_refl _) ?_
    rintro r rfl
    simp only [go_sem, Nat.reduceBEq]
    exact retQ_one rfl rfl
  have hl4 := ho.2.1.2
  have hl1 := ho.2.1.1
  have hxe := ho.2.2.1
  have h5 := ho.1.1.1.2
  have hle : ∀ t, PVle (.agg [.sl κ.a 1 (rowsC b.mb.makers), .sl κ.b 2 (seenC b.mb.seen), pi b.mb.repairs, pi b.mb.fixed, .sl κ.c 6 (jobsC b.jobs), pi b.rate, .sl (.own t 3 1) 1 (List.replicate b.extra.length [pi 0]), .sl κ.e 1 (b.coins.map fun x => [pi x])]) (.agg (ebC { κ with d := .sh } (plainE b))) := fun t => by
    have e : (List.replicate b.extra.length [pi 0]) = (plainE b).extra.map fun x => [pi x] := by simp [plainE]
    rw [e]
    exact PVle.agg (show PVleL [_, _, _, _, _, _, _, _] [_, _, _, _, _, _, _, _] from ⟨PVle.refl _, PVle.refl _, PVle.refl _, PVle.refl _, PVle.refl _, PVle.refl _, PVle.sh _ _ _, PVle.refl _, trivial⟩)
  refine semC_of_exec' mixed Tryz.func12 (by kernel_rfl) (by kernel_rfl) ac12_ok 1 rfl (by decide) [(.tmp 2)] (by kernel_rfl) ?_
  intro hr C hC hI
  unfold ac12
  simp only [go_sem, Nat.reduceBEq, Nat.reduceAdd]
  refine call_pure2 hC (sound_sem κ b) rfl (PVleL_refl _) ?_
  rintro r rfl
  simp only [go_sem, Nat.reduceBEq, Nat.reduceAdd, Nat.reduceLeDiff, decide_eq_true ho, putCells, List.length_map, Int.toNat_natCast, not_false_eq_true, true_implies]
  refine ⟨by omega, by omega, by omega, fun t => ?_⟩
  by_cases hw : whoL b.mb = []
  · refine call_pure2 hC (somebody_sem { κ with d := .sh } ho.plain) rfl ⟨hle t, trivial⟩ ?_
    rintro _ rfl
    simp only [go_sem, Nat.reduceBEq, decide_eq_false (show ¬ whoL (plainE b).mb ≠ [] from fun h => h hw)]
    refine call_pure2 hC (exs_sem) rfl (PVleL_refl _) ?_
    rintro r rfl
    simp only [go_sem, Nat.reduceBEq]
    exact retQ_one rfl rfl
  refine call_pure2 hC (somebody_sem { κ with d := .sh } ho.plain) rfl ⟨hle t, trivial⟩ ?_
  rintro _ rfl
  have hF := errF_of ho.plain (show whoL (plainE b).mb ≠ [] from hw)
  have hne := known_ne (b := plainE b) hw
  simp only [go_sem, Nat.reduceBEq, decide_eq_true (show whoL (plainE b).mb ≠ [] from hw)]
  refine loop_kl b.jobs.length (fun _ => True) [1, 3, 4] (fun i => [(6, .p (pi (plS true b i))), (7, .p (pi (plS false b i))), (8, .p (pi i))]) (fun _ => [.cells ((ebC κ b).map .p), .cells [.p (.sl κ.a 1 (rowsC b.mb.makers)), .p (.sl κ.b 2 (seenC b.mb.seen)), .p (pi b.mb.repairs), .p (pi b.mb.fixed), .p (.sl κ.c 6 (jobsC b.jobs)), .p (pi b.rate), .p (.sl (.own t 3 1) 1 (List.replicate b.extra.length [pi 0])), .p (.sl κ.e 1 (b.coins.map fun x => [pi x]))]]) trivial (by simp [Wk, wkT, wkL, look, AV.lo, AV.lo.loL, ABlk.toZ, upS_eq, keepS_nil, keepS_cons, plS, sumI]) ?_
  rintro i ⟨hi, -⟩
  simp only [go_sem, Nat.reduceBEq, Nat.reduceAdd, List.length_map]
  refine ⟨fun d5 => ?_, fun d5 => ?_⟩
  · have hi2 : i < b.jobs.length := by omega
    have hjm := List.getElem_mem hi2
    have ei := iadr_map (f := jobC) (kd := κ.c) (sz := 6) hi2
    have eJ := jobN_get hi2
    have hJob := Job_ok { κ with d := .sh } hF (k := i) hi2
    unfold spanP at hJob
    rw [plain_out true hne, plain_out false hne, show jobN (plainE b) i = jobN b i from rfl, ← eJ] at hJob
    have hL := pl_le ho hjm true
    have hH := pl_le ho hjm false
    have hnL := plS_next true b hi2
    have hnH := plS_next false b hi2
    have hsL := plS_le ho true i
    have hsH := plS_le ho false i
    have hs1 := plS_le ho true (i + 1)
    have hs2 := plS_le ho false (i + 1)
    rw [hnL] at hs1
    rw [hnH] at hs2
    obtain ⟨j, ej⟩ : ∃ j, b.jobs[i] = j := ⟨_, rfl⟩
    rw [ej] at ei hJob hL hH hnL hnH hs1 hs2
    have e1 : sumI ([j].map fun j => shareI 0 j (plI true b j)) = plI true b j := by simp [sumI, shareI]
    have e2 : sumI ([j].map fun j => shareI 0 j (plI false b j)) = plI false b j := by simp [sumI, shareI]
    rw [e1, e2] at hJob
    have eL : plI true b j = j.hl * b.rate + j.pl := rfl
    have eH : plI false b j = j.hh * b.rate + j.ph := rfl
    have gL : 0 ≤ j.hl * b.rate ∧ j.hl * b.rate ≤ 400 := hL.1
    have gH : 0 ≤ j.hh * b.rate ∧ j.hh * b.rate ≤ 400 := hH.1
    simp only [go_sem, Nat.reduceBEq, Nat.reduceAdd, ei, putCells]
    refine call_pure2 hC hJob rfl ⟨hle t, PVle.refl _, trivial⟩ ?_
    rintro _ rfl
    simp only [go_sem, Nat.reduceBEq, Nat.reduceAdd, putCells, wrap_id (n := j.hl * b.rate) (by omega) (by omega), wrap_id (n := j.hh * b.rate) (by omega) (by omega), ← eL, ← eH, wrap_id (n := plI true b j) (by omega) (by omega), wrap_id (n := plI false b j) (by omega) (by omega), decide_false, not_true_eq_false, Bool.false_eq_true, not_false_eq_true]
    refine call_pure2 hC (From_sem ..) rfl (PVleL_refl _) ?_
    rintro r rfl
    simp only [go_sem, Nat.reduceBEq, Nat.reduceAdd, decide_true, Bool.true_and, Bool.not_true, Bool.false_eq_true]
    refine call_pure2 hC (pays_sem j (plI true b j)) rfl (PVleL_refl _) ?_
    rintro _ rfl
    simp only [go_sem, Nat.reduceBEq, wrap_id (n := plS true b i + paidI j (plI true b j)) (by omega) (by omega)]
    refine call_pure2 hC (pays_sem j (plI false b j)) rfl (PVleL_refl _) ?_
    rintro _ rfl
    simp only [go_sem, Nat.reduceBEq, wrap_id (n := plS false b i + paidI j (plI false b j)) (by omega) (by omega), wrap_succ (k := i) (by omega)]
    refine ⟨⟨i + 1, hi2, trivial⟩, by simp only; omega, ?_⟩
    simp only [hnL, hnH]
    simp [Wk, wkT, wkL, look, AV.lo, AV.lo.loL, ABlk.toZ]
  · have hin : i = b.jobs.length := by omega
    subst hin
    have eS : ∀ lo, outI lo (plainE b) 1 (plainE b).jobs = plS lo b b.jobs.length := fun lo => by
      rw [plain_out lo hne]
      unfold plS
      rw [List.take_length]
      rfl
    have hBill := Bill_ok { κ with d := .sh } hF
    unfold spanP at hBill
    rw [eS, eS] at hBill
    have eW : ∀ lo, whoseL (plainE b) (plS lo b b.jobs.length) = whoL b.mb := fun lo => by
      have := plain_whose lo ho hw
      unfold plS
      rwa [List.take_length]
    have hW1 := Whose_ok { κ with d := .sh } hF (plS true b b.jobs.length)
    have hW2 := Whose_ok { κ with d := .sh } hF (plS false b b.jobs.length)
    rw [eW] at hW1 hW2
    obtain ⟨S1, h1⟩ : ∃ x, plS true b b.jobs.length = x := ⟨_, rfl⟩
    obtain ⟨S2, h2⟩ : ∃ x, plS false b b.jobs.length = x := ⟨_, rfl⟩
    rw [h1] at hBill hW1 ⊢
    rw [h2] at hBill hW2 ⊢
    refine call_pure2 hC hBill rfl ⟨hle t, trivial⟩ ?_
    rintro _ rfl
    simp only [go_sem, Nat.reduceBEq, Nat.reduceAdd, putCells]
    refine call_pure2 hC hW1 rfl ⟨hle t, PVle.refl _, trivial⟩ ?_
    rintro _ rfl
    simp only [go_sem, Nat.reduceBEq, Nat.reduceAdd]
    refine call_pure2 hC hW2 rfl ⟨hle t, PVle.refl _, trivial⟩ ?_
    rintro _ rfl
    simp only [go_sem, Nat.reduceBEq, Nat.reduceAdd, decide_true, Bool.false_eq_true]
    refine call_pure2 hC (From_sem ..) rfl (PVleL_refl _) ?_
    rintro r rfl
    simp only [go_sem, Nat.reduceBEq, decide_true, Bool.true_and]
    refine call_pure2 hC (Equal_sem (natL (whoL b.mb)) (natL (whoL b.mb))) rfl (PVleL_refl _) ?_
    rintro r rfl
    simp only [go_sem, Nat.reduceBEq, decide_true]
    refine call_pure2 hC (Equal_sem (natL (whoL b.mb)) (natL (whoL b.mb))) rfl (PVleL_refl _) ?_
    rintro r rfl
    simp only [go_sem, Nat.reduceBEq, decide_true]
    refine call_pure2 hC (exs_sem) rfl (PVleL_refl _) ?_
    rintro r rfl
    simp only [go_sem, Nat.reduceBEq]
    exact retQ_one rfl rfl
set_option maxRecDepth 100000 in
theorem Plain_row {l0 : List PV} (T0 : Ty Tryz.prog 10 29 l0) : SemC Tryz.prog 12 [argPV Tryz.prog 29 l0] (fun r => r = pb true) := by
  obtain ⟨b, rfl⟩ := ty_ebook T0
  rw [argStruct Tryz.underlying29]
  exact Plain_law shK b
end Go.Proofs.YtefehlekneahmaaGreat.Mk.Me
namespace Go.Proofs.YtefehlekneahmaaGreat
open Go.Proofs.YtefehlekneahmaaGreat Go.ChangeShapes Go.WideShapes Go.ChangeAt Go.RowKit Go.Deep

set_option maxRecDepth 100000 in
theorem mendPlain_lifted (os : Os) (started : os.Started) (H : Type) (enc : TypeId × Value → H) :
    ReturnsInHanded {} Tryz.checked os 12 .any (Rows.mendPlainSpec.pre6 enc Tryz.prog Tryz.f12 Rows.mendPlainRow.domain false) (Rows.mendPlainSpec.post enc Tryz.prog Tryz.f12 false true false false) := by
  refine returnsInHanded_of_change_sized (C := Tryz.checked) ownKnobs started (by kernel_rfl) Tryz.func12
    (ChangeSpec.witness6 (enc := enc) (C := Tryz.checked) false ⟨#[], #[.agg #[.slice none 0 0, .slice none 0 0, .int .i64 0, .int .i64 0, .slice none 0 0, .int .i64 0, .slice none 0 0, .slice none 0 0]], []⟩ 8 (by kernel_rfl) (by kernel_rfl) (by kernel_rfl) (by kernel_rfl)) ?_
  intro W base args ds gs before hval0 hW hcnd hsz0 _
  have hval : ∀ (j : Nat) t v, Tryz.f12.params[j]? = some t → args[j]? = some v → Value.okWide Tryz.prog W .any base t v := hval0
  have hsz : (DataW.weightsEach Tryz.prog (Tryz.f12.params.toList ++ Rows.mendPlainSpec.plain.varTypes Tryz.prog) (ds ++ gs)).all (· ≤ reachBytes) = true := hsz0
  have hW' := hW
  obtain ⟨p, q, hA0, hV, rfl, hfz, hnd⟩ := hW
  have hA : DataW.TrodAll enc Tryz.prog W 0 (fun _ => true) true Tryz.f12.params.toList args.toList ds p := hA0
  rw [Tryz.params12] at hA hval hsz
  obtain ⟨v0, vs0, d0, ds0, p0, q0, hargs, rfl, rfl, h0, r0⟩ := trodAll_cons hA
  obtain ⟨rfl, rfl, rfl⟩ := trodAll_nil r0
  obtain rfl : args = #[v0] := by cases args; simp_all
  obtain ⟨rfl, rfl⟩ := trodVars_none hV
  have lt0 : ∀ x ∈ p0, x.block < W.heap.size := by obtain ⟨m, hm⟩ := h0; exact DataW.trod_lt m _ _ _ hm
  have z0 : SizedP Tryz.prog 29 d0 := sizedP_each hsz (j := 0) rfl rfl
  obtain ⟨l0, T0, R0⟩ := rd_arg 10 (by kernel_rfl) (hval 0 29 v0 rfl rfl) h0 z0
  clear hA0 hval0 hsz0
  refine (law_calls (Mk.Me.Plain_row T0) (argsP_cons R0 argsP_nil)).mono fun e W' ⟨he, bel⟩ => ?_
  subst he
  exact ⟨_, rfl, _, _, _, [], _, [], hW', trodAll_mk1 (shut_bool Tryz.underlying4 _), (trodAll_cons_mk (Below.trod laidOut (by kernel_rfl) (of_decide_eq_true (by kernel_rfl)) h0 bel lt0) trodAll_mk0), rfl, bel.frame _, fun h => by cases h⟩

theorem mendPlain_joined : joinedFacts Tryz.prog 12 Tryz.f12 Rows.mendPlainSpec Rows.mendPlainRow = true := by
  simp only [joinedFacts, Bool.and_eq_true]
  repeat' apply And.intro
  all_goals first | with_reducible exact laidOut | with_reducible exact mapsR | with_reducible exact stopsH | with_reducible exact mayE | (rw [lift0]; kernel_rfl) | (rw [make0]; kernel_rfl) | kernel_rfl

theorem mendPlain_holds : Rows.MendPlainSaid :=
  OpenClaim.holds_of_wide 12 Tryz.f12 rfl rfl rfl rfl rfl rfl rfl ⟨rfl, rfl, rfl, rfl, rfl⟩ rfl rfl rfl rfl rfl (by kernel_rfl) Tryz.func12 mendPlain_joined
    (of_decide_eq_true (by kernel_rfl)) (by unfold Func.isWrapper; first | (rw [if_pos (by decide +kernel)]; kernel_rfl) | (rw [if_neg (by decide +kernel)]; exact ⟨rfl, rfl⟩))
    (fun os started H enc _ => mendPlain_lifted os started H enc)
end Go.Proofs.YtefehlekneahmaaGreat
