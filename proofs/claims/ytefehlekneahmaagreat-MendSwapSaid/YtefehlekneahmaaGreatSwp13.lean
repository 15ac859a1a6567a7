/- MendSwap returns true for everything that it is asked; no condition. MendSwap. -/
import Derived.Test.YtefehlekneahmaaGreatSwp12
import Derived.Test.YtefehlekneahmaaGreatSwp01
import Derived.Test.YtefehlekneahmaaGreatGa18
namespace Go.Proofs.YtefehlekneahmaaGreat.Mk.Me
open Go.RowKit Ls
def ac14 : AC := (AC.seq (AC.ops [(AOp.mk (some 2) (AK.box 8 (AX.t 0)) none 0 false true), (AOp.mk (some 3) (AK.box 2 (AX.t 1)) none 1 false true), (AOp.mk (some 4) (AK.mv (AX.c (PV.val (Value.bool false)))) none 2 false true)]) (AC.seq (AC.seq (AC.ops [(AOp.mk (some 19) (AK.ld (some 8) (AX.t 2)) none 0 false true), (AOp.mk (some 20) (AK.call 39 [(AX.t 19)]) none 1 false true), (AOp.mk (some 21) (AK.un UnOp.not (AX.t 20)) none 2 false true)]) (AC.cond (AX.t 21) (AC.seq (AC.ops [(AOp.mk (some 22) (AK.call 29 []) none 0 false true), (AOp.mk (some 4) (AK.mv (AX.t 22)) none 1 false true)]) AC.ret) AC.skip)) (AC.seq (AC.ops [(AOp.mk (some 23) (AK.ld (some 8) (AX.t 2)) none 0 true false), (AOp.mk (some 24) (AK.fadr 4 (AX.t 2)) none 1 true false), (AOp.mk (some 25) (AK.ld none (AX.t 24)) none 2 true false), (AOp.mk (some 26) (AK.len (AX.t 25)) none 3 true false), (AOp.mk (some 5) (AK.new (PV.agg [(PV.sl SK.full 0 []), (PV.sl SK.full 0 []), (PV.val (Value.int IntKind.i64 0)), (PV.val (Value.int IntKind.i64 0)), (PV.sl SK.full 0 []), (PV.val (Value.int IntKind.i64 0)), (PV.sl SK.full 0 []), (PV.sl SK.full 0 [])])) none 4 false false), (AOp.mk none (AK.st 8 (AX.t 5) (AX.t 23)) none 5 false false), (AOp.mk (some 6) (AK.mv (AX.t 26)) none 6 true true)]) (AC.seq (AC.ops [(AOp.mk (some 27) (AK.fadr 4 (AX.t 5)) none 0 false true), (AOp.mk none (AK.st 1 (AX.t 27) (AX.c (PV.sl SK.full 0 []))) none 1 false true)]) (AC.seq (AC.seq (AC.ops [(AOp.mk (some 28) (AK.mv (AX.t 6)) none 0 false true), (AOp.mk (some 29) (AK.bin false BinOp.sub (AX.t 28) (AX.c (PV.val (Value.int IntKind.i64 1)))) none 1 false true), (AOp.mk (some 7) (AK.mv (AX.t 29)) none 2 false true)]) (AC.block 0 (AC.loop (AC.seq (AC.seq (AC.ops [(AOp.mk (some 30) (AK.mv (AX.t 7)) none 0 false true), (AOp.mk (some 31) (AK.bin false BinOp.geq (AX.t 30) (AX.c (PV.val (Value.int IntKind.i64 0)))) none 1 false true)]) (AC.cond (AX.t 31) AC.skip (AC.exit 0))) (AC.seq (AC.block 1 (AC.ops [(AOp.mk (some 34) (AK.fadr 4 (AX.t 5)) none 0 true false), (AOp.mk (some 35) (AK.ld none (AX.t 34)) none 1 true false), (AOp.mk (some 36) (AK.fadr 4 (AX.t 2)) none 2 true false), (AOp.mk (some 37) (AK.ld none (AX.t 36)) none 3 true false), (AOp.mk (some 38) (AK.mv (AX.t 7)) none 4 true false), (AOp.mk (some 39) (AK.iadrS 6 (AX.t 37) (AX.t 38)) none 5 true false), (AOp.mk (some 40) (AK.ld (some 6) (AX.t 39)) none 6 true false), (AOp.mk (some 41) (AK.bslice false 55 6 1 [(PV.val (Value.int IntKind.i64 0)), (PV.val (Value.int IntKind.i64 0)), (PV.val (Value.int IntKind.i64 0)), (PV.val (Value.int IntKind.i64 0)), (PV.val (Value.int IntKind.i64 0)), (PV.val (Value.int IntKind.i64 0))] [(0, (6, (AX.t 40)))]) none 7 false false), (AOp.mk (some 42) (AK.app false 55 6 48 [(PV.val (Value.int IntKind.i64 0)), (PV.val (Value.int IntKind.i64 0)), (PV.val (Value.int IntKind.i64 0)), (PV.val (Value.int IntKind.i64 0)), (PV.val (Value.int IntKind.i64 0)), (PV.val (Value.int IntKind.i64 0))] (AX.t 35) (AX.t 41)) none 8 false true), (AOp.mk (some 43) (AK.fadr 4 (AX.t 5)) none 9 true true), (AOp.mk none (AK.st 1 (AX.t 43) (AX.t 42)) none 10 false true)])) (AC.ops [(AOp.mk (some 32) (AK.mv (AX.t 7)) none 0 false true), (AOp.mk (some 33) (AK.bin false BinOp.sub (AX.t 32) (AX.c (PV.val (Value.int IntKind.i64 1)))) none 1 false true), (AOp.mk (some 7) (AK.mv (AX.t 33)) none 2 false true)])))))) (AC.seq (AC.ops [(AOp.mk (some 44) (AK.iadrA 1 2 (AX.t 3) (AX.c (PV.val (Value.int IntKind.i64 0)))) none 0 false true), (AOp.mk (some 45) (AK.ld none (AX.t 44)) none 1 false true), (AOp.mk (some 46) (AK.mv (AX.t 6)) none 2 false true), (AOp.mk (some 47) (AK.call 48 [(AX.t 45), (AX.t 46)]) none 3 false true), (AOp.mk (some 8) (AK.mv (AX.t 47)) none 4 false true)]) (AC.seq (AC.ops [(AOp.mk (some 49) (AK.ld (some 8) (AX.t 2)) none 0 false true), (AOp.mk (some 50) (AK.mv (AX.t 8)) none 1 false true), (AOp.mk (some 51) (AK.call 19 [(AX.t 49), (AX.t 50)]) none 2 false true), (AOp.mk (some 48) (AK.mv (AX.t 51)) none 3 false true), (AOp.mk (some 52) (AK.ext (AX.t 48) 0) none 4 false true), (AOp.mk (some 53) (AK.ext (AX.t 48) 1) none 5 false true), (AOp.mk (some 9) (AK.new (PV.agg [(PV.val (Value.int IntKind.i64 0)), (PV.val (Value.int IntKind.i64 0))])) none 6 false true), (AOp.mk none (AK.st 2 (AX.t 9) (AX.t 52)) none 7 false true), (AOp.mk (some 10) (AK.mv (AX.t 53)) none 8 false true)]) (AC.seq (AC.ops [(AOp.mk (some 55) (AK.ld (some 8) (AX.t 5)) none 0 false true), (AOp.mk (some 56) (AK.mv (AX.t 6)) none 1 false true), (AOp.mk (some 57) (AK.bin false BinOp.sub (AX.t 56) (AX.c (PV.val (Value.int IntKind.i64 1)))) none 2 false true), (AOp.mk (some 58) (AK.mv (AX.t 8)) none 3 false true), (AOp.mk (some 59) (AK.bin false BinOp.sub (AX.t 57) (AX.t 58)) none 4 false true), (AOp.mk (some 60) (AK.call 19 [(AX.t 55), (AX.t 59)]) none 5 false true), (AOp.mk (some 54) (AK.mv (AX.t 60)) none 6 false true), (AOp.mk (some 61) (AK.ext (AX.t 54) 0) none 7 false true), (AOp.mk (some 62) (AK.ext (AX.t 54) 1) none 8 false true), (AOp.mk (some 11) (AK.new (PV.agg [(PV.val (Value.int IntKind.i64 0)), (PV.val (Value.int IntKind.i64 0))])) none 9 false true), (AOp.mk none (AK.st 2 (AX.t 11) (AX.t 61)) none 10 false true), (AOp.mk (some 12) (AK.mv (AX.t 62)) none 11 false true)]) (AC.seq (AC.seq (AC.ops [(AOp.mk (some 63) (AK.ld (some 2) (AX.t 9)) none 0 false true), (AOp.mk (some 64) (AK.ld (some 2) (AX.t 11)) none 1 false true), (AOp.mk (some 65) (AK.eqs [CK.i, CK.i] true (AX.t 63) (AX.t 64)) none 2 false true), (AOp.mk (some 66) (AK.mv (AX.t 65)) none 3 false true), (AOp.mk (some 67) (AK.mv (AX.t 10)) (some (66, false)) 4 false true), (AOp.mk (some 68) (AK.mv (AX.t 12)) (some (66, false)) 5 false true), (AOp.mk (some 69) (AK.bin false BinOp.neq (AX.t 67) (AX.t 68)) (some (66, false)) 6 false true), (AOp.mk (some 70) (AK.pick (AX.t 66) (AX.c (PV.val (Value.bool true))) (AX.t 69)) none 7 false true)]) (AC.cond (AX.t 70) (AC.seq (AC.ops [(AOp.mk (some 4) (AK.mv (AX.c (PV.val (Value.bool false)))) none 0 false true)]) AC.ret) AC.skip)) (AC.seq (AC.ops [(AOp.mk (some 72) (AK.ld (some 8) (AX.t 2)) none 0 false true), (AOp.mk (some 73) (AK.call 30 [(AX.t 72)]) none 1 false true), (AOp.mk (some 71) (AK.mv (AX.t 73)) none 2 false true), (AOp.mk (some 74) (AK.ext (AX.t 71) 0) none 3 false true), (AOp.mk (some 75) (AK.ext (AX.t 71) 1) none 4 false true), (AOp.mk none (AK.st 2 (AX.t 9) (AX.t 74)) none 5 false true), (AOp.mk (some 10) (AK.mv (AX.t 75)) none 6 false true)]) (AC.seq (AC.ops [(AOp.mk (some 77) (AK.ld (some 8) (AX.t 5)) none 0 false true), (AOp.mk (some 78) (AK.call 30 [(AX.t 77)]) none 1 false true), (AOp.mk (some 76) (AK.mv (AX.t 78)) none 2 false true), (AOp.mk (some 79) (AK.ext (AX.t 76) 0) none 3 false true), (AOp.mk (some 80) (AK.ext (AX.t 76) 1) none 4 false true), (AOp.mk none (AK.st 2 (AX.t 11) (AX.t 79)) none 5 false true), (AOp.mk (some 12) (AK.mv (AX.t 80)) none 6 false true)]) (AC.seq (AC.ops [(AOp.mk (some 82) (AK.ld (some 8) (AX.t 2)) none 0 false true), (AOp.mk (some 83) (AK.call 23 [(AX.t 82)]) none 1 false true), (AOp.mk (some 81) (AK.mv (AX.t 83)) none 2 false true), (AOp.mk (some 84) (AK.ext (AX.t 81) 0) none 3 false true), (AOp.mk (some 85) (AK.ext (AX.t 81) 1) none 4 false true), (AOp.mk (some 13) (AK.new (PV.agg [(PV.val (Value.int IntKind.i64 0)), (PV.val (Value.int IntKind.i64 0))])) none 5 false true), (AOp.mk none (AK.st 2 (AX.t 13) (AX.t 84)) none 6 false true), (AOp.mk (some 14) (AK.mv (AX.t 85)) none 7 false true)]) (AC.seq (AC.ops [(AOp.mk (some 87) (AK.ld (some 8) (AX.t 5)) none 0 false true), (AOp.mk (some 88) (AK.call 23 [(AX.t 87)]) none 1 false true), (AOp.mk (some 86) (AK.mv (AX.t 88)) none 2 false true), (AOp.mk (some 89) (AK.ext (AX.t 86) 0) none 3 false true), (AOp.mk (some 90) (AK.ext (AX.t 86) 1) none 4 false true), (AOp.mk (some 15) (AK.new (PV.agg [(PV.val (Value.int IntKind.i64 0)), (PV.val (Value.int IntKind.i64 0))])) none 5 false true), (AOp.mk none (AK.st 2 (AX.t 15) (AX.t 89)) none 6 false true), (AOp.mk (some 16) (AK.mv (AX.t 90)) none 7 false true)]) (AC.seq (AC.seq (AC.ops [(AOp.mk (some 91) (AK.ld (some 2) (AX.t 9)) none 0 false true), (AOp.mk (some 92) (AK.ld (some 2) (AX.t 11)) none 1 false true), (AOp.mk (some 93) (AK.eqs [CK.i, CK.i] true (AX.t 91) (AX.t 92)) none 2 false true), (AOp.mk (some 94) (AK.mv (AX.t 93)) none 3 false true), (AOp.mk (some 95) (AK.mv (AX.t 10)) (some (94, false)) 4 false true), (AOp.mk (some 96) (AK.mv (AX.t 12)) (some (94, false)) 5 false true), (AOp.mk (some 97) (AK.bin false BinOp.neq (AX.t 95) (AX.t 96)) (some (94, false)) 6 false true), (AOp.mk (some 98) (AK.pick (AX.t 94) (AX.c (PV.val (Value.bool true))) (AX.t 97)) none 7 false true), (AOp.mk (some 99) (AK.mv (AX.t 98)) none 8 false true), (AOp.mk (some 100) (AK.ld (some 2) (AX.t 13)) (some (99, false)) 9 false true), (AOp.mk (some 101) (AK.ld (some 2) (AX.t 15)) (some (99, false)) 10 false true), (AOp.mk (some 102) (AK.eqs [CK.i, CK.i] true (AX.t 100) (AX.t 101)) (some (99, false)) 11 false true), (AOp.mk (some 103) (AK.pick (AX.t 99) (AX.c (PV.val (Value.bool true))) (AX.t 102)) none 12 false true), (AOp.mk (some 104) (AK.mv (AX.t 103)) none 13 false true), (AOp.mk (some 105) (AK.mv (AX.t 14)) (some (104, false)) 14 false true), (AOp.mk (some 106) (AK.mv (AX.t 16)) (some (104, false)) 15 false true), (AOp.mk (some 107) (AK.bin false BinOp.neq (AX.t 105) (AX.t 106)) (some (104, false)) 16 false true), (AOp.mk (some 108) (AK.pick (AX.t 104) (AX.c (PV.val (Value.bool true))) (AX.t 107)) none 17 false true)]) (AC.cond (AX.t 108) (AC.seq (AC.ops [(AOp.mk (some 4) (AK.mv (AX.c (PV.val (Value.bool false)))) none 0 false true)]) AC.ret) AC.skip)) (AC.seq (AC.ops [(AOp.mk (some 110) (AK.ld (some 8) (AX.t 2)) none 0 false true), (AOp.mk (some 111) (AK.iadrA 1 2 (AX.t 3) (AX.c (PV.val (Value.int IntKind.i64 1)))) none 1 false true), (AOp.mk (some 112) (AK.ld none (AX.t 111)) none 2 false true), (AOp.mk (some 113) (AK.call 34 [(AX.t 110), (AX.t 112)]) none 3 false true), (AOp.mk (some 109) (AK.mv (AX.t 113)) none 4 false true), (AOp.mk (some 114) (AK.ext (AX.t 109) 0) none 5 false true), (AOp.mk (some 115) (AK.ext (AX.t 109) 1) none 6 false true), (AOp.mk (some 17) (AK.mv (AX.t 114)) none 7 false true), (AOp.mk (some 10) (AK.mv (AX.t 115)) none 8 false true)]) (AC.seq (AC.ops [(AOp.mk (some 117) (AK.ld (some 8) (AX.t 5)) none 0 false true), (AOp.mk (some 118) (AK.iadrA 1 2 (AX.t 3) (AX.c (PV.val (Value.int IntKind.i64 1)))) none 1 false true), (AOp.mk (some 119) (AK.ld none (AX.t 118)) none 2 false true), (AOp.mk (some 120) (AK.call 34 [(AX.t 117), (AX.t 119)]) none 3 false true), (AOp.mk (some 116) (AK.mv (AX.t 120)) none 4 false true), (AOp.mk (some 121) (AK.ext (AX.t 116) 0) none 5 false true), (AOp.mk (some 122) (AK.ext (AX.t 116) 1) none 6 false true), (AOp.mk (some 18) (AK.mv (AX.t 121)) none 7 false true), (AOp.mk (some 12) (AK.mv (AX.t 122)) none 8 false true)]) (AC.seq (AC.ops [(AOp.mk (some 123) (AK.mv (AX.t 17)) none 0 false true), (AOp.mk (some 124) (AK.mv (AX.t 18)) none 1 false true), (AOp.mk (some 125) (AK.call 36 [(AX.t 123), (AX.t 124)]) none 2 false true), (AOp.mk (some 126) (AK.mv (AX.t 125)) none 3 false true), (AOp.mk (some 127) (AK.mv (AX.t 10)) (some (126, true)) 4 false true), (AOp.mk (some 128) (AK.mv (AX.t 12)) (some (126, true)) 5 false true), (AOp.mk (some 129) (AK.bin false BinOp.eql (AX.t 127) (AX.t 128)) (some (126, true)) 6 false true), (AOp.mk (some 130) (AK.pick (AX.t 126) (AX.t 129) (AX.c (PV.val (Value.bool false)))) none 7 false true), (AOp.mk (some 131) (AK.mv (AX.t 130)) none 8 false true), (AOp.mk (some 132) (AK.call 29 []) (some (131, true)) 9 false true), (AOp.mk (some 133) (AK.pick (AX.t 131) (AX.t 132) (AX.c (PV.val (Value.bool false)))) none 10 false true), (AOp.mk (some 4) (AK.mv (AX.t 133)) none 11 false true)]) AC.ret)))))))))))))))))
theorem ac14_ok : cCode Tryz.prog (fun _ => false) Tryz.f14.ntmps (Tryz.f14.body.getD .skip) = some ac14 := by kernel_rfl
def revE (b : EBook) : EBook := { b with jobs := b.jobs.reverse }
theorem sum_rev (l : List Int) : sumI l.reverse = sumI l := by
  induction l with
  | nil => rfl
  | cons x l ih => rw [List.reverse_cons, sum_app, sum_cons, ih]; omega
theorem jobs_rev (lo : Bool) (b : EBook) (w : Nat) (js : List Job) (t : Nat × Nat) : jobsI lo b w js.reverse t = jobsI lo b w js t := by
  unfold jobsI
  rw [List.map_reverse, sum_rev]
theorem okE.rev {b : EBook} (h : okE b) : okE (revE b) := by
  obtain ⟨h1, h2, h3, h4, h5⟩ := h
  exact ⟨h1, by simpa [revE] using h2, h3, fun j hj => h4 j (by simpa [revE] using hj), h5⟩
theorem rev_known (b : EBook) : known (revE b) = known b := known_same rfl (by
  refine Nat.eq_of_testBit_eq fun i => ?_
  unfold mendS revE
  rw [fold_or2, fold_or2, List.any_reverse])
theorem rev_out (lo : Bool) (b : EBook) (w : Nat) : outI lo (revE b) w (revE b).jobs = outI lo b w b.jobs := (outI_eq (rev_known b) fun t _ => (jobs_rev lo b w b.jobs t).symm).symm
theorem rev_one (lo : Bool) (b : EBook) (w : Nat) (j : Job) : outI lo (revE b) w [j] = outI lo b w [j] := (outI_eq (rev_known b) fun _ _ => rfl).symm
theorem rev_job {b : EBook} {k : Nat} (h : k < b.jobs.length) : jobN (revE b) (b.jobs.length - 1 - k) = jobN b k := by
  have h2 : b.jobs.length - 1 - k < (revE b).jobs.length := by simp [revE]; omega
  rw [← jobN_get h2, ← jobN_get h]
  simp only [revE, List.getElem_reverse]
  congr 1
  omega
theorem costs_rev (b : EBook) (t : Nat × Nat) : ∀ (js : List Job) (cs : List Int), CostsOk (revE b) t js cs ↔ CostsOk b t js cs
  | [], [] => Iff.rfl
  | [], _ :: _ => Iff.rfl
  | _ :: _, [] => Iff.rfl
  | _ :: js, _ :: cs => and_congr Iff.rfl (costs_rev b t js cs)
theorem costs_app {b : EBook} {t : Nat × Nat} {j : Job} {c : Int} (h : CostsOk b t [j] [c]) : ∀ (js : List Job) (cs : List Int), CostsOk b t js cs → CostsOk b t (js ++ [j]) (cs ++ [c]) ∧ paidL (js ++ [j]) (cs ++ [c]) = paidL js cs + paidI j c
  | [], [], _ => ⟨h, by simp [paidL]⟩
  | [], _ :: _, h => absurd h (by simp [CostsOk])
  | _ :: _, [], h => absurd h (by simp [CostsOk])
  | i :: js, d :: cs, ⟨h1, h2⟩ => by
    obtain ⟨h3, h4⟩ := costs_app h js cs h2
    refine ⟨⟨h1, h3⟩, ?_⟩
    simp only [List.cons_append, paidL, h4]
    omega
theorem costs_turn {b : EBook} {t : Nat × Nat} : ∀ (js : List Job) (cs : List Int), CostsOk b t js cs → CostsOk b t js.reverse cs.reverse ∧ paidL js.reverse cs.reverse = paidL js cs
  | [], [], _ => ⟨trivial, rfl⟩
  | [], _ :: _, h => absurd h (by simp [CostsOk])
  | _ :: _, [], h => absurd h (by simp [CostsOk])
  | j :: js, c :: cs, ⟨h1, h2⟩ => by
    obtain ⟨h3, h4⟩ := costs_turn js cs h2
    obtain ⟨h5, h6⟩ := costs_app (show CostsOk b t [j] [c] from ⟨h1, trivial⟩) _ _ h3
    rw [List.reverse_cons, List.reverse_cons]
    refine ⟨h5, ?_⟩
    rw [h6, h4]
    simp only [paidL]
    omega
theorem rev_can {b : EBook} (ho : okE b) (p : Int) (t : Nat × Nat) : canP (revE b) p t = canP b p t := by
  have hr := ho.rate0
  have hs : ∀ j ∈ b.jobs, j.hl ≤ j.hh ∧ j.pl ≤ j.ph := fun j hj => ho.span hj
  have hs2 : ∀ j ∈ (revE b).jobs, j.hl ≤ j.hh ∧ j.pl ≤ j.ph := fun j hj => ho.span (by simpa [revE] using hj)
  rw [Bool.eq_iff_iff]
  unfold canP
  rw [can_iff (b := revE b) hr _ _ _ (Int.le_refl _) hs2, can_iff hr _ _ _ (Int.le_refl _) hs]
  constructor
  · rintro ⟨x, cs, h1, h2, h3, h4⟩
    obtain ⟨h5, h6⟩ := costs_turn _ _ ((costs_rev b t _ _).1 h3)
    exact ⟨x, cs.reverse, h1, h2, by simpa [revE] using h5, by rw [h4, ← h6]; simp [revE]⟩
  · rintro ⟨x, cs, h1, h2, h3, h4⟩
    obtain ⟨h5, h6⟩ := costs_turn _ _ h3
    exact ⟨x, cs.reverse, h1, h2, (costs_rev b t _ _).2 h5, by rw [h4, ← h6]; rfl⟩
theorem rev_whose {b : EBook} (ho : okE b) (p : Int) : whoseL (revE b) p = whoseL b p := by
  unfold whoseL
  rw [rev_known, show canP (revE b) p = canP b p from funext fun t => rev_can ho p t]
theorem swap_facts (κ κ2 : KS) {b : EBook} (ho : okE b) {k : Nat} (hk : k < b.jobs.length) (p : Int) : ∃ (j1 j2 b1 b2 l1 l2 e : Int) (W : List Int),
    Sem1 19 [.agg (ebC κ b), pi k] (.tup [psp j1 j2, pi e]) ∧ Sem1 19 [.agg (ebC κ2 (revE b)), pi ((b.jobs.length - 1 - k : Nat) : Int)] (.tup [psp j1 j2, pi e]) ∧
    Sem1 30 [.agg (ebC κ b)] (.tup [psp b1 b2, pi e]) ∧ Sem1 30 [.agg (ebC κ2 (revE b))] (.tup [psp b1 b2, pi e]) ∧
    Sem1 23 [.agg (ebC κ b)] (.tup [psp l1 l2, pi e]) ∧ Sem1 23 [.agg (ebC κ2 (revE b))] (.tup [psp l1 l2, pi e]) ∧
    Sem1 34 [.agg (ebC κ b), pi p] (.tup [pis W, pi e]) ∧ Sem1 34 [.agg (ebC κ2 (revE b)), pi p] (.tup [pis W, pi e]) := by
  have hk2 : b.jobs.length - 1 - k < (revE b).jobs.length := by simp [revE]; omega
  by_cases hw : whoL b.mb = []
  · have hF := errF_no ho hw
    have hF2 := errF_no ho.rev (show whoL (revE b).mb = [] from hw)
    exact ⟨0, 0, 0, 0, 0, 0, 82, [], Job_no κ hF hk, Job_no κ2 hF2 hk2, Bill_no κ hF, Bill_no κ2 hF2, Loss_no κ hF, Loss_no κ2 hF2, Whose_no κ hF p, Whose_no κ2 hF2 p⟩
  · have hF := errF_of ho hw
    have hF2 := errF_of ho.rev (show whoL (revE b).mb ≠ [] from hw)
    have h1 := Job_ok κ2 hF2 hk2
    have h2 := Bill_ok κ2 hF2
    have h3 := Loss_ok κ2 hF2
    have h4 := Whose_ok κ2 hF2 p
    rw [rev_job hk] at h1
    unfold spanP at h1 h2 h3
    rw [rev_one, rev_one] at h1
    rw [rev_out, rev_out] at h2 h3
    rw [rev_whose ho] at h4
    exact ⟨_, _, _, _, _, _, 0, _, Job_ok κ hF hk, h1, Bill_ok κ hF, h2, Loss_ok κ hF, h3, Whose_ok κ hF p, h4⟩
theorem Swap_law (κ : KS) (b : EBook) (n0 n1 : Int) : Sem1 14 [.agg (ebC κ b), .agg [pi n0, pi n1]] (pb true) := by
  by_cases ho : okE b
  rotate_left
  · refine semC_of_exec' mixed Tryz.func14 (by kernel_rfl) (by kernel_rfl) ac14_ok 2 rfl (by decide) [(.tmp 4)] (by kernel_rfl) ?_
    intro hr C hC hI
    unfold ac14
    simp only [go_sem, Nat.reduceBEq, Nat.reduceAdd]
    refine call_pure2 hC (sound_sem κ b) rfl (PVleL_refl _) ?_
    rintro r rfl
    simp only [go_sem, Nat.reduceBEq, decide_eq_false ho]
    refine call_pure2 hC (exs_sem) rfl (PVleL_refl _) ?_
    rintro r rfl
    simp only [go_sem, Nat.reduceBEq]
    exact retQ_one rfl rfl
  have hl4 := ho.2.1.2
  have hl1 := ho.2.1.1
  obtain ⟨k, ek, hk⟩ := rnd_job ho n0
  obtain ⟨j1, j2, b1, b2, l1, l2, e, W, c1, c2, c3, c4, c5, c6, c7, c8⟩ := swap_facts κ { κ with c := .sh } ho hk n1
  obtain ⟨R, hR⟩ : ∃ R, b.jobs.reverse = R := ⟨_, rfl⟩
  have hRl : R.length = b.jobs.length := by rw [← hR]; simp
  refine semC_of_exec' mixed Tryz.func14 (by kernel_rfl) (by kernel_rfl) ac14_ok 2 rfl (by decide) [(.tmp 4)] (by kernel_rfl) ?_
  intro hr C hC hI
  unfold ac14
  simp only [go_sem, Nat.reduceBEq, Nat.reduceAdd]
  refine call_pure2 hC (sound_sem κ b) rfl (PVleL_refl _) ?_
  rintro r rfl
  simp only [go_sem, Nat.reduceBEq, Nat.reduceAdd, Nat.reduceLeDiff, Nat.reduceEqDiff, decide_eq_true ho, putCells, List.length_map, wrap_id (n := (b.jobs.length : Int) - 1) (by omega) (by omega), Bool.false_eq_true, not_false_eq_true]
  refine loop_g (α := Nat × Option Nat) (fun a => a.1 ≤ b.jobs.length ∧ (a.2 = none → jobsC (R.take a.1) = [])) (fun a => b.jobs.length - a.1) [2, 3, 5, 6] (fun a => [(7, .p (pi ((b.jobs.length : Int) - 1 - a.1)))]) (fun a => [.cells ((ebC κ b).map .p), .cells [.p (pi n0), .p (pi n1)], .cells [.p (.sl κ.a 1 (rowsC b.mb.makers)), .p (.sl κ.b 2 (seenC b.mb.seen)), .p (pi b.mb.repairs), .p (pi b.mb.fixed), .p (slZ 55 6 a.2 (jobsC (R.take a.1))), .p (pi b.rate), .p (.sl κ.d 1 (b.extra.map fun x => [pi x])), .p (.sl κ.e 1 (b.coins.map fun x => [pi x]))]]) (fun a => a.2.toList) (0, none) ⟨by omega, fun _ => by simp⟩ (by simp [Wk, wkT, wkL, look, AV.lo, AV.lo.loL, ABlk.toZ, upS_eq, keepS_nil, keepS_cons, slZ]) ?_
  rintro ⟨i, o⟩ ⟨hi, h0⟩
  replace hi : i ≤ b.jobs.length := hi
  replace h0 : o = none → jobsC (R.take i) = [] := h0
  simp only [go_sem, Nat.reduceBEq]
  refine ⟨fun d5 => ?_, fun d5 => ?_⟩
  · have hi2 : i < b.jobs.length := by omega
    obtain ⟨q, hq⟩ : ∃ q : Nat, b.jobs.length - 1 - i = q := ⟨_, rfl⟩
    have hqi : (b.jobs.length : Int) - 1 - i = (q : Int) := by omega
    have hq2 : q < b.jobs.length := by omega
    have eq := iadr_map (f := jobC) (kd := κ.c) (sz := 6) hq2
    have hRi : i < R.length := by omega
    have hRq : R[i] = b.jobs[q] := by subst hR; rw [List.getElem_reverse]; congr 1
    have hnx : jobsC (R.take (i + 1)) = jobsC (R.take i) ++ [jobC b.jobs[q]] := by
      rw [List.take_succ_eq_append_getElem hRi, hRq]
      simp
    simp only [go_sem, Nat.reduceBEq, Nat.reduceAdd, hqi, eq, putCells]
    refine app_slZ h0 (by rw [List.length_map, List.length_take]; omega) (by simp) fun tk htk => ?_
    have hw7 : IntKind.i64.wrap ((q : Int) - 1) = (b.jobs.length : Int) - 1 - ((i + 1 : Nat) : Int) := by rw [wrap_id (by omega) (by omega)]; omega
    simp only [go_sem, Nat.reduceBEq]
    refine ⟨.inl rfl, by simp, ?_⟩
    simp only [go_sem, Nat.reduceBEq, Nat.reduceAdd, putCells, hw7]
    refine ⟨⟨(i + 1, some tk), hi2, (fun h => by cases h)⟩, by simp only; omega, ?_⟩
    simp only [hnx]
    refine ⟨by simp [wkT, look, AV.lo], by simp [wkL, AV.lo, AV.lo.loL, ABlk.toZ], by simp, by simp, rfl, rfl, by simp⟩
  · have hin : i = b.jobs.length := by omega
    subst hin
    have hRt : R.take b.jobs.length = R := by rw [← hRl, List.take_length]
    rw [hRt] at h0 ⊢
    cases o with
    | none =>
      have h1 := h0 rfl
      have h2 : R = [] := by simpa using h1
      rw [h2] at hRl
      simp at hRl
      omega
    | some t =>
      have hle : PVle (.agg [.sl κ.a 1 (rowsC b.mb.makers), .sl κ.b 2 (seenC b.mb.seen), pi b.mb.repairs, pi b.mb.fixed, slZ 55 6 (some t) (jobsC R), pi b.rate, .sl κ.d 1 (b.extra.map fun x => [pi x]), .sl κ.e 1 (b.coins.map fun x => [pi x])]) (.agg (ebC { κ with c := .sh } (revE b))) := by
        subst hR
        exact PVle.agg (show PVleL [_, _, _, _, _, _, _, _] [_, _, _, _, _, _, _, _] from ⟨PVle.refl _, PVle.refl _, PVle.refl _, PVle.refl _, PVle.sh _ _ _, PVle.refl _, PVle.refl _, PVle.refl _, trivial⟩)
      have hkn : IntKind.i64.wrap ((b.jobs.length : Int) - 1 - k) = ((b.jobs.length - 1 - k : Nat) : Int) := by rw [wrap_id (by omega) (by omega)]; omega
      refine call_pure2 hC (Round_sem n0 (b.jobs.length : Int)) rfl (PVleL_refl _) ?_
      rintro r rfl
      simp only [go_sem, Nat.reduceBEq, Nat.reduceAdd, ek]
      refine call_pure2 hC (c1) rfl (PVleL_refl _) ?_
      rintro r rfl
      simp only [go_sem, Nat.reduceBEq, Nat.reduceAdd, putCells, wrap_id (n := (b.jobs.length : Int) - 1) (by omega) (by omega), hkn]
      refine call_pure2 hC c2 rfl ⟨hle, PVle.refl _, trivial⟩ ?_
      rintro _ rfl
      simp only [go_sem, Nat.reduceBEq, Nat.reduceAdd, putCells, decide_true, decide_false, not_true_eq_false, Bool.true_and, Bool.not_true, not_false_eq_true]
      refine call_pure2 hC (c3) rfl (PVleL_refl _) ?_
      rintro r rfl
      simp only [go_sem, Nat.reduceBEq, Nat.reduceAdd, putCells]
      refine call_pure2 hC c4 rfl ⟨hle, trivial⟩ ?_
      rintro _ rfl
      simp only [go_sem, Nat.reduceBEq, Nat.reduceAdd, putCells, not_false_eq_true]
      refine call_pure2 hC (c5) rfl (PVleL_refl _) ?_
      rintro r rfl
      simp only [go_sem, Nat.reduceBEq, Nat.reduceAdd, putCells]
      refine call_pure2 hC c6 rfl ⟨hle, trivial⟩ ?_
      rintro _ rfl
      simp only [go_sem, Nat.reduceBEq, Nat.reduceAdd, putCells, decide_true, decide_false, not_true_eq_false, Bool.true_and, Bool.not_true, not_false_eq_true]
      refine call_pure2 hC (c7) rfl (PVleL_refl _) ?_
      rintro r rfl
      simp only [go_sem, Nat.reduceBEq, Nat.reduceAdd]
      refine call_pure2 hC c8 rfl ⟨hle, PVle.refl _, trivial⟩ ?_
      rintro _ rfl
      simp only [go_sem, Nat.reduceBEq]
      refine call_pure2 hC (Equal_sem W W) rfl (PVleL_refl _) ?_
      rintro r rfl
      simp only [go_sem, Nat.reduceBEq, decide_true]
      refine call_pure2 hC (exs_sem) rfl (PVleL_refl _) ?_
      rintro r rfl
      simp only [go_sem, Nat.reduceBEq]
      exact retQ_one rfl rfl
set_option maxRecDepth 100000 in
theorem Swap_row {l0 l1 : List PV} (T0 : Ty Tryz.prog 10 29 l0) (T1 : Ty Tryz.prog 10 47 l1) : SemC Tryz.prog 14 [argPV Tryz.prog 29 l0, argPV Tryz.prog 47 l1] (fun r => r = pb true) := by
  obtain ⟨b, rfl⟩ := ty_ebook T0
  obtain ⟨n0, n1, rfl⟩ := ty_two T1
  rw [argStruct Tryz.underlying29, argArray Tryz.underlying47]
  exact Swap_law shK b n0 n1
end Go.Proofs.YtefehlekneahmaaGreat.Mk.Me
namespace Go.Proofs.YtefehlekneahmaaGreat
open Go.Proofs.YtefehlekneahmaaGreat Go.ChangeShapes Go.WideShapes Go.ChangeAt Go.RowKit Go.Deep

set_option maxRecDepth 100000 in
theorem mendSwap_lifted (os : Os) (started : os.Started) (H : Type) (enc : TypeId × Value → H) :
    ReturnsInHanded {} Tryz.checked os 14 .any (Rows.mendSwapSpec.pre6 enc Tryz.prog Tryz.f14 Rows.mendSwapRow.domain false) (Rows.mendSwapSpec.post enc Tryz.prog Tryz.f14 false true false false) := by
  refine returnsInHanded_of_change_sized (C := Tryz.checked) ownKnobs started (by kernel_rfl) Tryz.func14
    (ChangeSpec.witness6 (enc := enc) (C := Tryz.checked) false ⟨#[], #[.agg #[.slice none 0 0, .slice none 0 0, .int .i64 0, .int .i64 0, .slice none 0 0, .int .i64 0, .slice none 0 0, .slice none 0 0], .agg #[.int .i64 0, .int .i64 0]], []⟩ 8 (by kernel_rfl) (by kernel_rfl) (by kernel_rfl) (by kernel_rfl)) ?_
  intro W base args ds gs before hval0 hW hcnd hsz0 _
  have hval : ∀ (j : Nat) t v, Tryz.f14.params[j]? = some t → args[j]? = some v → Value.okWide Tryz.prog W .any base t v := hval0
  have hsz : (DataW.weightsEach Tryz.prog (Tryz.f14.params.toList ++ Rows.mendSwapSpec.plain.varTypes Tryz.prog) (ds ++ gs)).all (· ≤ reachBytes) = true := hsz0
  have hW' := hW
  obtain ⟨p, q, hA0, hV, rfl, hfz, hnd⟩ := hW
  have hA : DataW.TrodAll enc Tryz.prog W 0 (fun _ => true) true Tryz.f14.params.toList args.toList ds p := hA0
  rw [Tryz.params14] at hA hval hsz
  obtain ⟨v0, vs0, d0, ds0, p0, q0, hargs, rfl, rfl, h0, r0⟩ := trodAll_cons hA
  obtain ⟨v1, vs1, d1, ds1, p1, q1, rfl, rfl, rfl, h1, r1⟩ := trodAll_cons r0
  obtain ⟨rfl, rfl, rfl⟩ := trodAll_nil r1
  obtain rfl : args = #[v0, v1] := by cases args; simp_all
  obtain ⟨rfl, rfl⟩ := trodVars_none hV
  have lt0 : ∀ x ∈ p0, x.block < W.heap.size := by obtain ⟨m, hm⟩ := h0; exact DataW.trod_lt m _ _ _ hm
  have lt1 : ∀ x ∈ p1, x.block < W.heap.size := by obtain ⟨m, hm⟩ := h1; exact DataW.trod_lt m _ _ _ hm
  have z0 : SizedP Tryz.prog 29 d0 := sizedP_each hsz (j := 0) rfl rfl
  obtain ⟨l0, T0, R0⟩ := rd_arg 10 (by kernel_rfl) (hval 0 29 v0 rfl rfl) h0 z0
  have z1 : SizedP Tryz.prog 47 d1 := sizedP_each hsz (j := 1) rfl rfl
  obtain ⟨l1, T1, R1⟩ := rd_arg 10 (by kernel_rfl) (hval 1 47 v1 rfl rfl) h1 z1
  clear hA0 hval0 hsz0
  refine (law_calls (Mk.Me.Swap_row T0 T1) (argsP_cons R0 (argsP_cons R1 argsP_nil))).mono fun e W' ⟨he, bel⟩ => ?_
  subst he
  exact ⟨_, rfl, _, _, _, [], _, [], hW', trodAll_mk1 (shut_bool Tryz.underlying4 _), (trodAll_cons_mk (Below.trod laidOut (by kernel_rfl) (of_decide_eq_true (by kernel_rfl)) h0 bel lt0) (trodAll_cons_mk (Below.trod laidOut (by kernel_rfl) (of_decide_eq_true (by kernel_rfl)) h1 bel lt1) trodAll_mk0)), rfl, bel.frame _, fun h => by cases h⟩

theorem mendSwap_joined : joinedFacts Tryz.prog 14 Tryz.f14 Rows.mendSwapSpec Rows.mendSwapRow = true := by
  simp only [joinedFacts, Bool.and_eq_true]
  repeat' apply And.intro
  all_goals first | with_reducible exact laidOut | with_reducible exact mapsR | with_reducible exact stopsH | with_reducible exact mayE | (rw [lift0]; kernel_rfl) | (rw [make0]; kernel_rfl) | kernel_rfl

theorem mendSwap_holds : Rows.MendSwapSaid :=
  OpenClaim.holds_of_wide 14 Tryz.f14 rfl rfl rfl rfl rfl rfl rfl ⟨rfl, rfl, rfl, rfl, rfl⟩ rfl rfl rfl rfl rfl (by kernel_rfl) Tryz.func14 mendSwap_joined
    (of_decide_eq_true (by kernel_rfl)) (by unfold Func.isWrapper; first | (rw [if_pos (by decide +kernel)]; kernel_rfl) | (rw [if_neg (by decide +kernel)]; exact ⟨rfl, rfl⟩))
    (fun os started H enc _ => mendSwap_lifted os started H enc)
end Go.Proofs.YtefehlekneahmaaGreat
