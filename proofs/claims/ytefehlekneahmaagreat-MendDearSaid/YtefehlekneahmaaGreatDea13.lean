/- MendDear returns true for everything that it is asked; no condition. MendDear. Contracts of mend: what is asked of a sound book. -/
import Derived.Test.YtefehlekneahmaaGreatDea12
import Derived.Test.YtefehlekneahmaaGreatGa18
namespace Go.Proofs.YtefehlekneahmaaGreat.Mk.Me
open Go.RowKit Ls
theorem okN_of {b : EBook} {k : Nat} (h : k < b.jobs.length) : okN b (k : Int) = true := decide_eq_true (by omega)
theorem rnd_job {b : EBook} (h : okE b) (n : Int) : ∃ k : Nat, rndI n (b.jobs.length : Int) = k ∧ k < b.jobs.length := by
  have h1 := h.2.1.1
  have h2 := rndI_range (n := n) (m := (b.jobs.length : Int)) (by omega)
  exact ⟨(rndI n (b.jobs.length : Int)).toNat, by omega, by omega⟩
theorem errF_no {b : EBook} (ho : okE b) (hw : whoL b.mb = []) : errF b true = 82 := by
  unfold errF
  rw [if_pos ho, if_pos rfl, if_pos hw]
section
variable (κ : KS) {b : EBook}
theorem Job_ok (h : errF b true = 0) {k : Nat} (hk : k < b.jobs.length) : Sem1 19 [.agg (ebC κ b), pi k] (.tup [spanP b 0 [jobN b k], pi 0]) := by
  have := Job_sem κ b (k : Int)
  rwa [okN_of hk, if_pos h, Int.toNat_natCast] at this
theorem Job_no (h : errF b true = 82) {k : Nat} (hk : k < b.jobs.length) : Sem1 19 [.agg (ebC κ b), pi k] (.tup [.agg [pi 0, pi 0], pi 82]) := by
  have := Job_sem κ b (k : Int)
  rwa [okN_of hk, h, if_neg (by decide)] at this
theorem Raise_ok (h : errF b true = 0) {k : Nat} (hk : k < b.jobs.length) : Sem1 27 [.agg (ebC κ b), pi k] (.tup [pi (lossI b (jobN b k)), pi 0]) := by
  have := Raise_sem κ b (k : Int)
  rwa [okN_of hk, if_pos h, Int.toNat_natCast] at this
theorem Raise_no (h : errF b true = 82) {k : Nat} (hk : k < b.jobs.length) : Sem1 27 [.agg (ebC κ b), pi k] (.tup [pi 0, pi 82]) := by
  have := Raise_sem κ b (k : Int)
  rwa [okN_of hk, h, if_neg (by decide)] at this
theorem Bill_ok (h : errF b true = 0) : Sem1 30 [.agg (ebC κ b)] (.tup [spanP b 1 b.jobs, pi 0]) := by
  have := Bill_sem κ b
  rwa [if_pos h] at this
theorem Bill_no (h : errF b true = 82) : Sem1 30 [.agg (ebC κ b)] (.tup [.agg [pi 0, pi 0], pi 82]) := by
  have := Bill_sem κ b
  rwa [h, if_neg (by decide)] at this
theorem Loss_ok (h : errF b true = 0) : Sem1 23 [.agg (ebC κ b)] (.tup [spanP b 2 b.jobs, pi 0]) := by
  have := Loss_sem κ b
  rwa [if_pos h] at this
theorem Loss_no (h : errF b true = 82) : Sem1 23 [.agg (ebC κ b)] (.tup [.agg [pi 0, pi 0], pi 82]) := by
  have := Loss_sem κ b
  rwa [h, if_neg (by decide)] at this
theorem Dear_ok (h : errF b true = 0) : Sem1 25 [.agg (ebC κ b)] (dearE b) := by
  have := Dear_sem κ b
  rwa [if_pos h] at this
theorem Dear_no (h : errF b true = 82) : Sem1 25 [.agg (ebC κ b)] (.tup [pi 0, pi 82]) := by
  have := Dear_sem κ b
  rwa [h, if_neg (by decide)] at this
theorem Whose_ok (h : errF b true = 0) (pence : Int) : Sem1 34 [.agg (ebC κ b), pi pence] (.tup [pis (natL (whoseL b pence)), pi 0]) := by
  have := Whose_sem κ b pence
  rwa [if_pos h] at this
theorem Whose_no (h : errF b true = 82) (pence : Int) : Sem1 34 [.agg (ebC κ b), pi pence] (.tup [pis [], pi 82]) := by
  have := Whose_sem κ b pence
  rwa [h, if_neg (by decide)] at this
theorem Can_ok (h : errF b true = 0) (pence : Int) : Sem1 32 [.agg (ebC κ b), pi pence] (.tup [pb (decide (whoseL b pence ≠ [])), pi 0]) := by
  have := Can_sem κ b pence
  rwa [if_pos h] at this
theorem Can_no (h : errF b true = 82) (pence : Int) : Sem1 32 [.agg (ebC κ b), pi pence] (.tup [pb false, pi 82]) := by
  have := Can_sem κ b pence
  rwa [h, if_neg (by decide)] at this
end
theorem lossN_eq {b : EBook} {k : Nat} (h : k < b.jobs.length) : lossN b k = lossI b (jobN b k) := by
  unfold lossN
  rw [List.getElem?_eq_getElem h, jobN_get h]
theorem one_sum (lo : Bool) (b : EBook) (w : Nat) (j : Job) (t : Nat × Nat) : jobsI lo b w [j] t = eachI lo b w t j := by
  unfold jobsI
  rw [List.map_cons, List.map_nil, sum_cons]
  simp [sumI]
theorem loss_nn {b : EBook} (ho : okE b) (hne : known b ≠ []) {k : Nat} (hk : k < b.jobs.length) : 0 ≤ lossI b (jobN b k) ∧ lossI b (jobN b k) ≤ 549 := by
  have := out_bound ho hne (one_ok ho hk) false 2
  simpa [lossI] using this
theorem loss_le {b : EBook} (ho : okE b) (hne : known b ≠ []) {k : Nat} (hk : k < b.jobs.length) : lossI b (jobN b k) ≤ outI false b 2 b.jobs := by
  obtain ⟨⟨t, ht, h1⟩, -⟩ := high_facts hne 2 [jobN b k]
  have h2 := (high_facts hne 2 b.jobs).2 t ht
  have h3 := sum_mem (f := eachI false b 2 t) (jobN_mem hk) fun y hy => (each_bound ho (ho.2.2.2.1 y hy) false 2 t).1
  rw [one_sum] at h1
  unfold lossI
  unfold jobsI at h2
  omega
theorem sum_zero {α : Type} {f : α → Int} : ∀ {l : List α}, (∀ y ∈ l, f y = 0) → sumI (l.map f) = 0
  | [], _ => rfl
  | y :: l, h => by rw [List.map_cons, sum_cons, h y (List.mem_cons_self ..), sum_zero fun z hz => h z (List.mem_cons_of_mem _ hz)]; rfl
theorem loss_all {b : EBook} (ho : okE b) (hne : known b ≠ []) (h : ∀ k, k < b.jobs.length → lossI b (jobN b k) = 0) : outI true b 2 b.jobs = 0 ∧ outI false b 2 b.jobs = 0 := by
  have key : ∀ t ∈ known b, jobsI false b 2 b.jobs t = 0 := fun t ht => sum_zero fun j hj => by
    obtain ⟨k, hk, e⟩ := List.mem_iff_getElem.1 hj
    have h1 := h k hk
    rw [← jobN_get hk, e] at h1
    have h2 := (high_facts hne 2 [j]).2 t ht
    rw [one_sum] at h2
    have h3 := (each_bound ho (ho.2.2.2.1 j hj) false 2 t).1
    unfold lossI at h1
    omega
  obtain ⟨⟨t, ht, h1⟩, -⟩ := high_facts hne 2 b.jobs
  have h2 := key t ht
  have h3 := ends_le ho.rate0 hne (js := b.jobs) (fun j hj => ho.span hj) 2
  have h4 := (out_bound ho hne ho.2.2.2.1 true 2).1
  omega
end Go.Proofs.YtefehlekneahmaaGreat.Mk.Me
namespace Go.Proofs.YtefehlekneahmaaGreat.Mk.Me
open Go.RowKit Ls
def ac10 : AC := (AC.seq (AC.ops [(AOp.mk (some 2) (AK.box 8 (AX.t 0)) none 0 false true), (AOp.mk (some 4) (AK.mv (AX.c (PV.val (Value.bool false)))) none 1 false true)]) (AC.seq (AC.seq (AC.ops [(AOp.mk (some 14) (AK.ld (some 8) (AX.t 2)) none 0 false true), (AOp.mk (some 15) (AK.call 39 [(AX.t 14)]) none 1 false true), (AOp.mk (some 16) (AK.un UnOp.not (AX.t 15)) none 2 false true)]) (AC.cond (AX.t 16) (AC.seq (AC.ops [(AOp.mk (some 17) (AK.call 29 []) none 0 false true), (AOp.mk (some 4) (AK.mv (AX.t 17)) none 1 false true)]) AC.ret) AC.skip)) (AC.seq (AC.ops [(AOp.mk (some 19) (AK.ld (some 8) (AX.t 2)) none 0 false true), (AOp.mk (some 20) (AK.call 25 [(AX.t 19)]) none 1 false true), (AOp.mk (some 18) (AK.mv (AX.t 20)) none 2 false true), (AOp.mk (some 21) (AK.ext (AX.t 18) 0) none 3 false true), (AOp.mk (some 22) (AK.ext (AX.t 18) 1) none 4 false true), (AOp.mk (some 5) (AK.mv (AX.t 21)) none 5 false true), (AOp.mk (some 6) (AK.mv (AX.t 22)) none 6 false true)]) (AC.seq (AC.ops [(AOp.mk (some 24) (AK.ld (some 8) (AX.t 2)) none 0 false true), (AOp.mk (some 25) (AK.call 23 [(AX.t 24)]) none 1 false true), (AOp.mk (some 23) (AK.mv (AX.t 25)) none 2 false true), (AOp.mk (some 26) (AK.ext (AX.t 23) 0) none 3 false true), (AOp.mk (some 27) (AK.ext (AX.t 23) 1) none 4 false true), (AOp.mk (some 7) (AK.new (PV.agg [(PV.val (Value.int IntKind.i64 0)), (PV.val (Value.int IntKind.i64 0))])) none 5 false true), (AOp.mk none (AK.st 2 (AX.t 7) (AX.t 26)) none 6 false true), (AOp.mk (some 8) (AK.mv (AX.t 27)) none 7 false true)]) (AC.seq (AC.ops [(AOp.mk (some 28) (AK.mv (AX.t 1)) none 0 false true), (AOp.mk (some 29) (AK.fadr 4 (AX.t 2)) none 1 false true), (AOp.mk (some 30) (AK.ld none (AX.t 29)) none 2 false true), (AOp.mk (some 31) (AK.len (AX.t 30)) none 3 false true), (AOp.mk (some 32) (AK.call 48 [(AX.t 28), (AX.t 31)]) none 4 false true), (AOp.mk (some 9) (AK.mv (AX.t 32)) none 5 false true)]) (AC.seq (AC.ops [(AOp.mk (some 34) (AK.ld (some 8) (AX.t 2)) none 0 false true), (AOp.mk (some 35) (AK.mv (AX.t 9)) none 1 false true), (AOp.mk (some 36) (AK.call 27 [(AX.t 34), (AX.t 35)]) none 2 false true), (AOp.mk (some 33) (AK.mv (AX.t 36)) none 3 false true), (AOp.mk (some 37) (AK.ext (AX.t 33) 0) none 4 false true), (AOp.mk (some 38) (AK.ext (AX.t 33) 1) none 5 false true), (AOp.mk (some 10) (AK.mv (AX.t 37)) none 6 false true), (AOp.mk (some 11) (AK.mv (AX.t 38)) none 7 false true)]) (AC.seq (AC.seq (AC.ops [(AOp.mk (some 39) (AK.mv (AX.t 8)) none 0 false true), (AOp.mk (some 40) (AK.bin false BinOp.neq (AX.t 39) (AX.c (PV.val (Value.int IntKind.i64 0)))) none 1 false true)]) (AC.cond (AX.t 40) (AC.seq (AC.ops [(AOp.mk (some 41) (AK.mv (AX.t 8)) none 0 false true), (AOp.mk (some 42) (AK.bin false BinOp.eql (AX.t 41) (AX.c (PV.val (Value.int IntKind.i64 82)))) none 1 false true), (AOp.mk (some 43) (AK.mv (AX.t 42)) none 2 false true), (AOp.mk (some 44) (AK.mv (AX.t 6)) (some (43, true)) 3 false true), (AOp.mk (some 45) (AK.mv (AX.t 8)) (some (43, true)) 4 false true), (AOp.mk (some 46) (AK.bin false BinOp.eql (AX.t 44) (AX.t 45)) (some (43, true)) 5 false true), (AOp.mk (some 47) (AK.pick (AX.t 43) (AX.t 46) (AX.c (PV.val (Value.bool false)))) none 6 false true), (AOp.mk (some 48) (AK.mv (AX.t 47)) none 7 false true), (AOp.mk (some 49) (AK.mv (AX.t 11)) (some (48, true)) 8 false true), (AOp.mk (some 50) (AK.mv (AX.t 8)) (some (48, true)) 9 false true), (AOp.mk (some 51) (AK.bin false BinOp.eql (AX.t 49) (AX.t 50)) (some (48, true)) 10 false true), (AOp.mk (some 52) (AK.pick (AX.t 48) (AX.t 51) (AX.c (PV.val (Value.bool false)))) none 11 false true), (AOp.mk (some 53) (AK.mv (AX.t 52)) none 12 false true), (AOp.mk (some 54) (AK.call 29 []) (some (53, true)) 13 false true), (AOp.mk (some 55) (AK.pick (AX.t 53) (AX.t 54) (AX.c (PV.val (Value.bool false)))) none 14 false true), (AOp.mk (some 4) (AK.mv (AX.t 55)) none 15 false true)]) AC.ret) AC.skip)) (AC.seq (AC.seq (AC.ops [(AOp.mk (some 56) (AK.mv (AX.t 6)) none 0 false true), (AOp.mk (some 57) (AK.bin false BinOp.neq (AX.t 56) (AX.c (PV.val (Value.int IntKind.i64 0)))) none 1 false true)]) (AC.cond (AX.t 57) (AC.seq (AC.ops [(AOp.mk (some 58) (AK.mv (AX.t 6)) none 0 true true), (AOp.mk (some 59) (AK.bin false BinOp.eql (AX.t 58) (AX.c (PV.val (Value.int IntKind.i64 4)))) none 1 true true), (AOp.mk (some 60) (AK.mv (AX.t 59)) none 2 true true), (AOp.mk (some 61) (AK.mv (AX.t 5)) (some (60, true)) 3 true true), (AOp.mk (some 62) (AK.bin false BinOp.eql (AX.t 61) (AX.c (PV.val (Value.int IntKind.i64 0)))) (some (60, true)) 4 true true), (AOp.mk (some 63) (AK.pick (AX.t 60) (AX.t 62) (AX.c (PV.val (Value.bool false)))) none 5 true true), (AOp.mk (some 64) (AK.mv (AX.t 63)) none 6 true true), (AOp.mk (some 65) (AK.mv (AX.t 11)) (some (64, true)) 7 true true), (AOp.mk (some 66) (AK.bin false BinOp.eql (AX.t 65) (AX.c (PV.val (Value.int IntKind.i64 0)))) (some (64, true)) 8 true true), (AOp.mk (some 67) (AK.pick (AX.t 64) (AX.t 66) (AX.c (PV.val (Value.bool false)))) none 9 true true), (AOp.mk (some 68) (AK.mv (AX.t 67)) none 10 true true), (AOp.mk (some 69) (AK.mv (AX.t 10)) (some (68, true)) 11 true true), (AOp.mk (some 70) (AK.bin false BinOp.eql (AX.t 69) (AX.c (PV.val (Value.int IntKind.i64 0)))) (some (68, true)) 12 true true), (AOp.mk (some 71) (AK.pick (AX.t 68) (AX.t 70) (AX.c (PV.val (Value.bool false)))) none 13 true true), (AOp.mk (some 72) (AK.mv (AX.t 71)) none 14 true true), (AOp.mk (some 73) (AK.ld (some 2) (AX.t 7)) (some (72, true)) 15 true false), (AOp.mk (some 74) (AK.call 51 [(AX.c (PV.val (Value.int IntKind.i64 0)))]) (some (72, true)) 16 false false), (AOp.mk (some 75) (AK.eqs [CK.i, CK.i] false (AX.t 73) (AX.t 74)) (some (72, true)) 17 true true), (AOp.mk (some 76) (AK.pick (AX.t 72) (AX.t 75) (AX.c (PV.val (Value.bool false)))) none 18 true true), (AOp.mk (some 77) (AK.mv (AX.t 76)) none 19 true true), (AOp.mk (some 78) (AK.call 29 []) (some (77, true)) 20 false true), (AOp.mk (some 79) (AK.pick (AX.t 77) (AX.t 78) (AX.c (PV.val (Value.bool false)))) none 21 true true), (AOp.mk (some 4) (AK.mv (AX.t 79)) none 22 true true)]) AC.ret) AC.skip)) (AC.seq (AC.seq (AC.ops [(AOp.mk (some 80) (AK.mv (AX.t 5)) none 0 false true), (AOp.mk (some 81) (AK.fadr 4 (AX.t 2)) none 1 false true), (AOp.mk (some 82) (AK.ld none (AX.t 81)) none 2 false true), (AOp.mk (some 83) (AK.len (AX.t 82)) none 3 false true), (AOp.mk (some 84) (AK.bin false BinOp.sub (AX.t 83) (AX.c (PV.val (Value.int IntKind.i64 1)))) none 4 false true), (AOp.mk (some 85) (AK.call 52 [(AX.t 80), (AX.c (PV.val (Value.int IntKind.i64 0))), (AX.t 84)]) none 5 false true), (AOp.mk (some 86) (AK.un UnOp.not (AX.t 85)) none 6 false true)]) (AC.cond (AX.t 86) (AC.seq (AC.ops [(AOp.mk (some 4) (AK.mv (AX.c (PV.val (Value.bool false)))) none 0 false true)]) AC.ret) AC.skip)) (AC.seq (AC.ops [(AOp.mk (some 88) (AK.ld (some 8) (AX.t 2)) none 0 false true), (AOp.mk (some 89) (AK.mv (AX.t 5)) none 1 false true), (AOp.mk (some 90) (AK.call 27 [(AX.t 88), (AX.t 89)]) none 2 false true), (AOp.mk (some 87) (AK.mv (AX.t 90)) none 3 false true), (AOp.mk (some 91) (AK.ext (AX.t 87) 0) none 4 false true), (AOp.mk (some 92) (AK.ext (AX.t 87) 1) none 5 false true), (AOp.mk (some 12) (AK.mv (AX.t 91)) none 6 false true), (AOp.mk (some 13) (AK.mv (AX.t 92)) none 7 false true)]) (AC.seq (AC.ops [(AOp.mk (some 93) (AK.mv (AX.t 11)) none 0 false true), (AOp.mk (some 94) (AK.bin false BinOp.eql (AX.t 93) (AX.c (PV.val (Value.int IntKind.i64 0)))) none 1 false true), (AOp.mk (some 95) (AK.mv (AX.t 94)) none 2 false true), (AOp.mk (some 96) (AK.mv (AX.t 13)) (some (95, true)) 3 false true), (AOp.mk (some 97) (AK.bin false BinOp.eql (AX.t 96) (AX.c (PV.val (Value.int IntKind.i64 0)))) (some (95, true)) 4 false true), (AOp.mk (some 98) (AK.pick (AX.t 95) (AX.t 97) (AX.c (PV.val (Value.bool false)))) none 5 false true), (AOp.mk (some 99) (AK.mv (AX.t 98)) none 6 false true), (AOp.mk (some 100) (AK.mv (AX.t 12)) (some (99, true)) 7 false true), (AOp.mk (some 101) (AK.bin false BinOp.gtr (AX.t 100) (AX.c (PV.val (Value.int IntKind.i64 0)))) (some (99, true)) 8 false true), (AOp.mk (some 102) (AK.pick (AX.t 99) (AX.t 101) (AX.c (PV.val (Value.bool false)))) none 9 false true), (AOp.mk (some 103) (AK.mv (AX.t 102)) none 10 false true), (AOp.mk (some 104) (AK.fadr 1 (AX.t 7)) (some (103, true)) 11 false true), (AOp.mk (some 105) (AK.ld none (AX.t 104)) (some (103, true)) 12 false true), (AOp.mk (some 106) (AK.mv (AX.t 12)) (some (103, true)) 13 false true), (AOp.mk (some 107) (AK.bin false BinOp.geq (AX.t 105) (AX.t 106)) (some (103, true)) 14 false true), (AOp.mk (some 108) (AK.pick (AX.t 103) (AX.t 107) (AX.c (PV.val (Value.bool false)))) none 15 false true), (AOp.mk (some 109) (AK.mv (AX.t 108)) none 16 false true), (AOp.mk (some 110) (AK.mv (AX.t 10)) (some (109, true)) 17 false true), (AOp.mk (some 111) (AK.mv (AX.t 12)) (some (109, true)) 18 false true), (AOp.mk (some 112) (AK.bin false BinOp.lss (AX.t 110) (AX.t 111)) (some (109, true)) 19 false true), (AOp.mk (some 113) (AK.mv (AX.t 112)) (some (109, true)) 20 false true), (AOp.mk (some 114) (AK.mv (AX.t 10)) (some (113, false)) 21 false true), (AOp.mk (some 115) (AK.mv (AX.t 12)) (some (113, false)) 22 false true), (AOp.mk (some 116) (AK.bin false BinOp.eql (AX.t 114) (AX.t 115)) (some (113, false)) 23 false true), (AOp.mk (some 117) (AK.mv (AX.t 116)) (some (113, false)) 24 false true), (AOp.mk (some 118) (AK.mv (AX.t 5)) (some (117, true)) 25 false true), (AOp.mk (some 119) (AK.mv (AX.t 9)) (some (117, true)) 26 false true), (AOp.mk (some 120) (AK.bin false BinOp.leq (AX.t 118) (AX.t 119)) (some (117, true)) 27 false true), (AOp.mk (some 121) (AK.pick (AX.t 117) (AX.t 120) (AX.c (PV.val (Value.bool false)))) (some (113, false)) 28 false true), (AOp.mk (some 122) (AK.pick (AX.t 113) (AX.c (PV.val (Value.bool true))) (AX.t 121)) (some (109, true)) 29 false true), (AOp.mk (some 123) (AK.pick (AX.t 109) (AX.t 122) (AX.c (PV.val (Value.bool false)))) none 30 false true), (AOp.mk (some 124) (AK.mv (AX.t 123)) none 31 false true), (AOp.mk (some 125) (AK.call 29 []) (some (124, true)) 32 false true), (AOp.mk (some 126) (AK.pick (AX.t 124) (AX.t 125) (AX.c (PV.val (Value.bool false)))) none 33 false true), (AOp.mk (some 4) (AK.mv (AX.t 126)) none 34 false true)]) AC.ret)))))))))))
theorem ac10_ok : cCode Tryz.prog (fun _ => false) Tryz.f10.ntmps (Tryz.f10.body.getD .skip) = some ac10 := by kernel_rfl
theorem Dear_law (κ : KS) (b : EBook) (n : Int) : Sem1 10 [.agg (ebC κ b), pi n] (pb true) := by
  by_cases ho : okE b
  rotate_left
  · refine semC_of_exec' mixed Tryz.func10 (by kernel_rfl) (by kernel_rfl) ac10_ok 2 rfl (by decide) [(.tmp 4)] (by kernel_rfl) ?_
    intro hr C hC hI
    unfold ac10
    simp only [go_sem, Nat.reduceBEq, Nat.reduceAdd]
    refine call_pure2 hC (sound_sem κ b) rfl (PVleL_refl _) ?_
    rintro r rfl
    simp only [go_sem, Nat.reduceBEq, decide_eq_false ho]
    refine call_pure2 hC (exs_sem) rfl (PVleL_refl _) ?_
    rintro r rfl
    simp only [go_sem, Nat.reduceBEq]
    exact retQ_one rfl rfl
  obtain ⟨k, ek, hk⟩ := rnd_job ho n
  by_cases hw : whoL b.mb = []
  · have hF := errF_no ho hw
    refine semC_of_exec' mixed Tryz.func10 (by kernel_rfl) (by kernel_rfl) ac10_ok 2 rfl (by decide) [(.tmp 4)] (by kernel_rfl) ?_
    intro hr C hC hI
    unfold ac10
    simp only [go_sem, Nat.reduceBEq, Nat.reduceAdd]
    refine call_pure2 hC (sound_sem κ b) rfl (PVleL_refl _) ?_
    rintro r rfl
    simp only [go_sem, Nat.reduceBEq, Nat.reduceAdd, decide_eq_true ho]
    refine call_pure2 hC (Dear_no κ hF) rfl (PVleL_refl _) ?_
    rintro r rfl
    simp only [go_sem, Nat.reduceBEq, Nat.reduceAdd]
    refine call_pure2 hC (Loss_no κ hF) rfl (PVleL_refl _) ?_
    rintro r rfl
    simp only [go_sem, Nat.reduceBEq, Nat.reduceAdd, putCells, List.length_map]
    refine call_pure2 hC (Round_sem n (b.jobs.length : Int)) rfl (PVleL_refl _) ?_
    rintro r rfl
    simp only [go_sem, Nat.reduceBEq, Nat.reduceAdd, ek]
    refine call_pure2 hC (Raise_no κ hF hk) rfl (PVleL_refl _) ?_
    rintro r rfl
    simp only [go_sem, Nat.reduceBEq, decide_true, not_false_eq_true, Int.reduceEq]
    refine call_pure2 hC (exs_sem) rfl (PVleL_refl _) ?_
    rintro r rfl
    simp only [go_sem, Nat.reduceBEq]
    exact retQ_one rfl rfl
  have hF := errF_of ho hw
  have hne := known_ne hw
  obtain ⟨g1, g2, g3⟩ := dearF_facts (lossN b) b.jobs.length
  have hkk := g2 k hk
  rw [lossN_eq hk] at hkk
  have hnn := (loss_nn ho hne hk).1
  by_cases hp : 0 < (dearF (lossN b) b.jobs.length).2
  · have hD : Sem1 25 [.agg (ebC κ b)] (.tup [pi (dearF (lossN b) b.jobs.length).1, pi 0]) := by
      have := Dear_ok κ hF
      unfold dearE at this
      rwa [if_pos hp] at this
    obtain ⟨d, hd⟩ : ∃ d, (dearF (lossN b) b.jobs.length).1 = d := ⟨_, rfl⟩
    obtain ⟨m, hm⟩ : ∃ m, (dearF (lossN b) b.jobs.length).2 = m := ⟨_, rfl⟩
    rw [hm] at hp hkk g1 g3
    rw [hd] at hD g3
    obtain ⟨-, g3⟩ | ⟨h1, h2, h3, h4⟩ := g3
    · omega
    rw [lossN_eq h1] at h2
    have hl := loss_le ho hne h1
    have h5 : lossI b (jobN b k) < m ∨ (lossI b (jobN b k) = m ∧ d ≤ k) := by
      by_cases e : lossI b (jobN b k) < m
      · exact .inl e
      · refine .inr ⟨by omega, Nat.le_of_not_lt fun e2 => ?_⟩
        have := h4 k e2
        rw [lossN_eq hk] at this
        omega
    have hi : decide (0 ≤ (d : Int) ∧ (d : Int) ≤ (b.jobs.length : Int) - 1) = true := decide_eq_true (by omega)
    refine semC_of_exec' mixed Tryz.func10 (by kernel_rfl) (by kernel_rfl) ac10_ok 2 rfl (by decide) [(.tmp 4)] (by kernel_rfl) ?_
    intro hr C hC hI
    unfold ac10
    simp only [go_sem, Nat.reduceBEq, Nat.reduceAdd]
    refine call_pure2 hC (sound_sem κ b) rfl (PVleL_refl _) ?_
    rintro r rfl
    simp only [go_sem, Nat.reduceBEq, Nat.reduceAdd, decide_eq_true ho]
    refine call_pure2 hC (hD) rfl (PVleL_refl _) ?_
    rintro r rfl
    simp only [go_sem, Nat.reduceBEq, Nat.reduceAdd]
    refine call_pure2 hC (Loss_ok κ hF) rfl (PVleL_refl _) ?_
    rintro r rfl
    simp only [go_sem, Nat.reduceBEq, Nat.reduceAdd, putCells, List.length_map]
    refine call_pure2 hC (Round_sem n (b.jobs.length : Int)) rfl (PVleL_refl _) ?_
    rintro r rfl
    simp only [go_sem, Nat.reduceBEq, Nat.reduceAdd, ek]
    refine call_pure2 hC (Raise_ok κ hF hk) rfl (PVleL_refl _) ?_
    rintro r rfl
    simp only [go_sem, Nat.reduceBEq, decide_false, not_true_eq_false, List.length_map, wrap_id (n := (b.jobs.length : Int) - 1) (by have := ho.2.1.2; omega) (by have := ho.2.1.2; omega)]
    refine call_pure2 hC (In_sem ..) rfl (PVleL_refl _) ?_
    rintro r rfl
    simp only [go_sem, Nat.reduceBEq, Nat.reduceAdd, hi]
    rw [← h2] at hl
    rcases h5 with h5 | ⟨h5, h6⟩
    · refine call_pure2 hC (Raise_ok κ hF h1) rfl (PVleL_refl _) ?_
      rintro r rfl
      simp only [go_sem, Nat.reduceBEq, ← h2, eq_true hp, eq_true hl, eq_true h5, decide_true]
      refine call_pure2 hC (exs_sem) rfl (PVleL_refl _) ?_
      rintro r rfl
      simp only [go_sem, Nat.reduceBEq]
      exact retQ_one rfl rfl
    · have h7 : ¬ lossI b (jobN b k) < m := by omega
      have h8 : (d : Int) ≤ k := by omega
      refine call_pure2 hC (Raise_ok κ hF h1) rfl (PVleL_refl _) ?_
      rintro r rfl
      simp only [go_sem, Nat.reduceBEq, ← h2, eq_true hp, eq_true hl, eq_false h7, eq_true h5, eq_true h8, decide_true, decide_false]
      refine call_pure2 hC (exs_sem) rfl (PVleL_refl _) ?_
      rintro r rfl
      simp only [go_sem, Nat.reduceBEq]
      exact retQ_one rfl rfl
  · have hD : Sem1 25 [.agg (ebC κ b)] (.tup [pi 0, pi 4]) := by
      have := Dear_ok κ hF
      unfold dearE at this
      rwa [if_neg hp] at this
    have hz : ∀ q, q < b.jobs.length → lossI b (jobN b q) = 0 := fun q hq => by
      have h1 := g2 q hq
      rw [lossN_eq hq] at h1
      have := (loss_nn ho hne hq).1
      omega
    obtain ⟨z1, z2⟩ := loss_all ho hne hz
    have hL : Sem1 23 [.agg (ebC κ b)] (.tup [psp 0 0, pi 0]) := by
      have := Loss_ok κ hF
      unfold spanP at this
      rwa [z1, z2] at this
    refine semC_of_exec' mixed Tryz.func10 (by kernel_rfl) (by kernel_rfl) ac10_ok 2 rfl (by decide) [(.tmp 4)] (by kernel_rfl) ?_
    intro hr C hC hI
    unfold ac10
    simp only [go_sem, Nat.reduceBEq, Nat.reduceAdd]
    refine call_pure2 hC (sound_sem κ b) rfl (PVleL_refl _) ?_
    rintro r rfl
    simp only [go_sem, Nat.reduceBEq, Nat.reduceAdd, decide_eq_true ho]
    refine call_pure2 hC (hD) rfl (PVleL_refl _) ?_
    rintro r rfl
    simp only [go_sem, Nat.reduceBEq, Nat.reduceAdd]
    refine call_pure2 hC (hL) rfl (PVleL_refl _) ?_
    rintro r rfl
    simp only [go_sem, Nat.reduceBEq, Nat.reduceAdd, putCells, List.length_map]
    refine call_pure2 hC (Round_sem n (b.jobs.length : Int)) rfl (PVleL_refl _) ?_
    rintro r rfl
    simp only [go_sem, Nat.reduceBEq, Nat.reduceAdd, ek]
    refine call_pure2 hC (Raise_ok κ hF hk) rfl (PVleL_refl _) ?_
    rintro r rfl
    simp only [go_sem, Nat.reduceBEq, Nat.reduceAdd, hz k hk, decide_true, decide_false, not_true_eq_false, Bool.false_eq_true, not_false_eq_true, Int.reduceEq]
    refine call_pure2 hC (One_sem ..) rfl (PVleL_refl _) ?_
    rintro r rfl
    simp only [go_sem, Nat.reduceBEq, decide_true, Bool.true_and]
    refine call_pure2 hC (exs_sem) rfl (PVleL_refl _) ?_
    rintro r rfl
    simp only [go_sem, Nat.reduceBEq]
    exact retQ_one rfl rfl
set_option maxRecDepth 100000 in
theorem Dear_row {l0 l1 : List PV} (T0 : Ty Tryz.prog 10 29 l0) (T1 : Ty Tryz.prog 10 3 l1) : SemC Tryz.prog 10 [argPV Tryz.prog 29 l0, argPV Tryz.prog 3 l1] (fun r => r = pb true) := by
  obtain ⟨b, rfl⟩ := ty_ebook T0
  obtain ⟨n, rfl⟩ := tyInt uInt T1
  rw [argStruct Tryz.underlying29, argInt uInt]
  exact Dear_law shK b n
end Go.Proofs.YtefehlekneahmaaGreat.Mk.Me
namespace Go.Proofs.YtefehlekneahmaaGreat
open Go.Proofs.YtefehlekneahmaaGreat Go.ChangeShapes Go.WideShapes Go.ChangeAt Go.RowKit Go.Deep

set_option maxRecDepth 100000 in
theorem mendDear_lifted (os : Os) (started : os.Started) (H : Type) (enc : TypeId × Value → H) :
    ReturnsInHanded {} Tryz.checked os 10 .any (Rows.mendDearSpec.pre6 enc Tryz.prog Tryz.f10 Rows.mendDearRow.domain false) (Rows.mendDearSpec.post enc Tryz.prog Tryz.f10 false true false false) := by
  refine returnsInHanded_of_change_sized (C := Tryz.checked) ownKnobs started (by kernel_rfl) Tryz.func10
    (ChangeSpec.witness6 (enc := enc) (C := Tryz.checked) false ⟨#[], #[.agg #[.slice none 0 0, .slice none 0 0, .int .i64 0, .int .i64 0, .slice none 0 0, .int .i64 0, .slice none 0 0, .slice none 0 0], .int .i64 0], []⟩ 8 (by kernel_rfl) (by kernel_rfl) (by kernel_rfl) (by kernel_rfl)) ?_
  intro W base args ds gs before hval0 hW hcnd hsz0 _
  have hval : ∀ (j : Nat) t v, Tryz.f10.params[j]? = some t → args[j]? = some v → Value.okWide Tryz.prog W .any base t v := hval0
  have hsz : (DataW.weightsEach Tryz.prog (Tryz.f10.params.toList ++ Rows.mendDearSpec.plain.varTypes Tryz.prog) (ds ++ gs)).all (· ≤ reachBytes) = true := hsz0
  have hW' := hW
  obtain ⟨p, q, hA0, hV, rfl, hfz, hnd⟩ := hW
  have hA : DataW.TrodAll enc Tryz.prog W 0 (fun _ => true) true Tryz.f10.params.toList args.toList ds p := hA0
  rw [Tryz.params10] at hA hval hsz
  obtain ⟨v0, vs0, d0, ds0, p0, q0, hargs, rfl, rfl, h0, r0⟩ := trodAll_cons hA
  obtain ⟨v1, vs1, d1, ds1, p1, q1, rfl, rfl, rfl, h1, r1⟩ := trodAll_cons r0
  obtain ⟨rfl, rfl, rfl⟩ := trodAll_nil r1
  obtain rfl : args = #[v0, v1] := by cases args; simp_all
  obtain ⟨rfl, rfl⟩ := trodVars_none hV
  have lt0 : ∀ x ∈ p0, x.block < W.heap.size := by obtain ⟨m, hm⟩ := h0; exact DataW.trod_lt m _ _ _ hm
  have lt1 : ∀ x ∈ p1, x.block < W.heap.size := by obtain ⟨m, hm⟩ := h1; exact DataW.trod_lt m _ _ _ hm
  have z0 : SizedP Tryz.prog 29 d0 := sizedP_each hsz (j := 0) rfl rfl
  obtain ⟨l0, T0, R0⟩ := rd_arg 10 (by kernel_rfl) (hval 0 29 v0 rfl rfl) h0 z0
  have z1 : SizedP Tryz.prog 3 d1 := sizedP_each hsz (j := 1) rfl rfl
  obtain ⟨l1, T1, R1⟩ := rd_arg 10 (by kernel_rfl) (hval 1 3 v1 rfl rfl) h1 z1
  clear hA0 hval0 hsz0
  refine (law_calls (Mk.Me.Dear_row T0 T1) (argsP_cons R0 (argsP_cons R1 argsP_nil))).mono fun e W' ⟨he, bel⟩ => ?_
  subst he
  exact ⟨_, rfl, _, _, _, [], _, [], hW', trodAll_mk1 (shut_bool Tryz.underlying4 _), (trodAll_cons_mk (Below.trod laidOut (by kernel_rfl) (of_decide_eq_true (by kernel_rfl)) h0 bel lt0) (trodAll_cons_mk (Below.trod laidOut (by kernel_rfl) (of_decide_eq_true (by kernel_rfl)) h1 bel lt1) trodAll_mk0)), rfl, bel.frame _, fun h => by cases h⟩

theorem mendDear_joined : joinedFacts Tryz.prog 10 Tryz.f10 Rows.mendDearSpec Rows.mendDearRow = true := by
  simp only [joinedFacts, Bool.and_eq_true]
  repeat' apply And.intro
  all_goals first | with_reducible exact laidOut | with_reducible exact mapsR | with_reducible exact stopsH | with_reducible exact mayE | (rw [lift0]; kernel_rfl) | (rw [make0]; kernel_rfl) | kernel_rfl

theorem mendDear_holds : Rows.MendDearSaid :=
  OpenClaim.holds_of_wide 10 Tryz.f10 rfl rfl rfl rfl rfl rfl rfl ⟨rfl, rfl, rfl, rfl, rfl⟩ rfl rfl rfl rfl rfl (by kernel_rfl) Tryz.func10 mendDear_joined
    (of_decide_eq_true (by kernel_rfl)) (by unfold Func.isWrapper; first | (rw [if_pos (by decide +kernel)]; kernel_rfl) | (rw [if_neg (by decide +kernel)]; exact ⟨rfl, rfl⟩))
    (fun os started H enc _ => mendDear_lifted os started H enc)
end Go.Proofs.YtefehlekneahmaaGreat
