/- TopOriginal returns true for every book and numbers; no condition. TopOriginal. TopOriginal: behind the first maker's share. Contracts through the layers: what is paid to a maker if nothing was changed. -/
import Derived.Test.YtlcpplkbmlmmbaaGreatOri11
import Derived.Test.YtlcpplkbmlmmbaaGreatOri06
import Derived.Test.YtlcpplkbmlmmbaaGreatGa17
namespace Go.Proofs.YtlcpplkbmlmmbaaGreat.Mk.Me
open Go.RowKit Ls
def ac45 : AC := (AC.seq (AC.ops [(AOp.mk (some 3) (AK.box 8 (AX.t 0)) none 0 false true), (AOp.mk (some 6) (AK.mv (AX.c (PV.val (Value.int IntKind.i64 0)))) none 1 false true)]) (AC.seq (AC.ops [(AOp.mk (some 7) (AK.mv (AX.c (PV.val (Value.int IntKind.i64 0)))) none 0 false true)]) (AC.seq (AC.seq (AC.ops [(AOp.mk (some 8) (AK.mv (AX.c (PV.val (Value.int IntKind.i64 0)))) none 0 false true)]) (AC.block 0 (AC.loop (AC.seq (AC.seq (AC.ops [(AOp.mk (some 11) (AK.mv (AX.t 8)) none 0 false true), (AOp.mk (some 12) (AK.fadr 4 (AX.t 3)) none 1 false true), (AOp.mk (some 13) (AK.ld none (AX.t 12)) none 2 false true), (AOp.mk (some 14) (AK.len (AX.t 13)) none 3 false true), (AOp.mk (some 15) (AK.bin false BinOp.lss (AX.t 11) (AX.t 14)) none 4 false true)]) (AC.cond (AX.t 15) AC.skip (AC.exit 0))) (AC.seq (AC.block 1 (AC.seq (AC.ops [(AOp.mk (some 18) (AK.fadr 4 (AX.t 3)) none 0 false true), (AOp.mk (some 19) (AK.ld none (AX.t 18)) none 1 false true), (AOp.mk (some 20) (AK.mv (AX.t 8)) none 2 false true), (AOp.mk (some 21) (AK.iadrS 6 (AX.t 19) (AX.t 20)) none 3 false true), (AOp.mk (some 22) (AK.ld (some 6) (AX.t 21)) none 4 false true), (AOp.mk (some 9) (AK.new (PV.agg [(PV.val (Value.int IntKind.i64 0)), (PV.val (Value.int IntKind.i64 0)), (PV.val (Value.int IntKind.i64 0)), (PV.val (Value.int IntKind.i64 0)), (PV.val (Value.int IntKind.i64 0)), (PV.val (Value.int IntKind.i64 0))])) none 5 false true), (AOp.mk none (AK.st 6 (AX.t 9) (AX.t 22)) none 6 false true)]) (AC.seq (AC.ops [(AOp.mk (some 23) (AK.fadr 1 (AX.t 9)) none 0 true false), (AOp.mk (some 24) (AK.fadr 0 (AX.t 23)) none 1 true false), (AOp.mk (some 25) (AK.ld none (AX.t 24)) none 2 true false), (AOp.mk (some 26) (AK.fadr 5 (AX.t 3)) none 3 true false), (AOp.mk (some 27) (AK.ld none (AX.t 26)) none 4 true false), (AOp.mk (some 28) (AK.bin false BinOp.mul (AX.t 25) (AX.t 27)) none 5 true false), (AOp.mk (some 29) (AK.fadr 3 (AX.t 9)) none 6 true false), (AOp.mk (some 30) (AK.fadr 0 (AX.t 29)) none 7 true false), (AOp.mk (some 31) (AK.ld none (AX.t 30)) none 8 true false), (AOp.mk (some 32) (AK.bin false BinOp.add (AX.t 28) (AX.t 31)) none 9 true false), (AOp.mk (some 33) (AK.fadr 6 (AX.t 3)) none 10 true false), (AOp.mk (some 34) (AK.ld none (AX.t 33)) none 11 true false), (AOp.mk (some 35) (AK.mv (AX.t 1)) none 12 true false), (AOp.mk (some 36) (AK.iadrS 1 (AX.t 34) (AX.t 35)) none 13 true false), (AOp.mk (some 37) (AK.ld none (AX.t 36)) none 14 true false), (AOp.mk (some 38) (AK.bin false BinOp.add (AX.t 32) (AX.t 37)) none 15 true true), (AOp.mk (some 10) (AK.mv (AX.t 38)) none 16 true true)]) (AC.seq (AC.seq (AC.ops [(AOp.mk (some 39) (AK.mv (AX.t 2)) none 0 false true)]) (AC.cond (AX.t 39) (AC.ops [(AOp.mk (some 40) (AK.fadr 1 (AX.t 9)) none 0 true false), (AOp.mk (some 41) (AK.fadr 1 (AX.t 40)) none 1 true false), (AOp.mk (some 42) (AK.ld none (AX.t 41)) none 2 true false), (AOp.mk (some 43) (AK.fadr 5 (AX.t 3)) none 3 true false), (AOp.mk (some 44) (AK.ld none (AX.t 43)) none 4 true false), (AOp.mk (some 45) (AK.bin false BinOp.mul (AX.t 42) (AX.t 44)) none 5 true false), (AOp.mk (some 46) (AK.fadr 3 (AX.t 9)) none 6 true false), (AOp.mk (some 47) (AK.fadr 1 (AX.t 46)) none 7 true false), (AOp.mk (some 48) (AK.ld none (AX.t 47)) none 8 true false), (AOp.mk (some 49) (AK.bin false BinOp.add (AX.t 45) (AX.t 48)) none 9 true false), (AOp.mk (some 50) (AK.fadr 6 (AX.t 3)) none 10 true false), (AOp.mk (some 51) (AK.ld none (AX.t 50)) none 11 true false), (AOp.mk (some 52) (AK.mv (AX.t 1)) none 12 true false), (AOp.mk (some 53) (AK.iadrS 1 (AX.t 51) (AX.t 52)) none 13 true false), (AOp.mk (some 54) (AK.ld none (AX.t 53)) none 14 true false), (AOp.mk (some 55) (AK.bin false BinOp.add (AX.t 49) (AX.t 54)) none 15 true true), (AOp.mk (some 10) (AK.mv (AX.t 55)) none 16 true true)]) AC.skip)) (AC.seq (AC.seq (AC.ops [(AOp.mk (some 56) (AK.fadr 5 (AX.t 9)) none 0 false true), (AOp.mk (some 57) (AK.ld none (AX.t 56)) none 1 false true), (AOp.mk (some 58) (AK.bin false BinOp.neq (AX.t 57) (AX.c (PV.val (Value.int IntKind.i64 (-1))))) none 2 false true)]) (AC.cond (AX.t 58) (AC.ops [(AOp.mk (some 59) (AK.mv (AX.t 10)) none 0 false true), (AOp.mk (some 60) (AK.fadr 5 (AX.t 9)) none 1 false true), (AOp.mk (some 61) (AK.ld none (AX.t 60)) none 2 false true), (AOp.mk (some 62) (AK.mx false [(AX.t 59), (AX.t 61)]) none 3 false true), (AOp.mk (some 10) (AK.mv (AX.t 62)) none 4 false true)]) AC.skip)) (AC.ops [(AOp.mk (some 63) (AK.mv (AX.t 7)) none 0 false true), (AOp.mk (some 64) (AK.mv (AX.t 10)) none 1 false true), (AOp.mk (some 65) (AK.bin false BinOp.add (AX.t 63) (AX.t 64)) none 2 false true), (AOp.mk (some 7) (AK.mv (AX.t 65)) none 3 false true)])))))) (AC.ops [(AOp.mk (some 16) (AK.mv (AX.t 8)) none 0 false true), (AOp.mk (some 17) (AK.bin false BinOp.add (AX.t 16) (AX.c (PV.val (Value.int IntKind.i64 1)))) none 1 false true), (AOp.mk (some 8) (AK.mv (AX.t 17)) none 2 false true)])))))) (AC.seq (AC.ops [(AOp.mk (some 66) (AK.mv (AX.t 7)) none 0 false true), (AOp.mk (some 6) (AK.mv (AX.t 66)) none 1 false true)]) AC.ret))))
theorem ac45_ok : cCode Tryz.prog (fun _ => false) Tryz.f45.ntmps (Tryz.f45.body.getD .skip) = some ac45 := by kernel_rfl
theorem each_zero (lo : Bool) (b : EBook) (m : Nat) (j : Job) : eachI lo b 1 (m, 0) j = paidI j (endH lo j * b.rate + endPt lo j + b.extra.getD m 0) := by
  unfold eachI shareI costI extraI
  rw [Nat.zero_testBit]
  rfl
theorem paid_cases (j : Job) (c : Int) : (j.cap = -1 → paidI j c = c) ∧ (¬ j.cap = -1 → paidI j c = maxI false c j.cap) := by
  unfold paidI
  refine ⟨fun h => if_pos h, fun h => ?_⟩
  rw [if_neg h]
  unfold maxI
  simp only [Bool.false_eq_true, if_false]
  split <;> omega
set_option maxHeartbeats 2000000 in
theorem paid08of_sem (κ : KS) {b : EBook} (ho : okE b) {m : Nat} (hm : m < b.mb.makers.length) (most : Bool) : Sem1 45 [.agg (ebC κ b), pi m, pb most] (pi (paidE (!most) b m)) := by
  have h4 := ho.2.1.2
  have hmx : m < b.extra.length := by rw [ho.2.2.1]; exact hm
  have ex := iadr_map (f := fun x : Int => [pi x]) (kd := κ.d) (sz := 1) hmx
  have hxb := ho.2.2.2.2.1 _ (List.getElem_mem hmx)
  have hxe : b.extra.getD m 0 = b.extra[m] := by rw [List.getD_eq_getElem?_getD, List.getElem?_eq_getElem hmx]; rfl
  obtain ⟨x, hx⟩ : ∃ x, b.extra[m] = x := ⟨_, rfl⟩
  rw [hx] at ex hxb hxe
  obtain ⟨lo, hlo⟩ : ∃ lo, (!most) = lo := ⟨_, rfl⟩
  rw [hlo]
  refine semC_of_exec' mixed Tryz.func45 (by kernel_rfl) (by kernel_rfl) ac45_ok 3 rfl (by decide) [(.tmp 6)] (by kernel_rfl) ?_
  intro hr C hC hI
  unfold ac45
  simp only [go_sem, Nat.reduceBEq, Nat.reduceAdd]
  refine loop_kl b.jobs.length (fun _ => True) [1, 2, 3] (fun i => [(7, .p (pi (sumI ((b.jobs.take i).map (eachI lo b 1 (m, 0)))))), (8, .p (pi i))]) (fun _ => [.cells ((ebC κ b).map .p)]) trivial (by simp [Wk, wkT, wkL, look, AV.lo, AV.lo.loL, sumI, ABlk.toZ, upS_eq, keepS_nil, keepS_cons]) ?_
  rintro i ⟨hi, -⟩
  simp only [go_sem, Nat.reduceBEq, List.length_map]
  refine ⟨fun d5 => ?_, fun d5 => ?_⟩
  · have hi2 : i < b.jobs.length := by omega
    have ei := iadr_map (f := jobC) (kd := κ.c) (sz := 6) hi2
    have hj := ho.2.2.2.1 _ (List.getElem_mem hi2)
    have hL := cost_le ho (m, 0) b.jobs[i] (h := b.jobs[i].hl) (p := b.jobs[i].pl) (by obtain ⟨-, g, -⟩ := hj; omega) (by obtain ⟨-, -, g, -⟩ := hj; omega)
    have hH := cost_le ho (m, 0) b.jobs[i] (h := b.jobs[i].hh) (p := b.jobs[i].ph) (by obtain ⟨-, g, -⟩ := hj; omega) (by obtain ⟨-, -, g, -⟩ := hj; omega)
    have hE := each_zero lo b m b.jobs[i]
    have hEb := each_bound ho hj lo 1 (m, 0)
    have hS := jobs_bound ho (js := b.jobs.take i) (fun j hj => ho.2.2.2.1 j (List.mem_of_mem_take hj)) lo 1 (m, 0)
    have hSl : (b.jobs.take i).length ≤ 4 := by rw [List.length_take]; omega
    have hN : sumI ((b.jobs.take (i + 1)).map (eachI lo b 1 (m, 0))) = sumI ((b.jobs.take i).map (eachI lo b 1 (m, 0))) + eachI lo b 1 (m, 0) b.jobs[i] := by
      rw [List.take_succ_eq_append_getElem hi2, List.map_append]
      exact sum_app _ _
    unfold jobsI at hS
    obtain ⟨j, hje⟩ : ∃ j, b.jobs[i] = j := ⟨_, rfl⟩
    rw [hje] at ei hj hL hH hE hEb hN
    unfold costI extraI at hL hH
    rw [Nat.zero_testBit, if_neg (by decide), hxe] at hL hH
    rw [hxe] at hE
    obtain ⟨S, hSe⟩ : ∃ S, sumI ((b.jobs.take i).map (eachI lo b 1 (m, 0))) = S := ⟨_, rfl⟩
    rw [hSe] at hS hN
    rw [hSe]
    obtain ⟨pc1, pc2⟩ := paid_cases j (endH lo j * b.rate + endPt lo j + x)
    rw [← hE] at pc1 pc2
    obtain ⟨e, he⟩ : ∃ e, eachI lo b 1 (m, 0) j = e := ⟨_, rfl⟩
    rw [he] at hEb hN pc1 pc2
    have wL1 : IntKind.i64.wrap (j.hl * b.rate) = j.hl * b.rate := wrap_id (by omega) (by omega)
    have wL2 : IntKind.i64.wrap (j.hl * b.rate + j.pl) = j.hl * b.rate + j.pl := wrap_id (by omega) (by omega)
    have wL3 : IntKind.i64.wrap (j.hl * b.rate + j.pl + x) = j.hl * b.rate + j.pl + x := wrap_id (by omega) (by omega)
    have wH1 : IntKind.i64.wrap (j.hh * b.rate) = j.hh * b.rate := wrap_id (by omega) (by omega)
    have wH2 : IntKind.i64.wrap (j.hh * b.rate + j.ph) = j.hh * b.rate + j.ph := wrap_id (by omega) (by omega)
    have wH3 : IntKind.i64.wrap (j.hh * b.rate + j.ph + x) = j.hh * b.rate + j.ph + x := wrap_id (by omega) (by omega)
    have wS : IntKind.i64.wrap (S + e) = S + e := wrap_id (by omega) (by omega)
    cases most
    · have eH : endH lo j = j.hl := by rw [← hlo]; rfl
      have eP : endPt lo j = j.pl := by rw [← hlo]; rfl
      rw [eH, eP] at pc1 pc2
      by_cases hcap : j.cap = -1
      · have w3 : IntKind.i64.wrap (j.hl * b.rate + j.pl + x) = e := (wL3).trans (pc1 hcap).symm
        simp only [go_sem, Nat.reduceBEq, Nat.reduceAdd, ei, ex, putCells, wL1, wL2, w3, hcap, wS, wrap_succ (k := i) (by omega), decide_false, not_true_eq_false, not_false_eq_true, Int.reduceNeg]
        refine ⟨⟨i + 1, hi2, trivial⟩, by simp only; omega, ?_⟩
        simp only [hN]
        simp [Wk, wkT, wkL, look, AV.lo, AV.lo.loL, ABlk.toZ]
      · simp only [go_sem, Nat.reduceBEq, Nat.reduceAdd, ei, ex, putCells, wL1, wL2, wL3, eq_false hcap, ← pc2 hcap, wS, wrap_succ (k := i) (by omega), decide_true, not_false_eq_true, Int.reduceNeg]
        refine ⟨⟨i + 1, hi2, trivial⟩, by simp only; omega, ?_⟩
        simp only [hN]
        simp [Wk, wkT, wkL, look, AV.lo, AV.lo.loL, ABlk.toZ]
    · have eH : endH lo j = j.hh := by rw [← hlo]; rfl
      have eP : endPt lo j = j.ph := by rw [← hlo]; rfl
      rw [eH, eP] at pc1 pc2
      by_cases hcap : j.cap = -1
      · have w3 : IntKind.i64.wrap (j.hh * b.rate + j.ph + x) = e := (wH3).trans (pc1 hcap).symm
        simp only [go_sem, Nat.reduceBEq, Nat.reduceAdd, ei, ex, putCells, wL1, wL2, wL3, wH1, wH2, w3, hcap, wS, wrap_succ (k := i) (by omega), decide_false, not_true_eq_false, not_false_eq_true, Int.reduceNeg]
        refine ⟨⟨i + 1, hi2, trivial⟩, by simp only; omega, ?_⟩
        simp only [hN]
        simp [Wk, wkT, wkL, look, AV.lo, AV.lo.loL, ABlk.toZ]
      · simp only [go_sem, Nat.reduceBEq, Nat.reduceAdd, ei, ex, putCells, wL1, wL2, wL3, wH1, wH2, wH3, eq_false hcap, ← pc2 hcap, wS, wrap_succ (k := i) (by omega), decide_true, not_false_eq_true, Int.reduceNeg]
        refine ⟨⟨i + 1, hi2, trivial⟩, by simp only; omega, ?_⟩
        simp only [hN]
        simp [Wk, wkT, wkL, look, AV.lo, AV.lo.loL, ABlk.toZ]
  · have hin : i = b.jobs.length := by omega
    subst hin
    rw [List.take_length]
    exact retQ_one rfl rfl
end Go.Proofs.YtlcpplkbmlmmbaaGreat.Mk.Me
namespace Go.Proofs.YtlcpplkbmlmmbaaGreat.Mk.Me
open Go.RowKit Ls
def acr10 : AC := (AC.seq (AC.seq (AC.ops [(AOp.mk (some 13) (AK.mv (AX.c (PV.val (Value.int IntKind.i64 0)))) none 0 false true)]) (AC.block 0 (AC.loop (AC.seq (AC.seq (AC.ops [(AOp.mk (some 73) (AK.mv (AX.t 13)) none 0 false true), (AOp.mk (some 74) (AK.mv (AX.t 8)) none 1 false true), (AOp.mk (some 75) (AK.len (AX.t 74)) none 2 false true), (AOp.mk (some 76) (AK.bin false BinOp.lss (AX.t 73) (AX.t 75)) none 3 false true)]) (AC.cond (AX.t 76) AC.skip (AC.exit 0))) (AC.seq (AC.block 1 (AC.ops [(AOp.mk (some 79) (AK.ld (some 2) (AX.t 12)) none 0 true false), (AOp.mk (some 80) (AK.ld (some 8) (AX.t 7)) none 1 true false), (AOp.mk (some 81) (AK.mv (AX.t 8)) none 2 true false), (AOp.mk (some 82) (AK.mv (AX.t 13)) none 3 true false), (AOp.mk (some 83) (AK.iadrS 1 (AX.t 81) (AX.t 82)) none 4 true false), (AOp.mk (some 84) (AK.ld none (AX.t 83)) none 5 true false), (AOp.mk (some 86) (AK.ld (some 8) (AX.t 7)) none 7 true false), (AOp.mk (some 87) (AK.mv (AX.t 8)) none 8 true false), (AOp.mk (some 88) (AK.mv (AX.t 13)) none 9 true false), (AOp.mk (some 89) (AK.iadrS 1 (AX.t 87) (AX.t 88)) none 10 true false), (AOp.mk (some 90) (AK.ld none (AX.t 89)) none 11 true false), (AOp.mk (some 85) (AK.call 45 [(AX.t 80), (AX.t 84), (AX.c (PV.val (Value.bool false)))]) none 6 false false), (AOp.mk (some 91) (AK.call 45 [(AX.t 86), (AX.t 90), (AX.c (PV.val (Value.bool true)))]) none 12 false false), (AOp.mk (some 92) (AK.call 36 [(AX.t 85), (AX.t 91)]) none 13 false false), (AOp.mk (some 93) (AK.call 46 [(AX.t 79), (AX.t 92)]) none 14 false true), (AOp.mk none (AK.st 2 (AX.t 12) (AX.t 93)) none 15 false true)])) (AC.ops [(AOp.mk (some 77) (AK.mv (AX.t 13)) none 0 false true), (AOp.mk (some 78) (AK.bin false BinOp.add (AX.t 77) (AX.c (PV.val (Value.int IntKind.i64 1)))) none 1 false true), (AOp.mk (some 13) (AK.mv (AX.t 78)) none 2 false true)])))))) (AC.seq (AC.seq (AC.ops [(AOp.mk (some 94) (AK.ld (some 2) (AX.t 10)) none 0 false true), (AOp.mk (some 95) (AK.ld (some 2) (AX.t 12)) none 1 false true), (AOp.mk (some 96) (AK.eqs [CK.i, CK.i] true (AX.t 94) (AX.t 95)) none 2 false true)]) (AC.cond (AX.t 96) (AC.seq (AC.ops [(AOp.mk (some 6) (AK.mv (AX.c (PV.val (Value.bool false)))) none 0 false true)]) AC.ret) AC.skip)) (AC.seq (AC.ops [(AOp.mk (some 97) (AK.iadrA 1 2 (AX.t 4) (AX.c (PV.val (Value.int IntKind.i64 0)))) none 0 true false), (AOp.mk (some 98) (AK.ld none (AX.t 97)) none 1 true false), (AOp.mk (some 99) (AK.fadr 0 (AX.t 3)) none 2 true false), (AOp.mk (some 100) (AK.fadr 0 (AX.t 99)) none 3 true false), (AOp.mk (some 101) (AK.ld none (AX.t 100)) none 4 true false), (AOp.mk (some 102) (AK.len (AX.t 101)) none 5 true false), (AOp.mk (some 104) (AK.iadrA 1 2 (AX.t 4) (AX.c (PV.val (Value.int IntKind.i64 1)))) none 7 true false), (AOp.mk (some 105) (AK.ld none (AX.t 104)) none 8 true false), (AOp.mk (some 106) (AK.fadr 0 (AX.t 3)) none 9 true false), (AOp.mk (some 107) (AK.fadr 0 (AX.t 106)) none 10 true false), (AOp.mk (some 108) (AK.ld none (AX.t 107)) none 11 true false), (AOp.mk (some 109) (AK.len (AX.t 108)) none 12 true false), (AOp.mk (some 103) (AK.call 32 [(AX.t 98), (AX.t 102)]) none 6 false false), (AOp.mk (some 110) (AK.call 32 [(AX.t 105), (AX.t 109)]) none 13 false true), (AOp.mk (some 14) (AK.mv (AX.t 103)) none 14 true true), (AOp.mk (some 15) (AK.mv (AX.t 110)) none 15 true true)]) (AC.seq (AC.ops [(AOp.mk (some 112) (AK.fadr 0 (AX.t 7)) none 0 false true), (AOp.mk (some 113) (AK.ld (some 4) (AX.t 112)) none 1 false true), (AOp.mk (some 114) (AK.mv (AX.t 14)) none 2 false true), (AOp.mk (some 115) (AK.mv (AX.t 15)) none 3 false true), (AOp.mk (some 116) (AK.call 47 [(AX.t 113), (AX.t 114), (AX.t 115)]) none 4 false true), (AOp.mk (some 111) (AK.mv (AX.t 116)) none 5 false true), (AOp.mk (some 117) (AK.ext (AX.t 111) 0) none 6 false true), (AOp.mk (some 118) (AK.ext (AX.t 111) 1) none 7 false true), (AOp.mk (some 16) (AK.mv (AX.t 117)) none 8 false true), (AOp.mk (some 17) (AK.mv (AX.t 118)) none 9 false true)]) (AC.seq (AC.seq (AC.ops [(AOp.mk (some 119) (AK.mv (AX.t 14)) none 0 false true), (AOp.mk (some 120) (AK.mv (AX.t 15)) none 1 false true), (AOp.mk (some 121) (AK.bin false BinOp.eql (AX.t 119) (AX.t 120)) none 2 false true), (AOp.mk (some 122) (AK.mv (AX.t 121)) none 3 false true), (AOp.mk (some 123) (AK.mv (AX.t 17)) (some (122, false)) 4 false true), (AOp.mk (some 124) (AK.bin false BinOp.neq (AX.t 123) (AX.c (PV.val (Value.int IntKind.i64 0)))) (some (122, false)) 5 false true), (AOp.mk (some 125) (AK.pick (AX.t 122) (AX.c (PV.val (Value.bool true))) (AX.t 124)) none 6 false true), (AOp.mk (some 126) (AK.mv (AX.t 125)) none 7 false true), (AOp.mk (some 127) (AK.mv (AX.t 16)) (some (126, false)) 8 false true), (AOp.mk (some 128) (AK.un UnOp.not (AX.t 127)) (some (126, false)) 9 false true), (AOp.mk (some 129) (AK.pick (AX.t 126) (AX.c (PV.val (Value.bool true))) (AX.t 128)) none 10 false true)]) (AC.cond (AX.t 129) (AC.seq (AC.ops [(AOp.mk (some 130) (AK.mv (AX.t 14)) none 0 false true), (AOp.mk (some 131) (AK.mv (AX.t 15)) none 1 false true), (AOp.mk (some 132) (AK.bin false BinOp.eql (AX.t 130) (AX.t 131)) none 2 false true), (AOp.mk (some 133) (AK.mv (AX.t 17)) none 3 false true), (AOp.mk (some 134) (AK.bin false BinOp.eql (AX.t 133) (AX.c (PV.val (Value.int IntKind.i64 51)))) none 4 false true), (AOp.mk (some 135) (AK.bin true BinOp.eql (AX.t 132) (AX.t 134)) none 5 false true), (AOp.mk (some 136) (AK.mv (AX.t 135)) none 6 false true), (AOp.mk (some 137) (AK.call 40 []) (some (136, true)) 7 false true), (AOp.mk (some 138) (AK.pick (AX.t 136) (AX.t 137) (AX.c (PV.val (Value.bool false)))) none 8 false true), (AOp.mk (some 6) (AK.mv (AX.t 138)) none 9 false true)]) AC.ret) AC.skip)) (AC.seq (AC.ops [(AOp.mk (some 139) (AK.fadr 0 (AX.t 7)) none 0 false true), (AOp.mk (some 140) (AK.fadr 1 (AX.t 139)) none 1 false true), (AOp.mk none (AK.st 1 (AX.t 140) (AX.c (PV.sl SK.full 0 []))) none 2 false true)]) (AC.seq (AC.seq (AC.ops [(AOp.mk (some 18) (AK.mv (AX.c (PV.val (Value.int IntKind.i64 0)))) none 0 false true)]) (AC.block 2 (AC.loop (AC.seq (AC.seq (AC.ops [(AOp.mk (some 141) (AK.mv (AX.t 18)) none 0 false true), (AOp.mk (some 142) (AK.fadr 0 (AX.t 3)) none 1 false true), (AOp.mk (some 143) (AK.fadr 0 (AX.t 142)) none 2 false true), (AOp.mk (some 144) (AK.ld none (AX.t 143)) none 3 false true), (AOp.mk (some 145) (AK.iadrS 1 (AX.t 144) (AX.c (PV.val (Value.int IntKind.i64 0)))) none 4 false true), (AOp.mk (some 146) (AK.ld none (AX.t 145)) none 5 false true), (AOp.mk (some 147) (AK.len (AX.t 146)) none 6 false true), (AOp.mk (some 148) (AK.bin false BinOp.lss (AX.t 141) (AX.t 147)) none 7 false true)]) (AC.cond (AX.t 148) AC.skip (AC.exit 2))) (AC.seq (AC.block 3 (AC.ops [(AOp.mk (some 151) (AK.fadr 0 (AX.t 7)) none 0 true false), (AOp.mk (some 152) (AK.fadr 1 (AX.t 151)) none 1 true false), (AOp.mk (some 153) (AK.ld none (AX.t 152)) none 2 true false), (AOp.mk (some 154) (AK.mv (AX.t 18)) none 3 true false), (AOp.mk (some 155) (AK.mv (AX.t 2)) none 4 true false), (AOp.mk (some 156) (AK.mv (AX.t 18)) none 5 true false), (AOp.mk (some 157) (AK.call 48 [(AX.t 155), (AX.t 156)]) none 6 false false), (AOp.mk (some 158) (AK.call 32 [(AX.t 157), (AX.c (PV.val (Value.int IntKind.i64 5)))]) none 7 false false), (AOp.mk (some 159) (AK.bin false BinOp.shl (AX.c (PV.val (Value.int IntKind.i64 1))) (AX.t 158)) none 8 true false), (AOp.mk (some 160) (AK.build [(PV.val (Value.int IntKind.i64 0)), (PV.val (Value.int IntKind.i64 0))] [(0, (1, (AX.t 154))), (1, (1, (AX.t 159)))]) none 9 true false), (AOp.mk (some 161) (AK.bslice false 67 2 1 [(PV.val (Value.int IntKind.i64 0)), (PV.val (Value.int IntKind.i64 0))] [(0, (2, (AX.t 160)))]) none 10 false false), (AOp.mk (some 162) (AK.app false 67 2 16 [(PV.val (Value.int IntKind.i64 0)), (PV.val (Value.int IntKind.i64 0))] (AX.t 153) (AX.t 161)) none 11 false true), (AOp.mk (some 163) (AK.fadr 0 (AX.t 7)) none 12 true true), (AOp.mk (some 164) (AK.fadr 1 (AX.t 163)) none 13 true true), (AOp.mk none (AK.st 1 (AX.t 164) (AX.t 162)) none 14 false true)])) (AC.ops [(AOp.mk (some 149) (AK.mv (AX.t 18)) none 0 false true), (AOp.mk (some 150) (AK.bin false BinOp.add (AX.t 149) (AX.c (PV.val (Value.int IntKind.i64 1)))) none 1 false true), (AOp.mk (some 18) (AK.mv (AX.t 150)) none 2 false true)])))))) (AC.seq (AC.ops [(AOp.mk (some 166) (AK.ld (some 8) (AX.t 7)) none 0 true false), (AOp.mk (some 167) (AK.ld (some 8) (AX.t 7)) none 1 true false), (AOp.mk (some 168) (AK.mv (AX.t 14)) none 2 true false), (AOp.mk (some 169) (AK.call 45 [(AX.t 167), (AX.t 168), (AX.c (PV.val (Value.bool false)))]) none 3 false false), (AOp.mk (some 170) (AK.call 26 [(AX.t 166), (AX.t 169)]) none 4 false true), (AOp.mk (some 165) (AK.mv (AX.t 170)) none 5 true true), (AOp.mk (some 171) (AK.ext (AX.t 165) 0) none 6 true false), (AOp.mk (some 172) (AK.ext (AX.t 165) 1) none 7 true false), (AOp.mk (some 19) (AK.mv (AX.t 171)) none 8 true false), (AOp.mk (some 20) (AK.mv (AX.t 172)) none 9 true true)]) (AC.seq (AC.ops [(AOp.mk (some 173) (AK.mv (AX.t 20)) none 0 false true), (AOp.mk (some 174) (AK.bin false BinOp.eql (AX.t 173) (AX.c (PV.val (Value.int IntKind.i64 82)))) none 1 false true), (AOp.mk (some 175) (AK.mv (AX.t 174)) none 2 false true), (AOp.mk (some 176) (AK.mv (AX.t 20)) (some (175, false)) 3 false true), (AOp.mk (some 177) (AK.bin false BinOp.eql (AX.t 176) (AX.c (PV.val (Value.int IntKind.i64 0)))) (some (175, false)) 4 false true), (AOp.mk (some 178) (AK.mv (AX.t 177)) (some (175, false)) 5 false true), (AOp.mk (some 179) (AK.mv (AX.t 19)) (some (178, true)) 6 false true), (AOp.mk (some 180) (AK.mv (AX.t 14)) (some (178, true)) 7 false true), (AOp.mk (some 181) (AK.call 49 [(AX.t 179), (AX.t 180)]) (some (178, true)) 8 false true), (AOp.mk (some 182) (AK.bin false BinOp.lss (AX.t 181) (AX.c (PV.val (Value.int IntKind.i64 0)))) (some (178, true)) 9 false true), (AOp.mk (some 183) (AK.mv (AX.t 182)) (some (178, true)) 10 false true), (AOp.mk (some 184) (AK.mv (AX.t 19)) (some (183, false)) 11 false true), (AOp.mk (some 185) (AK.mv (AX.t 15)) (some (183, false)) 12 false true), (AOp.mk (some 186) (AK.call 49 [(AX.t 184), (AX.t 185)]) (some (183, false)) 13 false true), (AOp.mk (some 187) (AK.bin false BinOp.lss (AX.t 186) (AX.c (PV.val (Value.int IntKind.i64 0)))) (some (183, false)) 14 false true), (AOp.mk (some 188) (AK.pick (AX.t 183) (AX.c (PV.val (Value.bool true))) (AX.t 187)) (some (178, true)) 15 false true), (AOp.mk (some 189) (AK.pick (AX.t 178) (AX.t 188) (AX.c (PV.val (Value.bool false)))) (some (175, false)) 16 false true), (AOp.mk (some 190) (AK.pick (AX.t 175) (AX.c (PV.val (Value.bool true))) (AX.t 189)) none 17 false true), (AOp.mk (some 191) (AK.mv (AX.t 190)) none 18 false true), (AOp.mk (some 192) (AK.call 40 []) (some (191, true)) 19 false true), (AOp.mk (some 193) (AK.pick (AX.t 191) (AX.t 192) (AX.c (PV.val (Value.bool false)))) none 20 false true), (AOp.mk (some 6) (AK.mv (AX.t 193)) none 21 false true)]) AC.ret)))))))))
def ac10 : AC := (AC.seq (AC.ops [(AOp.mk (some 3) (AK.box 8 (AX.t 0)) none 0 false true), (AOp.mk (some 4) (AK.box 2 (AX.t 1)) none 1 false true), (AOp.mk (some 6) (AK.mv (AX.c (PV.val (Value.bool false)))) none 2 false true)]) (AC.seq (AC.seq (AC.ops [(AOp.mk (some 21) (AK.ld (some 8) (AX.t 3)) none 0 false true), (AOp.mk (some 22) (AK.call 39 [(AX.t 21)]) none 1 false true), (AOp.mk (some 23) (AK.un UnOp.not (AX.t 22)) none 2 false true)]) (AC.cond (AX.t 23) (AC.seq (AC.ops [(AOp.mk (some 24) (AK.call 40 []) none 0 false true), (AOp.mk (some 6) (AK.mv (AX.t 24)) none 1 false true)]) AC.ret) AC.skip)) (AC.seq (AC.ops [(AOp.mk (some 25) (AK.ld (some 8) (AX.t 3)) none 0 false true), (AOp.mk (some 7) (AK.new (PV.agg [(PV.sl SK.full 0 []), (PV.sl SK.full 0 []), (PV.val (Value.int IntKind.i64 0)), (PV.val (Value.int IntKind.i64 0)), (PV.sl SK.full 0 []), (PV.val (Value.int IntKind.i64 0)), (PV.sl SK.full 0 []), (PV.sl SK.full 0 [])])) none 1 false true), (AOp.mk none (AK.st 8 (AX.t 7) (AX.t 25)) none 2 false true)]) (AC.seq (AC.ops [(AOp.mk (some 26) (AK.fadr 0 (AX.t 7)) none 0 false true), (AOp.mk (some 27) (AK.fadr 2 (AX.t 26)) none 1 false true), (AOp.mk none (AK.st 1 (AX.t 27) (AX.c (PV.val (Value.int IntKind.i64 0)))) none 2 false true)]) (AC.seq (AC.ops [(AOp.mk (some 29) (AK.fadr 0 (AX.t 7)) none 0 false true), (AOp.mk (some 30) (AK.ld (some 4) (AX.t 29)) none 1 false true), (AOp.mk (some 31) (AK.call 41 [(AX.t 30)]) none 2 false true), (AOp.mk (some 28) (AK.mv (AX.t 31)) none 3 false true), (AOp.mk (some 32) (AK.ext (AX.t 28) 0) none 4 false true), (AOp.mk (some 33) (AK.ext (AX.t 28) 1) none 5 false true), (AOp.mk (some 8) (AK.mv (AX.t 32)) none 6 false true), (AOp.mk (some 9) (AK.mv (AX.t 33)) none 7 false true)]) (AC.seq (AC.ops [(AOp.mk (some 35) (AK.ld (some 8) (AX.t 7)) none 0 false true), (AOp.mk (some 36) (AK.call 22 [(AX.t 35)]) none 1 false true), (AOp.mk (some 34) (AK.mv (AX.t 36)) none 2 false true), (AOp.mk (some 37) (AK.ext (AX.t 34) 0) none 3 false true), (AOp.mk (some 38) (AK.ext (AX.t 34) 1) none 4 false true), (AOp.mk (some 10) (AK.new (PV.agg [(PV.val (Value.int IntKind.i64 0)), (PV.val (Value.int IntKind.i64 0))])) none 5 false true), (AOp.mk none (AK.st 2 (AX.t 10) (AX.t 37)) none 6 false true), (AOp.mk (some 11) (AK.mv (AX.t 38)) none 7 false true)]) (AC.seq (AC.seq (AC.ops [(AOp.mk (some 39) (AK.mv (AX.t 9)) none 0 false true), (AOp.mk (some 40) (AK.bin false BinOp.neq (AX.t 39) (AX.c (PV.val (Value.int IntKind.i64 0)))) none 1 false true), (AOp.mk (some 41) (AK.mv (AX.t 40)) none 2 false true), (AOp.mk (some 42) (AK.mv (AX.t 8)) (some (41, false)) 3 false true), (AOp.mk (some 43) (AK.len (AX.t 42)) (some (41, false)) 4 false true), (AOp.mk (some 44) (AK.bin false BinOp.eql (AX.t 43) (AX.c (PV.val (Value.int IntKind.i64 0)))) (some (41, false)) 5 false true), (AOp.mk (some 45) (AK.pick (AX.t 41) (AX.c (PV.val (Value.bool true))) (AX.t 44)) none 6 false true)]) (AC.cond (AX.t 45) (AC.seq (AC.ops [(AOp.mk (some 46) (AK.mv (AX.t 11)) none 0 false true), (AOp.mk (some 47) (AK.bin false BinOp.eql (AX.t 46) (AX.c (PV.val (Value.int IntKind.i64 82)))) none 1 false true), (AOp.mk (some 48) (AK.mv (AX.t 47)) none 2 false true), (AOp.mk (some 49) (AK.call 40 []) (some (48, true)) 3 false true), (AOp.mk (some 50) (AK.pick (AX.t 48) (AX.t 49) (AX.c (PV.val (Value.bool false)))) none 4 false true), (AOp.mk (some 6) (AK.mv (AX.t 50)) none 5 false true)]) AC.ret) AC.skip)) (AC.seq (AC.seq (AC.ops [(AOp.mk (some 51) (AK.mv (AX.t 11)) none 0 false true), (AOp.mk (some 52) (AK.bin false BinOp.neq (AX.t 51) (AX.c (PV.val (Value.int IntKind.i64 0)))) none 1 false true), (AOp.mk (some 53) (AK.mv (AX.t 52)) none 2 false true), (AOp.mk (some 54) (AK.mv (AX.t 8)) (some (53, false)) 3 false true), (AOp.mk (some 55) (AK.fadr 0 (AX.t 3)) (some (53, false)) 4 false true), (AOp.mk (some 56) (AK.fadr 0 (AX.t 55)) (some (53, false)) 5 false true), (AOp.mk (some 57) (AK.ld none (AX.t 56)) (some (53, false)) 6 false true), (AOp.mk (some 58) (AK.len (AX.t 57)) (some (53, false)) 7 false true), (AOp.mk (some 59) (AK.call 42 [(AX.t 54), (AX.t 58)]) (some (53, false)) 8 false true), (AOp.mk (some 60) (AK.un UnOp.not (AX.t 59)) (some (53, false)) 9 false true), (AOp.mk (some 61) (AK.pick (AX.t 53) (AX.c (PV.val (Value.bool true))) (AX.t 60)) none 10 false true)]) (AC.cond (AX.t 61) (AC.seq (AC.ops [(AOp.mk (some 6) (AK.mv (AX.c (PV.val (Value.bool false)))) none 0 false true)]) AC.ret) AC.skip)) (AC.seq (AC.tree (AT.op (AOp.mk (some 62) (AK.ld (some 8) (AX.t 7)) none 0 true false) (AT.op (AOp.mk (some 63) (AK.mv (AX.t 8)) none 1 true false) (AT.op (AOp.mk (some 64) (AK.iadrS 1 (AX.t 63) (AX.c (PV.val (Value.int IntKind.i64 0)))) none 2 true false) (AT.op (AOp.mk (some 65) (AK.ld none (AX.t 64)) none 3 true false) (AT.op (AOp.mk (some 67) (AK.ld (some 8) (AX.t 7)) none 5 true false) (AT.op (AOp.mk (some 68) (AK.mv (AX.t 8)) none 6 true false) (AT.op (AOp.mk (some 69) (AK.iadrS 1 (AX.t 68) (AX.c (PV.val (Value.int IntKind.i64 0)))) none 7 true false) (AT.op (AOp.mk (some 70) (AK.ld none (AX.t 69)) none 8 true false) (AT.fk (AOp.mk (some 66) (AK.call 45 [(AX.t 62), (AX.t 65), (AX.c (PV.val (Value.bool false)))]) none 4 false false) (AOp.mk (some 12) (AK.new (PV.agg [(PV.val (Value.int IntKind.i64 0)), (PV.val (Value.int IntKind.i64 0))])) none 11 false false) (AT.fk (AOp.mk (some 71) (AK.call 45 [(AX.t 67), (AX.t 70), (AX.c (PV.val (Value.bool true)))]) none 9 false false) (AOp.mk (some 12) (AK.new (PV.agg [(PV.val (Value.int IntKind.i64 0)), (PV.val (Value.int IntKind.i64 0))])) none 11 false false) (AT.fk (AOp.mk (some 72) (AK.call 36 [(AX.t 66), (AX.t 71)]) none 10 false false) (AOp.mk (some 12) (AK.new (PV.agg [(PV.val (Value.int IntKind.i64 0)), (PV.val (Value.int IntKind.i64 0))])) none 11 false false) (AT.op (AOp.mk (some 12) (AK.new (PV.agg [(PV.val (Value.int IntKind.i64 0)), (PV.val (Value.int IntKind.i64 0))])) none 11 false false) (AT.op (AOp.mk none (AK.st 2 (AX.t 12) (AX.t 72)) none 12 false true) AT.fin)) (AT.op (AOp.mk (some 72) (AK.call 36 [(AX.t 66), (AX.t 71)]) none 10 false false) (AT.op (AOp.mk none (AK.st 2 (AX.t 12) (AX.t 72)) none 12 false true) AT.fin))) (AT.op (AOp.mk (some 71) (AK.call 45 [(AX.t 67), (AX.t 70), (AX.c (PV.val (Value.bool true)))]) none 9 false false) (AT.op (AOp.mk (some 72) (AK.call 36 [(AX.t 66), (AX.t 71)]) none 10 false false) (AT.op (AOp.mk none (AK.st 2 (AX.t 12) (AX.t 72)) none 12 false true) AT.fin)))) (AT.op (AOp.mk (some 66) (AK.call 45 [(AX.t 62), (AX.t 65), (AX.c (PV.val (Value.bool false)))]) none 4 false false) (AT.op (AOp.mk (some 71) (AK.call 45 [(AX.t 67), (AX.t 70), (AX.c (PV.val (Value.bool true)))]) none 9 false false) (AT.op (AOp.mk (some 72) (AK.call 36 [(AX.t 66), (AX.t 71)]) none 10 false false) (AT.op (AOp.mk none (AK.st 2 (AX.t 12) (AX.t 72)) none 12 false true) AT.fin)))))))))))))) acr10)))))))))
theorem ac10_ok : cCode Tryz.prog (fun _ => false) Tryz.f10.ntmps (Tryz.f10.body.getD .skip) = some ac10 := by kernel_rfl
def valsL (b : EBook) (bits : List Int) : List Int := (List.range (nK b.mb)).map fun k => rndI (takeL bits (k : Nat)) 5
theorem vals_len (b : EBook) (bits : List Int) : (valsL b bits).length = nK b.mb := by simp [valsL]
theorem vals_five (b : EBook) (bits : List Int) : fiveL (valsL b bits) := fun x hx => by
  obtain ⟨k, -, rfl⟩ := List.mem_map.1 hx
  have := rndI_range (n := takeL bits (k : Nat)) (m := 5) (by decide)
  omega
theorem vals_at {b : EBook} {bits : List Int} {k : Nat} (hk : k < nK b.mb) : rndI (takeL bits (k : Nat)) 5 = (exV (valsL b bits) k : Int) := by
  have h1 : k < (valsL b bits).length := by rw [vals_len]; exact hk
  rw [← exV_get (vals_five b bits) h1]
  simp [valsL]
abbrev bkS (κ : KS) (b : EBook) (v : PV) : ABlk := .cells [.p (.sl κ.a 1 (rowsC b.mb.makers)), .p v, .p (pi 0), .p (pi b.mb.fixed), .p (.sl κ.c 6 (jobsC b.jobs)), .p (pi b.rate), .p (.sl κ.d 1 (b.extra.map fun x => [pi x])), .p (.sl κ.e 1 (b.coins.map fun x => [pi x]))]
abbrev bkO (κ : KS) (b : EBook) : ABlk := .cells ((ebC κ b).map .p)
abbrev spO (lo hi : Int) : ABlk := .cells [.p (pi lo), .p (pi hi)]
theorem foldl_take2 {f : Int → Int → Int} {x : Int} {l : List Int} {j : Nat} (h : j < l.length) : (l.take (j + 1)).foldl f x = f ((l.take j).foldl f x) l[j] := foldl_take f x l j h
theorem slZ_some {e : TypeId} {sz t : Nat} {rows : List (List PV)} : slZ e sz (some t) rows = .sl (.own t e sz) sz rows := rfl
set_option maxRecDepth 20000 in
set_option maxHeartbeats 8000000 in
theorem orig_rest (κ : KS) {b : EBook} (ho : okE b) {W : List Nat} (hWe : whoL (zM b.mb) = W) (h0 : 0 < W.length) (bits : List Int) (n0 n1 : Int) {C : Con} (hC : ∀ f args rd K s, SemP Tryz.prog Fence.wide f args rd K s → C.call f args rd K s) (t : List (Nat × AV))
    (h2 : look t 2 = .p (pis bits)) (h3 : look t 3 = .loc 0 0) (h4 : look t 4 = .loc 1 0) (h7 : look t 7 = .loc 2 0) (h8 : look t 8 = .p (pis (natL W))) (h10 : look t 10 = .loc 3 0) (h12 : look t 12 = .loc 4 0) :
    exec C acr10 (retC Tryz.prog [.tmp 6] (fun r => r = pb true)) ⟨t, [bkO κ b, spO n0 n1, bkS κ b (.sl κ.b 2 (seenC b.mb.seen)), spO (outI true (zB b) 1 (zB b).jobs) (outI false (zB b) 1 (zB b).jobs), spO (paidE true b W[0]) (paidE false b W[0])], [], some [], 0⟩ := by
  have hw : whoL (zM b.mb) ≠ [] := by rw [hWe]; exact List.length_pos_iff.1 h0
  have hJ := ho.2.1.2
  have hz : 0 < b.mb.makers.length := by have := ho.1.1.1; omega
  have hM5 := ho.1.1.1.2
  have hWm : ∀ m ∈ W, m < b.mb.makers.length := fun m hm => ((mem_who (b := zM b.mb)).1 (by rw [hWe]; exact hm)).1
  have hWl : W.length ≤ 5 := by
    have := who_len (zM b.mb)
    rw [hWe] at this
    have : W.length ≤ b.mb.makers.length := this
    omega
  have o1 := out_z ho hw true
  have o2 := out_z ho hw false
  rw [hWe] at o1 o2
  have hP : ∀ (κ : KS) (x : EBook) (_ : okE x) (m : Nat), m < x.mb.makers.length → Sem1 45 [.agg (ebC κ x), pi m, pb false] (pi (paidE true x m)) ∧ Sem1 45 [.agg (ebC κ x), pi m, pb true] (pi (paidE false x m)) := fun κ x hx m hm => ⟨paid08of_sem κ hx hm false, paid08of_sem κ hx hm true⟩
  have e0 : (W.map (paidE true b)).foldl min (paidE true b W[0]) = outI true (zB b) 1 (zB b).jobs := by
    rw [o1]
    have := minF_fold (l := W.map (paidE true b)) (by rw [List.length_map]; exact h0)
    rw [List.getElem_map] at this
    exact this
  have e1 : (W.map (paidE false b)).foldl max (paidE false b W[0]) = outI false (zB b) 1 (zB b).jobs := by
    rw [o2]
    have := maxF_fold (l := W.map (paidE false b)) (by rw [List.length_map]; exact h0)
    rw [List.getElem_map] at this
    exact this
  clear o1 o2
  generalize outI true (zB b) 1 (zB b).jobs = s0 at *
  generalize outI false (zB b) 1 (zB b).jobs = s1 at *
  generalize paidE true b W[0] = x0 at *
  generalize paidE false b W[0] = x1 at *
  unfold acr10
  simp only [go_sem]
  refine loop_kl W.length (fun _ => True) [2, 3, 4, 7, 8, 10, 12] (fun i => [(13, .p (pi i))]) (fun i => [bkO κ b, spO n0 n1, bkS κ b (.sl κ.b 2 (seenC b.mb.seen)), spO s0 s1, spO (((W.map (paidE true b)).take i).foldl min x0) (((W.map (paidE false b)).take i).foldl max x1)]) trivial (by simp [Wk, wkT, wkL, look, AV.lo, AV.lo.loL, ABlk.toZ, upS_eq, keepS_nil, keepS_cons, h2, h3, h4, h7, h8, h10, h12]) ?_
  rintro i ⟨hi, -⟩
  simp only [go_sem, Nat.reduceBEq, Nat.reduceAdd, h2, h3, h4, h7, h8, h10, h12, List.length_map, natL_len]
  refine ⟨fun d5 => ?_, fun d5 => ?_⟩
  · have hi2 : i < W.length := by omega
    have hi3 : i < (natL W).length := by rw [natL_len]; exact hi2
    have hgi : (natL W)[i] = (W[i] : Int) := by simp [natL]
    have ei := iadr_map (f := fun x : Int => [pi x]) (kd := .sh) (sz := 1) hi3
    rw [hgi] at ei
    have hm := hWm _ (List.getElem_mem hi2)
    have hmin := foldl_take2 (f := min) (x := x0) (l := W.map (paidE true b)) (j := i) (by rw [List.length_map]; exact hi2)
    have hmax := foldl_take2 (f := max) (x := x1) (l := W.map (paidE false b)) (j := i) (by rw [List.length_map]; exact hi2)
    rw [List.getElem_map] at hmin hmax
    obtain ⟨m, em⟩ : ∃ m, W[i] = m := ⟨_, rfl⟩
    rw [em] at ei hm hmin hmax
    obtain ⟨p1, p2⟩ := hP κ (zB b) (zB_ok ho) m hm
    rw [paidE_zB] at p1 p2
    simp only [go_sem, Nat.reduceBEq, Nat.reduceAdd, ei]
    refine call_pure2 hC (p1) rfl (PVleL_refl _) ?_
    rintro r rfl
    simp only [go_sem, Nat.reduceBEq]
    refine call_pure2 hC (p2) rfl (PVleL_refl _) ?_
    rintro r rfl
    simp only [go_sem, Nat.reduceBEq]
    refine call_pure2 hC (From_sem ..) rfl (PVleL_refl _) ?_
    rintro r rfl
    simp only [go_sem, Nat.reduceBEq]
    refine call_pure2 hC (Both_sem ((W.map (paidE true b)).take i |>.foldl min x0) ((W.map (paidE false b)).take i |>.foldl max x1) (paidE true b m) (paidE false b m)) rfl (PVleL_refl _) ?_
    rintro _ rfl
    simp only [go_sem, Nat.reduceBEq, Nat.reduceAdd, putCells, wrap_succ (k := i) (by omega)]
    refine ⟨⟨i + 1, hi2, trivial⟩, by simp only; omega, ?_⟩
    simp only [hmin, hmax]
    simp [Wk, wkT, wkL, look, AV.lo, AV.lo.loL, ABlk.toZ]
  · have hin : i = W.length := by omega
    subst hin
    have t0 : (W.map (paidE true b)).take W.length = W.map (paidE true b) := List.take_of_length_le (by simp)
    have t1 : (W.map (paidE false b)).take W.length = W.map (paidE false b) := List.take_of_length_le (by simp)
    have r0 := rndI_range (n := n0) (m := (b.mb.makers.length : Int)) (by omega)
    have r1 := rndI_range (n := n1) (m := (b.mb.makers.length : Int)) (by omega)
    obtain ⟨one, q0⟩ : ∃ k : Nat, rndI n0 (b.mb.makers.length : Int) = k := ⟨_, (Int.toNat_of_nonneg r0.1).symm⟩
    obtain ⟨other, q1⟩ : ∃ k : Nat, rndI n1 (b.mb.makers.length : Int) = k := ⟨_, (Int.toNat_of_nonneg r1.1).symm⟩
    rw [q0] at r0
    rw [q1] at r1
    simp only [go_sem, t0, t1, e0, e1, decide_false, not_true_eq_false, Bool.false_eq_true, false_implies, true_implies]
    refine call_pure2 hC (Round_sem n0 (b.mb.makers.length : Int)) rfl (PVleL_refl _) ?_
    rintro r rfl
    simp only [go_sem, Nat.reduceBEq, q0]
    refine call_pure2 hC (Round_sem n1 (b.mb.makers.length : Int)) rfl (PVleL_refl _) ?_
    rintro r rfl
    simp only [go_sem, Nat.reduceBEq, Nat.reduceAdd, Nat.reduceLeDiff, q1]
    have hTold := Mk.Told_sem κ.a κ.b (zM b.mb) (one : Int) (other : Int)
    have okO : okM (zM b.mb) (one : Int) = true := decide_eq_true (show 0 ≤ (one : Int) ∧ (one : Int) < (b.mb.makers.length : Int) from r0)
    have okP : okM (zM b.mb) (other : Int) = true := decide_eq_true (show 0 ≤ (other : Int) ∧ (other : Int) < (b.mb.makers.length : Int) from r1)
    have hbk := zM_ok ho.1
    by_cases heq : one = other
    · subst heq
      have : errA (zM b.mb) (okT (zM b.mb) (one : Int) (one : Int)) = 51 := by
        unfold errA okT
        rw [if_pos hbk, okO, decide_eq_false (fun h => h rfl)]
        rfl
      rw [this, if_neg (by decide)] at hTold
      refine call_pure2 hC (hTold) rfl (PVleL_refl _) ?_
      rintro r rfl
      simp only [go_sem, Nat.reduceBEq, decide_true]
      refine call_pure2 hC (paid08_sem) rfl (PVleL_refl _) ?_
      rintro r rfl
      simp only [go_sem, Nat.reduceBEq]
      exact retQ_one rfl rfl
    have hne : ¬ (one : Int) = other := by omega
    have he0 : errA (zM b.mb) (okT (zM b.mb) (one : Int) (other : Int)) = 0 := by
      unfold errA okT
      rw [if_pos hbk, okO, okP, decide_eq_true hne]
      rfl
    rw [he0, if_pos rfl, Int.toNat_natCast, Int.toNat_natCast] at hTold
    cases hb : bothB (zM b.mb) one other
    rotate_left
    · rw [hb] at hTold
      refine call_pure2 hC (hTold) rfl (PVleL_refl _) ?_
      rintro r rfl
      simp only [go_sem, Nat.reduceBEq, eq_false hne, decide_true, decide_false, not_true_eq_false, Bool.not_true, Int.reduceEq]
      refine call_pure2 hC (paid08_sem) rfl (PVleL_refl _) ?_
      rintro r rfl
      simp only [go_sem, Nat.reduceBEq]
      exact retQ_one rfl rfl
    rw [hb] at hTold
    refine call_pure2 hC (hTold) rfl (PVleL_refl _) ?_
    rintro r rfl
    simp only [go_sem, Nat.reduceBEq, Nat.reduceAdd, Nat.reduceLeDiff, eq_false hne, putCells, decide_false, not_true_eq_false, Bool.not_false, not_false_eq_true]
    have hK6 := ho.1.1.2.1
    have hv5 := vals_five b bits
    have hvl := vals_len b bits
    have hva : ∀ k, k < nK b.mb → rndI (takeL bits (k : Nat)) 5 = (exV (valsL b bits) k : Int) := fun k hk => vals_at hk
    obtain ⟨v, hv⟩ : ∃ v, valsL b bits = v := ⟨_, rfl⟩
    rw [hv] at hv5 hvl hva
    obtain ⟨hz1, hfl⟩ := okC.first ho.1.1
    have em0 : iadrS' 1 (.p (.sl κ.a 1 (rowsC b.mb.makers))) (.p (.val (.int .i64 0))) = some (.p (.ptr [pis b.mb.makers[0]] 0)) := iadr_map (f := fun h => [pis h]) (kd := κ.a) (sz := 1) (k := 0) hz1
    refine loop_g (α := Nat × Option Nat) (fun a => a.1 ≤ nK b.mb ∧ (a.2 = none → seenC (exL v a.1) = [])) (fun a => nK b.mb - a.1) [2, 3, 7, 14, 15] (fun a => [(18, .p (pi a.1))]) (fun a => [bkO κ b, spO n0 n1, bkS κ b (slZ 67 2 a.2 (seenC (exL v a.1)))]) (fun a => a.2.toList) (0, none) ⟨by omega, fun _ => rfl⟩ (by simp [Wk, wkT, wkL, look, AV.lo, AV.lo.loL, ABlk.toZ, upS_eq, keepS_nil, keepS_cons, slZ]) ?_
    rintro ⟨i, o⟩ ⟨hi, h0⟩
    replace hi : i ≤ nK b.mb := hi
    replace h0 : o = none → seenC (exL v i) = [] := h0
    simp only [go_sem, Nat.reduceBEq, Nat.reduceAdd, em0, hfl, List.length_map]
    refine ⟨fun d6 => ?_, fun d6 => ?_⟩
    · have hi2 : i < nK b.mb := by omega
      have hw5 := ex_five hv5 i
      have hwi := hva i hi2
      have hnx := exL_next v i
      obtain ⟨w, ew⟩ : ∃ w, exV v i = w := ⟨_, rfl⟩
      rw [ew] at hw5 hwi hnx
      have hcast : ((2 ^ w : Nat) : Int) = (2 : Int) ^ w := by norm_cast
      have hrow : seenC (exL v (i + 1)) = seenC (exL v i) ++ [[pi i, pi ((2 ^ w : Nat) : Int)]] := by
        rw [hnx, hcast]
        simp [seenC]
      refine call_pure2 hC (Take_sem bits i) rfl (PVleL_refl _) ?_
      rintro r rfl
      simp only [go_sem, Nat.reduceBEq]
      refine call_pure2 hC (Round_sem (takeL bits (i : Nat)) 5) rfl (PVleL_refl _) ?_
      rintro r rfl
      simp only [go_sem, Nat.reduceBEq, Nat.reduceAdd, Nat.reduceLeDiff, hwi, bin_shl (show ¬ (w : Int) < 0 by omega), shl6 (m := w) (by omega), putCells]
      refine app_slZ h0 (by rw [List.length_map, exL_len]; omega) (by simp) fun tk htk => ?_
      simp only [go_sem, Nat.reduceBEq, Nat.reduceAdd, Nat.reduceLeDiff, wrap_succ (k := i) (by omega), putCells, slZ_some]
      refine ⟨⟨(i + 1, some tk), hi2, (fun h => by cases h)⟩, by simp only; omega, ?_⟩
      simp only [hrow, slZ_some]
      refine ⟨by simp [wkT, look, AV.lo], by simp [wkL, AV.lo, AV.lo.loL, ABlk.toZ], by simp, by simp, rfl, rfl, by simp⟩
    · have hiv : i = v.length := by omega
      subst hiv
      obtain ⟨tk, rfl⟩ : ∃ tk, o = some tk := by
        cases o with
        | none =>
          have := congrArg List.length (h0 rfl)
          rw [List.length_map, exL_len, List.length_nil] at this
          omega
        | some tk => exact ⟨tk, rfl⟩
      have esl : slZ 67 2 (some tk) (seenC (exL v v.length)) = .sl (.own tk 67 2) 2 (seenC (exL v v.length)) := rfl
      rw [esl]
      have hox := exE_ok ho hv5 hvl
      obtain ⟨p1, -⟩ := hP { κ with b := .own tk 67 2 } (exE b v) hox one (show one < b.mb.makers.length by omega)
      have hap := apart_two ho hv5 hvl hb (p := paidE true (exE b v) one)
      obtain ⟨p, ep⟩ : ∃ p, paidE true (exE b v) one = p := ⟨_, rfl⟩
      rw [ep] at p1 hap
      have hWs := Whose_sem { κ with b := .own tk 67 2 } (exE b v) p
      refine call_pure2 hC p1 rfl (PVleL_refl _) ?_
      rintro _ rfl
      simp only [go_sem, Nat.reduceBEq]
      by_cases hxw : whoL (exE b v).mb = []
      · rw [errF_no hox hxw, if_neg (by decide)] at hWs
        refine call_pure2 hC hWs rfl (PVleL_refl _) ?_
        rintro _ rfl
        simp only [go_sem, Nat.reduceBEq, decide_true]
        refine call_pure2 hC (paid08_sem) rfl (PVleL_refl _) ?_
        rintro r rfl
        simp only [go_sem, Nat.reduceBEq]
        exact retQ_one rfl rfl
      · rw [errF_of hox hxw, if_pos rfl] at hWs
        obtain ⟨M, hM⟩ : ∃ M, whoseL (exE b v) p = M := ⟨_, rfl⟩
        rw [hM] at hWs hap
        have memN : ∀ k : Nat, (k : Int) ∈ natL M ↔ k ∈ M := fun k => by
          unfold natL
          rw [List.mem_map]
          exact ⟨fun ⟨a, ha, e⟩ => by rw [← show a = k by omega]; exact ha, fun h => ⟨k, h, rfl⟩⟩
        refine call_pure2 hC hWs rfl (PVleL_refl _) ?_
        rintro _ rfl
        simp only [go_sem, Nat.reduceBEq, decide_true, decide_false, Int.reduceEq]
        refine call_pure2 hC (Find_sem (natL M) (one : Int)) rfl (PVleL_refl _) ?_
        rintro _ ⟨f, rfl, hf⟩
        rw [memN] at hf
        by_cases h1 : f < 0
        · simp only [go_sem, Nat.reduceBEq, eq_true h1, decide_true]
          refine call_pure2 hC (paid08_sem) rfl (PVleL_refl _) ?_
          rintro r rfl
          simp only [go_sem, Nat.reduceBEq]
          exact retQ_one rfl rfl
        · have hin1 : one ∈ M := Classical.byContradiction fun h => h1 (hf.2 h)
          simp only [go_sem, Nat.reduceBEq, eq_false h1, decide_false]
          refine call_pure2 hC (Find_sem (natL M) (other : Int)) rfl (PVleL_refl _) ?_
          rintro _ ⟨g, rfl, hg⟩
          rw [memN] at hg
          have h2 : g < 0 := hg.2 fun h => hap ⟨hin1, h⟩
          simp only [go_sem, Nat.reduceBEq, eq_true h2, decide_true]
          refine call_pure2 hC (paid08_sem) rfl (PVleL_refl _) ?_
          rintro r rfl
          simp only [go_sem, Nat.reduceBEq]
          exact retQ_one rfl rfl
end Go.Proofs.YtlcpplkbmlmmbaaGreat.Mk.Me
namespace Go.Proofs.YtlcpplkbmlmmbaaGreat.Mk.Me
open Go.RowKit Ls
set_option maxRecDepth 20000 in
set_option maxHeartbeats 8000000 in
theorem Original_law (κ : KS) (b : EBook) (n0 n1 : Int) (bits : List Int) : Sem1 10 [.agg (ebC κ b), .agg [pi n0, pi n1], pis bits] (pb true) := by
  by_cases ho : okE b
  rotate_left
  · refine semC_of_exec' mixed Tryz.func10 (by kernel_rfl) (by kernel_rfl) ac10_ok 3 rfl (by decide) [(.tmp 6)] (by kernel_rfl) ?_
    intro hr C hC hI
    unfold ac10
    simp only [go_sem, Nat.reduceBEq, Nat.reduceAdd]
    refine call_pure2 hC (small08_sem κ b) rfl (PVleL_refl _) ?_
    rintro r rfl
    simp only [go_sem, Nat.reduceBEq, decide_eq_false ho]
    refine call_pure2 hC (paid08_sem) rfl (PVleL_refl _) ?_
    rintro r rfl
    simp only [go_sem, Nat.reduceBEq]
    exact retQ_one rfl rfl
  by_cases hw : whoL (zM b.mb) = []
  · have hF := errF_no (zB_ok ho) hw
    have hB := Bill_no κ hF
    refine semC_of_exec' mixed Tryz.func10 (by kernel_rfl) (by kernel_rfl) ac10_ok 3 rfl (by decide) [(.tmp 6)] (by kernel_rfl) ?_
    intro hr C hC hI
    unfold ac10
    simp only [go_sem, Nat.reduceBEq, Nat.reduceAdd]
    refine call_pure2 hC (small08_sem κ b) rfl (PVleL_refl _) ?_
    rintro r rfl
    simp only [go_sem, Nat.reduceBEq, Nat.reduceAdd, Nat.reduceLeDiff, decide_eq_true ho, putCells, not_false_eq_true]
    refine call_pure2 hC (Mk.Who_sem κ.a κ.b (zM b.mb)) rfl (PVleL_refl _) ?_
    rintro r hr2
    by_cases h0 : errR (zM b.mb) true = 0
    · rw [if_pos h0, hw] at hr2
      subst hr2
      simp only [go_sem, Nat.reduceBEq, Nat.reduceAdd, natL, List.map_nil, List.length_nil]
      refine call_pure2 hC (hB) rfl (PVleL_refl _) ?_
      rintro r rfl
      simp only [go_sem, Nat.reduceBEq, Nat.reduceAdd, putCells, List.map_nil, List.length_nil, Int.natCast_zero, decide_true, decide_false, not_true_eq_false, not_false_eq_true]
      refine call_pure2 hC (paid08_sem) rfl (PVleL_refl _) ?_
      rintro r rfl
      simp only [go_sem, Nat.reduceBEq]
      exact retQ_one rfl rfl
    · have h52 : errR (zM b.mb) true = 52 := by
        unfold errR at h0 ⊢
        rw [if_pos (zM_ok ho.1), if_pos rfl] at h0 ⊢
        cases hrb : rightB (zM b.mb)
        · rfl
        · rw [hrb] at h0
          exact absurd rfl h0
      rw [if_neg h0, h52] at hr2
      subst hr2
      simp only [go_sem, Nat.reduceBEq, Nat.reduceAdd]
      refine call_pure2 hC (hB) rfl (PVleL_refl _) ?_
      rintro r rfl
      simp only [go_sem, Nat.reduceBEq, Nat.reduceAdd, putCells, decide_true, not_false_eq_true, Int.reduceEq]
      refine call_pure2 hC (paid08_sem) rfl (PVleL_refl _) ?_
      rintro r rfl
      simp only [go_sem, Nat.reduceBEq]
      exact retQ_one rfl rfl
  have hF := errF_of (zB_ok ho) hw
  have h0 : errR (zM b.mb) true = 0 := by
    unfold errR
    rw [if_pos (zM_ok ho.1), if_pos rfl, if_pos (who_right hw)]
  have hWho : Sem1 41 [.agg (bookC κ.a κ.b (zM b.mb))] (.tup [pis (natL (whoL (zM b.mb))), pi 0]) := by
    have := Mk.Who_sem κ.a κ.b (zM b.mb)
    rwa [if_pos h0] at this
  have hln : ¬ ((natL (whoL (zM b.mb))).length : Int) = 0 := by
    rw [natL_len]
    have := List.length_pos_iff.2 hw
    omega
  have hpos := List.length_pos_iff.2 hw
  have hBill := Bill_ok κ hF
  unfold spanP at hBill
  have hgr : growsI (natL (whoL (zM b.mb))) b.mb.makers.length := grows_filt (show b.mb.makers.length ≤ 64 by have := ho.1.1.1.2; omega) _
  obtain ⟨W, hW⟩ : ∃ W, whoL (zM b.mb) = W := ⟨_, rfl⟩
  have hWm : ∀ m ∈ W, m < b.mb.makers.length := fun m hm => ((mem_who (b := zM b.mb)).1 (by rw [hW]; exact hm)).1
  rw [hW] at hWho hln hgr hpos
  have ei : iadrS' 1 (.p (pis (natL W))) (.p (.val (.int .i64 0))) = some (.p (.ptr [pi ((W[0] : Nat) : Int)] 0)) := by
    have e := iadr_map (f := fun x : Int => [pi x]) (kd := .sh) (sz := 1) (l := natL W) (k := 0) (by rw [natL_len]; exact hpos)
    have hgi : (natL W)[0]'(by rw [natL_len]; exact hpos) = (W[0] : Int) := by simp [natL]
    rw [hgi] at e
    exact e
  have p1 := paid08of_sem κ (zB_ok ho) (m := W[0]) (hWm _ (List.getElem_mem hpos)) false
  have p2 := paid08of_sem κ (zB_ok ho) (m := W[0]) (hWm _ (List.getElem_mem hpos)) true
  refine semC_of_exec' mixed Tryz.func10 (by kernel_rfl) (by kernel_rfl) ac10_ok 3 rfl (by decide) [(.tmp 6)] (by kernel_rfl) ?_
  intro hr C hC hI
  unfold ac10
  simp only [go_sem, Nat.reduceBEq, Nat.reduceAdd]
  refine call_pure2 hC (small08_sem κ b) rfl (PVleL_refl _) ?_
  rintro r rfl
  simp only [go_sem, Nat.reduceBEq, Nat.reduceAdd, Nat.reduceLeDiff, decide_eq_true ho, putCells, not_false_eq_true]
  refine call_pure2 hC (hWho) rfl (PVleL_refl _) ?_
  rintro r rfl
  simp only [go_sem, Nat.reduceBEq, Nat.reduceAdd]
  refine call_pure2 hC (hBill) rfl (PVleL_refl _) ?_
  rintro r rfl
  simp only [go_sem, Nat.reduceBEq, Nat.reduceAdd, putCells, List.length_map, eq_false hln, decide_false, not_true_eq_false, not_false_eq_true]
  refine call_pure2 hC (Grows_sem (natL W) b.mb.makers.length) rfl (PVleL_refl _) ?_
  rintro r ⟨t, rfl, ht⟩
  rw [ht.2 hgr]
  simp only [go_sem, Nat.reduceBEq, Nat.reduceAdd, Bool.false_eq_true, ei, gs_newA, gs_stA, List.map_cons, List.map_nil]
  repeat' (first | (guard_target =~ _ ∧ _; constructor) | (guard_target =~ _ ∨ _; simp; done) | (guard_target =~ _ ≤ _; simp; done) | (guard_target =~ Con.call _ 45 _ _ _ _; first | (refine call_pure2 hC p1 rfl (PVleL_refl _) ?_; rintro _ rfl; simp only [go_sem, Nat.reduceBEq, Nat.reduceAdd]) | (refine call_pure2 hC p2 rfl (PVleL_refl _) ?_; rintro _ rfl; simp only [go_sem, Nat.reduceBEq, Nat.reduceAdd])) | (guard_target =~ Con.call _ 36 _ _ _ _; refine call_pure2 hC (From_sem _ _) rfl (PVleL_refl _) ?_; rintro _ rfl; simp only [go_sem, Nat.reduceBEq, Nat.reduceAdd, stG_loc, stGB_cells, List.map_cons, List.map_nil, true_or, true_and, putCells]))
  all_goals (refine orig_rest κ ho hW hpos bits n0 n1 hC _ ?_ ?_ ?_ ?_ ?_ ?_ ?_ <;> rfl)
set_option maxRecDepth 100000 in
theorem Original_row {l0 l1 l2 : List PV} (T0 : Ty Tryz.prog 10 29 l0) (T1 : Ty Tryz.prog 10 47 l1) (T2 : Ty Tryz.prog 10 27 l2) : SemC Tryz.prog 10 [argPV Tryz.prog 29 l0, argPV Tryz.prog 47 l1, argPV Tryz.prog 27 l2] (fun r => r = pb true) := by
  obtain ⟨b, rfl⟩ := ty_ebook T0
  obtain ⟨n0, n1, rfl⟩ := ty_two T1
  obtain ⟨bits, rfl⟩ := ty_ints T2
  rw [argStruct Tryz.underlying29, argArray Tryz.underlying47, argSlice Tryz.underlying27]
  exact Original_law shK b n0 n1 bits
end Go.Proofs.YtlcpplkbmlmmbaaGreat.Mk.Me
namespace Go.Proofs.YtlcpplkbmlmmbaaGreat
open Go.Proofs.YtlcpplkbmlmmbaaGreat Go.ChangeShapes Go.WideShapes Go.ChangeAt Go.RowKit Go.Deep

set_option maxRecDepth 100000 in
theorem topOriginal_lifted (os : Os) (started : os.Started) (H : Type) (enc : TypeId × Value → H) :
    ReturnsInHanded {} Tryz.checked os 10 .any (Rows.topOriginalSpec.pre6 enc Tryz.prog Tryz.f10 Rows.topOriginalRow.domain false) (Rows.topOriginalSpec.post enc Tryz.prog Tryz.f10 false true false false) := by
  refine returnsInHanded_of_change_sized (C := Tryz.checked) ownKnobs started (by kernel_rfl) Tryz.func10
    (ChangeSpec.witness6 (enc := enc) (C := Tryz.checked) false ⟨#[], #[.agg #[.slice none 0 0, .slice none 0 0, .int .i64 0, .int .i64 0, .slice none 0 0, .int .i64 0, .slice none 0 0, .slice none 0 0], .agg #[.int .i64 0, .int .i64 0], .slice none 0 0], []⟩ 8 (by kernel_rfl) (by kernel_rfl) (by kernel_rfl) (by kernel_rfl)) ?_
  intro W base args ds gs before hval0 hW hcnd hsz0 _
  have hval : ∀ (j : Nat) t v, Tryz.f10.params[j]? = some t → args[j]? = some v → Value.okWide Tryz.prog W .any base t v := hval0
  have hsz : (DataW.weightsEach Tryz.prog (Tryz.f10.params.toList ++ Rows.topOriginalSpec.plain.varTypes Tryz.prog) (ds ++ gs)).all (· ≤ reachBytes) = true := hsz0
  have hW' := hW
  obtain ⟨p, q, hA0, hV, rfl, hfz, hnd⟩ := hW
  have hA : DataW.TrodAll enc Tryz.prog W 0 (fun _ => true) true Tryz.f10.params.toList args.toList ds p := hA0
  rw [Tryz.params10] at hA hval hsz
  obtain ⟨v0, vs0, d0, ds0, p0, q0, hargs, rfl, rfl, h0, r0⟩ := trodAll_cons hA
  obtain ⟨v1, vs1, d1, ds1, p1, q1, rfl, rfl, rfl, h1, r1⟩ := trodAll_cons r0
  obtain ⟨v2, vs2, d2, ds2, p2, q2, rfl, rfl, rfl, h2, r2⟩ := trodAll_cons r1
  obtain ⟨rfl, rfl, rfl⟩ := trodAll_nil r2
  obtain rfl : args = #[v0, v1, v2] := by cases args; simp_all
  obtain ⟨rfl, rfl⟩ := trodVars_none hV
  have lt0 : ∀ x ∈ p0, x.block < W.heap.size := by obtain ⟨m, hm⟩ := h0; exact DataW.trod_lt m _ _ _ hm
  have lt1 : ∀ x ∈ p1, x.block < W.heap.size := by obtain ⟨m, hm⟩ := h1; exact DataW.trod_lt m _ _ _ hm
  have lt2 : ∀ x ∈ p2, x.block < W.heap.size := by obtain ⟨m, hm⟩ := h2; exact DataW.trod_lt m _ _ _ hm
  have z0 : SizedP Tryz.prog 29 d0 := sizedP_each hsz (j := 0) rfl rfl
  obtain ⟨l0, T0, R0⟩ := rd_arg 10 (by kernel_rfl) (hval 0 29 v0 rfl rfl) h0 z0
  have z1 : SizedP Tryz.prog 47 d1 := sizedP_each hsz (j := 1) rfl rfl
  obtain ⟨l1, T1, R1⟩ := rd_arg 10 (by kernel_rfl) (hval 1 47 v1 rfl rfl) h1 z1
  have z2 : SizedP Tryz.prog 27 d2 := sizedP_each hsz (j := 2) rfl rfl
  obtain ⟨l2, T2, R2⟩ := rd_arg 10 (by kernel_rfl) (hval 2 27 v2 rfl rfl) h2 z2
  clear hA0 hval0 hsz0
  refine (law_calls (Mk.Me.Original_row T0 T1 T2) (argsP_cons R0 (argsP_cons R1 (argsP_cons R2 argsP_nil)))).mono fun e W' ⟨he, bel⟩ => ?_
  subst he
  exact ⟨_, rfl, _, _, _, [], _, [], hW', trodAll_mk1 (shut_bool Tryz.underlying4 _), (trodAll_cons_mk (Below.trod laidOut (by kernel_rfl) (of_decide_eq_true (by kernel_rfl)) h0 bel lt0) (trodAll_cons_mk (Below.trod laidOut (by kernel_rfl) (of_decide_eq_true (by kernel_rfl)) h1 bel lt1) (trodAll_cons_mk (Below.trod laidOut (by kernel_rfl) (of_decide_eq_true (by kernel_rfl)) h2 bel lt2) trodAll_mk0))), rfl, bel.frame _, fun h => by cases h⟩

theorem topOriginal_joined : joinedFacts Tryz.prog 10 Tryz.f10 Rows.topOriginalSpec Rows.topOriginalRow = true := by
  simp only [joinedFacts, Bool.and_eq_true]
  repeat' apply And.intro
  all_goals first | with_reducible exact laidOut | with_reducible exact mapsR | with_reducible exact stopsH | with_reducible exact mayE | (rw [lift0]; kernel_rfl) | (rw [make0]; kernel_rfl) | kernel_rfl

theorem topOriginal_holds : Rows.TopOriginalSaid :=
  OpenClaim.holds_of_wide 10 Tryz.f10 rfl rfl rfl rfl rfl rfl rfl ⟨rfl, rfl, rfl, rfl, rfl⟩ rfl rfl rfl rfl rfl (by kernel_rfl) Tryz.func10 topOriginal_joined
    (of_decide_eq_true (by kernel_rfl)) (by unfold Func.isWrapper; first | (rw [if_pos (by decide +kernel)]; kernel_rfl) | (rw [if_neg (by decide +kernel)]; exact ⟨rfl, rfl⟩))
    (fun os started H enc _ => topOriginal_lifted os started H enc)
end Go.Proofs.YtlcpplkbmlmmbaaGreat
