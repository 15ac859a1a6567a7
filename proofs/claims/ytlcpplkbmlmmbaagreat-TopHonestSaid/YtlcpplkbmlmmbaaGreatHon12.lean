/- TopHonest returns true for every book; no condition. TopHonest. -/
import Derived.Test.YtlcpplkbmlmmbaaGreatHon11
import Derived.Test.YtlcpplkbmlmmbaaGreatGa17
namespace Go.Proofs.YtlcpplkbmlmmbaaGreat.Mk.Me
open Go.RowKit Ls
def ac9 : AC := (AC.seq (AC.ops [(AOp.mk (some 1) (AK.box 8 (AX.t 0)) none 0 false true), (AOp.mk (some 2) (AK.mv (AX.c (PV.val (Value.bool false)))) none 1 false true)]) (AC.seq (AC.seq (AC.ops [(AOp.mk (some 11) (AK.ld (some 8) (AX.t 1)) none 0 false true), (AOp.mk (some 12) (AK.call 39 [(AX.t 11)]) none 1 false true), (AOp.mk (some 13) (AK.un UnOp.not (AX.t 12)) none 2 false true)]) (AC.cond (AX.t 13) (AC.seq (AC.ops [(AOp.mk (some 14) (AK.call 40 []) none 0 false true), (AOp.mk (some 2) (AK.mv (AX.t 14)) none 1 false true)]) AC.ret) AC.skip)) (AC.seq (AC.ops [(AOp.mk (some 16) (AK.fadr 0 (AX.t 1)) none 0 false true), (AOp.mk (some 17) (AK.ld (some 4) (AX.t 16)) none 1 false true), (AOp.mk (some 18) (AK.call 41 [(AX.t 17)]) none 2 false true), (AOp.mk (some 15) (AK.mv (AX.t 18)) none 3 false true), (AOp.mk (some 19) (AK.ext (AX.t 15) 0) none 4 false true), (AOp.mk (some 20) (AK.ext (AX.t 15) 1) none 5 false true), (AOp.mk (some 3) (AK.mv (AX.t 19)) none 6 false true), (AOp.mk (some 4) (AK.mv (AX.t 20)) none 7 false true)]) (AC.seq (AC.ops [(AOp.mk (some 22) (AK.ld (some 8) (AX.t 1)) none 0 false true), (AOp.mk (some 23) (AK.call 22 [(AX.t 22)]) none 1 false true), (AOp.mk (some 21) (AK.mv (AX.t 23)) none 2 false true), (AOp.mk (some 24) (AK.ext (AX.t 21) 0) none 3 false true), (AOp.mk (some 25) (AK.ext (AX.t 21) 1) none 4 false true), (AOp.mk (some 5) (AK.new (PV.agg [(PV.val (Value.int IntKind.i64 0)), (PV.val (Value.int IntKind.i64 0))])) none 5 false true), (AOp.mk none (AK.st 2 (AX.t 5) (AX.t 24)) none 6 false true), (AOp.mk (some 6) (AK.mv (AX.t 25)) none 7 false true)]) (AC.seq (AC.seq (AC.ops [(AOp.mk (some 26) (AK.mv (AX.t 4)) none 0 false true), (AOp.mk (some 27) (AK.bin false BinOp.neq (AX.t 26) (AX.c (PV.val (Value.int IntKind.i64 0)))) none 1 false true), (AOp.mk (some 28) (AK.mv (AX.t 27)) none 2 false true), (AOp.mk (some 29) (AK.mv (AX.t 3)) (some (28, false)) 3 false true), (AOp.mk (some 30) (AK.len (AX.t 29)) (some (28, false)) 4 false true), (AOp.mk (some 31) (AK.bin false BinOp.eql (AX.t 30) (AX.c (PV.val (Value.int IntKind.i64 0)))) (some (28, false)) 5 false true), (AOp.mk (some 32) (AK.pick (AX.t 28) (AX.c (PV.val (Value.bool true))) (AX.t 31)) none 6 false true)]) (AC.cond (AX.t 32) (AC.seq (AC.ops [(AOp.mk (some 33) (AK.mv (AX.t 4)) none 0 false true), (AOp.mk (some 34) (AK.bin false BinOp.eql (AX.t 33) (AX.c (PV.val (Value.int IntKind.i64 0)))) none 1 false true), (AOp.mk (some 35) (AK.mv (AX.t 34)) none 2 false true), (AOp.mk (some 36) (AK.mv (AX.t 4)) (some (35, false)) 3 false true), (AOp.mk (some 37) (AK.bin false BinOp.eql (AX.t 36) (AX.c (PV.val (Value.int IntKind.i64 52)))) (some (35, false)) 4 false true), (AOp.mk (some 38) (AK.pick (AX.t 35) (AX.c (PV.val (Value.bool true))) (AX.t 37)) none 5 false true), (AOp.mk (some 39) (AK.mv (AX.t 38)) none 6 false true), (AOp.mk (some 40) (AK.mv (AX.t 6)) (some (39, true)) 7 false true), (AOp.mk (some 41) (AK.bin false BinOp.eql (AX.t 40) (AX.c (PV.val (Value.int IntKind.i64 82)))) (some (39, true)) 8 false true), (AOp.mk (some 42) (AK.pick (AX.t 39) (AX.t 41) (AX.c (PV.val (Value.bool false)))) none 9 false true), (AOp.mk (some 43) (AK.mv (AX.t 42)) none 10 false true), (AOp.mk (some 44) (AK.call 40 []) (some (43, true)) 11 false true), (AOp.mk (some 45) (AK.pick (AX.t 43) (AX.t 44) (AX.c (PV.val (Value.bool false)))) none 12 false true), (AOp.mk (some 2) (AK.mv (AX.t 45)) none 13 false true)]) AC.ret) AC.skip)) (AC.seq (AC.seq (AC.ops [(AOp.mk (some 46) (AK.mv (AX.t 6)) none 0 false true), (AOp.mk (some 47) (AK.bin false BinOp.neq (AX.t 46) (AX.c (PV.val (Value.int IntKind.i64 0)))) none 1 false true), (AOp.mk (some 48) (AK.mv (AX.t 47)) none 2 false true), (AOp.mk (some 49) (AK.fadr 0 (AX.t 5)) (some (48, false)) 3 false true), (AOp.mk (some 50) (AK.ld none (AX.t 49)) (some (48, false)) 4 false true), (AOp.mk (some 51) (AK.bin false BinOp.lss (AX.t 50) (AX.c (PV.val (Value.int IntKind.i64 0)))) (some (48, false)) 5 false true), (AOp.mk (some 52) (AK.pick (AX.t 48) (AX.c (PV.val (Value.bool true))) (AX.t 51)) none 6 false true), (AOp.mk (some 53) (AK.mv (AX.t 52)) none 7 false true), (AOp.mk (some 54) (AK.fadr 1 (AX.t 5)) (some (53, false)) 8 false true), (AOp.mk (some 55) (AK.ld none (AX.t 54)) (some (53, false)) 9 false true), (AOp.mk (some 56) (AK.fadr 0 (AX.t 5)) (some (53, false)) 10 false true), (AOp.mk (some 57) (AK.ld none (AX.t 56)) (some (53, false)) 11 false true), (AOp.mk (some 58) (AK.bin false BinOp.sub (AX.t 55) (AX.t 57)) (some (53, false)) 12 false true), (AOp.mk (some 59) (AK.bin false BinOp.gtr (AX.t 58) (AX.c (PV.val (Value.int IntKind.i64 3000)))) (some (53, false)) 13 false true), (AOp.mk (some 60) (AK.pick (AX.t 53) (AX.c (PV.val (Value.bool true))) (AX.t 59)) none 14 false true)]) (AC.cond (AX.t 60) (AC.seq (AC.ops [(AOp.mk (some 2) (AK.mv (AX.c (PV.val (Value.bool false)))) none 0 false true)]) AC.ret) AC.skip)) (AC.seq (AC.ops [(AOp.mk (some 7) (AK.mv (AX.c (PV.val (Value.int IntKind.i64 0)))) none 0 false true)]) (AC.seq (AC.seq (AC.ops [(AOp.mk (some 61) (AK.fadr 0 (AX.t 5)) none 0 false true), (AOp.mk (some 62) (AK.ld none (AX.t 61)) none 1 false true), (AOp.mk (some 8) (AK.mv (AX.t 62)) none 2 false true)]) (AC.block 0 (AC.loop (AC.seq (AC.seq (AC.ops [(AOp.mk (some 63) (AK.mv (AX.t 8)) none 0 false true), (AOp.mk (some 64) (AK.fadr 1 (AX.t 5)) none 1 false true), (AOp.mk (some 65) (AK.ld none (AX.t 64)) none 2 false true), (AOp.mk (some 66) (AK.bin false BinOp.leq (AX.t 63) (AX.t 65)) none 3 false true)]) (AC.cond (AX.t 66) AC.skip (AC.exit 0))) (AC.seq (AC.block 1 (AC.seq (AC.ops [(AOp.mk (some 70) (AK.ld (some 8) (AX.t 1)) none 0 false true), (AOp.mk (some 71) (AK.mv (AX.t 8)) none 1 false true), (AOp.mk (some 72) (AK.call 26 [(AX.t 70), (AX.t 71)]) none 2 false true), (AOp.mk (some 69) (AK.mv (AX.t 72)) none 3 false true), (AOp.mk (some 73) (AK.ext (AX.t 69) 0) none 4 false true), (AOp.mk (some 74) (AK.ext (AX.t 69) 1) none 5 false true), (AOp.mk (some 9) (AK.mv (AX.t 73)) none 6 false true), (AOp.mk (some 10) (AK.mv (AX.t 74)) none 7 false true)]) (AC.seq (AC.seq (AC.ops [(AOp.mk (some 75) (AK.mv (AX.t 10)) none 0 false true), (AOp.mk (some 76) (AK.bin false BinOp.neq (AX.t 75) (AX.c (PV.val (Value.int IntKind.i64 0)))) none 1 false true), (AOp.mk (some 77) (AK.mv (AX.t 76)) none 2 false true), (AOp.mk (some 78) (AK.mv (AX.t 9)) (some (77, false)) 3 false true), (AOp.mk (some 79) (AK.fadr 0 (AX.t 1)) (some (77, false)) 4 false true), (AOp.mk (some 80) (AK.fadr 0 (AX.t 79)) (some (77, false)) 5 false true), (AOp.mk (some 81) (AK.ld none (AX.t 80)) (some (77, false)) 6 false true), (AOp.mk (some 82) (AK.len (AX.t 81)) (some (77, false)) 7 false true), (AOp.mk (some 83) (AK.call 42 [(AX.t 78), (AX.t 82)]) (some (77, false)) 8 false true), (AOp.mk (some 84) (AK.un UnOp.not (AX.t 83)) (some (77, false)) 9 false true), (AOp.mk (some 85) (AK.pick (AX.t 77) (AX.c (PV.val (Value.bool true))) (AX.t 84)) none 10 false true)]) (AC.cond (AX.t 85) (AC.seq (AC.ops [(AOp.mk (some 2) (AK.mv (AX.c (PV.val (Value.bool false)))) none 0 false true)]) AC.ret) AC.skip)) (AC.ops [(AOp.mk (some 86) (AK.mv (AX.t 7)) none 0 false true), (AOp.mk (some 87) (AK.mv (AX.t 9)) none 1 false true), (AOp.mk (some 88) (AK.call 43 [(AX.t 87)]) none 2 false true), (AOp.mk (some 89) (AK.bin false BinOp.or (AX.t 86) (AX.t 88)) none 3 false true), (AOp.mk (some 7) (AK.mv (AX.t 89)) none 4 false true)])))) (AC.ops [(AOp.mk (some 67) (AK.mv (AX.t 8)) none 0 false true), (AOp.mk (some 68) (AK.bin false BinOp.add (AX.t 67) (AX.c (PV.val (Value.int IntKind.i64 1)))) none 1 false true), (AOp.mk (some 8) (AK.mv (AX.t 68)) none 2 false true)])))))) (AC.seq (AC.ops [(AOp.mk (some 90) (AK.mv (AX.t 7)) none 0 false true), (AOp.mk (some 91) (AK.fadr 0 (AX.t 1)) none 1 false true), (AOp.mk (some 92) (AK.fadr 0 (AX.t 91)) none 2 false true), (AOp.mk (some 93) (AK.ld none (AX.t 92)) none 3 false true), (AOp.mk (some 94) (AK.len (AX.t 93)) none 4 false true), (AOp.mk (some 95) (AK.call 44 [(AX.t 90), (AX.t 94)]) none 5 false true), (AOp.mk (some 96) (AK.mv (AX.t 3)) none 6 false true), (AOp.mk (some 97) (AK.call 28 [(AX.t 95), (AX.t 96)]) none 7 false true), (AOp.mk (some 98) (AK.mv (AX.t 97)) none 8 false true), (AOp.mk (some 99) (AK.call 40 []) (some (98, true)) 9 false true), (AOp.mk (some 100) (AK.pick (AX.t 98) (AX.t 99) (AX.c (PV.val (Value.bool false)))) none 10 false true), (AOp.mk (some 2) (AK.mv (AX.t 100)) none 11 false true)]) AC.ret)))))))))
theorem ac9_ok : cCode Tryz.prog (fun _ => false) Tryz.f9.ntmps (Tryz.f9.body.getD .skip) = some ac9 := by kernel_rfl
theorem whose_grows2 (b : EBook) (pence : Int) : growsI (natL (whoseL b pence)) b.mb.makers.length := by
  refine ⟨?_, fun n hn => ?_⟩
  · unfold incL natL
    rw [List.pairwise_map]
    exact (whose_inc b pence).imp fun h => by omega
  · unfold natL at hn
    obtain ⟨m, hm, rfl⟩ := List.mem_map.1 hn
    have := (mem_who.1 (whose_who hm)).1
    omega
def accN (b : EBook) (lo : Int) : Nat → Nat
  | 0 => 0
  | i + 1 => accN b lo i ||| setOf (whoseL b (lo + i))
theorem acc_bit (b : EBook) (lo : Int) (m : Nat) : ∀ i, (accN b lo i).testBit m = true ↔ ∃ j, j < i ∧ m ∈ whoseL b (lo + (j : Nat))
  | 0 => by simp [accN]
  | i + 1 => by
    rw [accN, Nat.testBit_or, Bool.or_eq_true, acc_bit b lo m i, setOf_bit]
    constructor
    · rintro (⟨j, hj, h⟩ | h)
      · exact ⟨j, by omega, h⟩
      · exact ⟨i, by omega, h⟩
    · rintro ⟨j, hj, h⟩
      by_cases e : j = i
      · subst e; exact .inr h
      · exact .inl ⟨j, by omega, h⟩
theorem whose_lt {b : EBook} (ho : okE b) {p : Int} : ∀ m ∈ whoseL b p, m < 5 := fun m hm => by
  have h1 := (mem_who.1 (whose_who hm)).1
  have h2 := ho.1.1.1.2
  omega
theorem acc_lt {b : EBook} (ho : okE b) (lo : Int) : ∀ i, accN b lo i < 2 ^ 5
  | 0 => by simp [accN]
  | i + 1 => Nat.or_lt_two_pow (acc_lt ho lo i) (setOf_lt (whose_lt ho))
theorem acc_all {b : EBook} (ho : okE b) {N : Nat} (hN : (N : Int) = outI false b 1 b.jobs - outI true b 1 b.jobs + 1) : listI (accN b (outI true b 1 b.jobs) N) b.mb.makers.length = natL (whoL b.mb) := by
  have h5 := ho.1.1.1.2
  have hgr : growsI (natL (whoL b.mb)) b.mb.makers.length := grows_filt (by omega) _
  refine inc_ext (listI_inc _ _) hgr.1 fun n => ?_
  constructor
  · intro hn
    obtain ⟨h0, h1⟩ := (grows_list _ _).2 n hn
    obtain ⟨m, rfl⟩ : ∃ m : Nat, n = m := ⟨n.toNat, by omega⟩
    rw [mem_listI (by omega), of_bit (by omega), acc_bit] at hn
    obtain ⟨j, hj, h⟩ := hn
    exact List.mem_map.2 ⟨m, whose_who h, rfl⟩
  · intro hn
    obtain ⟨m, hm, rfl⟩ := List.mem_map.1 hn
    have hlt := (mem_who.1 hm).1
    rw [mem_listI hlt, of_bit (by omega), acc_bit]
    obtain ⟨s, hs⟩ := who_known hm
    obtain ⟨cs, h1, h2⟩ := ends_costs (b := b) (m, s) true b.jobs fun j hj => ho.span hj
    have hc := can_of ho h1
    obtain ⟨g1, g2⟩ := can_has ho hs hc
    refine ⟨(paidL b.jobs cs - outI true b 1 b.jobs).toNat, by omega, ?_⟩
    rw [show outI true b 1 b.jobs + ((paidL b.jobs cs - outI true b 1 b.jobs).toNat : Nat) = paidL b.jobs cs by omega]
    exact mem_whose.2 ⟨s, hs, hc⟩
set_option maxHeartbeats 2000000 in
theorem Honest_law (κ : KS) (b : EBook) : Sem1 9 [.agg (ebC κ b)] (pb true) := by
  by_cases ho : okE b
  rotate_left
  · refine semC_of_exec' mixed Tryz.func9 (by kernel_rfl) (by kernel_rfl) ac9_ok 1 rfl (by decide) [(.tmp 2)] (by kernel_rfl) ?_
    intro hr C hC hI
    unfold ac9
    simp only [go_sem, Nat.reduceBEq, Nat.reduceAdd]
    refine call_pure2 hC (small08_sem κ b) rfl (PVleL_refl _) ?_
    rintro r rfl
    simp only [go_sem, Nat.reduceBEq, decide_eq_false ho]
    refine call_pure2 hC (paid08_sem) rfl (PVleL_refl _) ?_
    rintro r rfl
    simp only [go_sem, Nat.reduceBEq]
    exact retQ_one rfl rfl
  by_cases hw : whoL b.mb = []
  · have hF := errF_no ho hw
    refine semC_of_exec' mixed Tryz.func9 (by kernel_rfl) (by kernel_rfl) ac9_ok 1 rfl (by decide) [(.tmp 2)] (by kernel_rfl) ?_
    intro hr C hC hI
    unfold ac9
    simp only [go_sem, Nat.reduceBEq, Nat.reduceAdd]
    refine call_pure2 hC (small08_sem κ b) rfl (PVleL_refl _) ?_
    rintro r rfl
    simp only [go_sem, Nat.reduceBEq, Nat.reduceAdd, Nat.reduceLeDiff, decide_eq_true ho]
    refine call_pure2 hC (Mk.Who_sem κ.a κ.b b.mb) rfl (PVleL_refl _) ?_
    rintro r hr2
    by_cases h0 : errR b.mb true = 0
    · rw [if_pos h0, hw] at hr2
      subst hr2
      simp only [go_sem, Nat.reduceBEq, Nat.reduceAdd, natL, List.map_nil, List.length_nil]
      refine call_pure2 hC (Bill_no κ hF) rfl (PVleL_refl _) ?_
      rintro r rfl
      simp only [go_sem, Nat.reduceBEq, Nat.reduceAdd, putCells, List.map_nil, List.length_nil, Int.natCast_zero, decide_true, decide_false, not_true_eq_false, not_false_eq_true]
      refine call_pure2 hC (paid08_sem) rfl (PVleL_refl _) ?_
      rintro r rfl
      simp only [go_sem, Nat.reduceBEq]
      exact retQ_one rfl rfl
    · have h52 : errR b.mb true = 52 := by
        unfold errR at h0 ⊢
        rw [if_pos ho.1, if_pos rfl] at h0 ⊢
        cases hrb : rightB b.mb
        · rfl
        · rw [hrb] at h0
          exact absurd rfl h0
      rw [if_neg h0, h52] at hr2
      subst hr2
      simp only [go_sem, Nat.reduceBEq, Nat.reduceAdd]
      refine call_pure2 hC (Bill_no κ hF) rfl (PVleL_refl _) ?_
      rintro r rfl
      simp only [go_sem, Nat.reduceBEq, Nat.reduceAdd, putCells, decide_true, decide_false, not_false_eq_true, Int.reduceEq]
      refine call_pure2 hC (paid08_sem) rfl (PVleL_refl _) ?_
      rintro r rfl
      simp only [go_sem, Nat.reduceBEq]
      exact retQ_one rfl rfl
  have hF := errF_of ho hw
  have hne := known_ne hw
  have hE := ends_le ho.rate0 hne (js := b.jobs) (fun j hj => ho.span hj) 1
  have hB := out_bound ho hne ho.2.2.2.1 true 1
  have hB2 := out_bound ho hne ho.2.2.2.1 false 1
  have h4 := ho.2.1.2
  have h5 := ho.1.1.1.2
  have h0 : errR b.mb true = 0 := by
    unfold errR
    rw [if_pos ho.1, if_pos rfl, if_pos (who_right hw)]
  have hWho : Sem1 41 [.agg (bookC κ.a κ.b b.mb)] (.tup [pis (natL (whoL b.mb)), pi 0]) := by
    have := Mk.Who_sem κ.a κ.b b.mb
    rwa [if_pos h0] at this
  have hln : ¬ ((natL (whoL b.mb)).length : Int) = 0 := by
    rw [natL_len]
    have := List.length_pos_iff.2 hw
    omega
  have hBill := Bill_ok κ hF
  unfold spanP at hBill
  have hall := acc_all ho (N := (outI false b 1 b.jobs - outI true b 1 b.jobs + 1).toNat) (by omega)
  obtain ⟨N, hN⟩ : ∃ N, (outI false b 1 b.jobs - outI true b 1 b.jobs + 1).toNat = N := ⟨_, rfl⟩
  rw [hN] at hall
  obtain ⟨lo, hlo⟩ : ∃ lo, outI true b 1 b.jobs = lo := ⟨_, rfl⟩
  obtain ⟨hi, hhi⟩ : ∃ hi, outI false b 1 b.jobs = hi := ⟨_, rfl⟩
  rw [hlo] at hall hBill hE hB hN
  rw [hhi] at hBill hE hB2 hN
  refine semC_of_exec' mixed Tryz.func9 (by kernel_rfl) (by kernel_rfl) ac9_ok 1 rfl (by decide) [(.tmp 2)] (by kernel_rfl) ?_
  intro hr C hC hI
  unfold ac9
  simp only [go_sem, Nat.reduceBEq, Nat.reduceAdd]
  refine call_pure2 hC (small08_sem κ b) rfl (PVleL_refl _) ?_
  rintro r rfl
  simp only [go_sem, Nat.reduceBEq, Nat.reduceAdd, Nat.reduceLeDiff, decide_eq_true ho]
  refine call_pure2 hC (hWho) rfl (PVleL_refl _) ?_
  rintro r rfl
  simp only [go_sem, Nat.reduceBEq, Nat.reduceAdd]
  refine call_pure2 hC (hBill) rfl (PVleL_refl _) ?_
  rintro r rfl
  simp only [go_sem, Nat.reduceBEq, Nat.reduceAdd, putCells, List.length_map, eq_false hln, decide_false, not_true_eq_false, not_false_eq_true, eq_false (show ¬ lo < 0 by omega), wrap_id (n := hi - lo) (by omega) (by omega), eq_false (show ¬ 3000 < hi - lo by omega)]
  refine loop_k N (fun _ => True) [1, 3, 5] (fun i => [(7, .p (pi (accN b lo i : Nat))), (8, .p (pi (lo + i)))]) trivial rfl ⟨rfl, by simp, by simp⟩ (by simp [wkT, look, AV.lo, accN]) ?_
  rintro i ⟨hiN, -⟩
  simp only [go_sem, Nat.reduceBEq, Nat.reduceAdd]
  refine ⟨fun d5 => ?_, fun d5 => ?_⟩
  · have hi2 : i < N := by omega
    have hgr := whose_grows2 b (lo + i)
    have hlt := whose_lt ho (p := lo + i)
    have hlen := whose_len b (lo + i)
    have hkl := known_len ho.1.1
    have hs1 := acc_lt ho lo i
    have hs2 := setOf_lt hlt
    have hnx : accN b lo (i + 1) = accN b lo i ||| setOf (whoseL b (lo + i)) := rfl
    obtain ⟨W, hW⟩ : ∃ W, whoseL b (lo + i) = W := ⟨_, rfl⟩
    have hWs := Whose_ok κ hF (lo + i)
    rw [hW] at hgr hlt hlen hs2 hnx hWs
    obtain ⟨a, ha⟩ : ∃ a, accN b lo i = a := ⟨_, rfl⟩
    rw [ha] at hs1 hnx
    rw [ha]
    have hor : binS false .or (.p (pi (a : Nat))) (.p (pi (setOf W : Nat))) = some (.p (pi ((a ||| setOf W : Nat) : Int))) := bin_orG (by omega) (by omega)
    have w1 : IntKind.i64.wrap (lo + (i : Int) + 1) = lo + ((i + 1 : Nat) : Int) := by rw [wrap_id (by omega) (by omega)]; omega
    refine call_pure2 hC (hWs) rfl (PVleL_refl _) ?_
    rintro r rfl
    simp only [go_sem, Nat.reduceBEq, List.length_map, decide_false, not_true_eq_false]
    refine call_pure2 hC (Grows_sem (natL W) b.mb.makers.length) rfl (PVleL_refl _) ?_
    rintro r ⟨t, rfl, ht⟩
    rw [ht.2 hgr]
    simp only [go_sem, Nat.reduceBEq]
    refine call_pure2 hC (Set_sem .sh hlt (by omega)) rfl (PVleL_refl _) ?_
    rintro _ rfl
    simp only [go_sem, Nat.reduceBEq, hor, w1]
    refine ⟨⟨i + 1, hi2, trivial⟩, by simp only; omega, ?_⟩
    simp only [hnx]
    simp [Wk, wkT, wkL, look, AV.lo, AV.lo.loL, ABlk.toZ]
  · have hin : i = N := by omega
    subst hin
    simp only [go_sem, List.length_map]
    refine call_pure2 hC (List_sem (accN b lo i : Nat) b.mb.makers.length (by omega)) rfl (PVleL_refl _) ?_
    rintro _ rfl
    rw [hall]
    simp only [go_sem, Nat.reduceBEq]
    refine call_pure2 hC (Equal_sem (natL (whoL b.mb)) (natL (whoL b.mb))) rfl (PVleL_refl _) ?_
    rintro r rfl
    simp only [go_sem, Nat.reduceBEq, decide_true]
    refine call_pure2 hC (paid08_sem) rfl (PVleL_refl _) ?_
    rintro r rfl
    simp only [go_sem, Nat.reduceBEq]
    exact retQ_one rfl rfl
set_option maxRecDepth 100000 in
theorem Honest_row {l0 : List PV} (T0 : Ty Tryz.prog 10 29 l0) : SemC Tryz.prog 9 [argPV Tryz.prog 29 l0] (fun r => r = pb true) := by
  obtain ⟨b, rfl⟩ := ty_ebook T0
  rw [argStruct Tryz.underlying29]
  exact Honest_law shK b
end Go.Proofs.YtlcpplkbmlmmbaaGreat.Mk.Me
namespace Go.Proofs.YtlcpplkbmlmmbaaGreat
open Go.Proofs.YtlcpplkbmlmmbaaGreat Go.ChangeShapes Go.WideShapes Go.ChangeAt Go.RowKit Go.Deep

set_option maxRecDepth 100000 in
theorem topHonest_lifted (os : Os) (started : os.Started) (H : Type) (enc : TypeId × Value → H) :
    ReturnsInHanded {} Tryz.checked os 9 .any (Rows.topHonestSpec.pre6 enc Tryz.prog Tryz.f9 Rows.topHonestRow.domain false) (Rows.topHonestSpec.post enc Tryz.prog Tryz.f9 false true false false) := by
  refine returnsInHanded_of_change_sized (C := Tryz.checked) ownKnobs started (by kernel_rfl) Tryz.func9
    (ChangeSpec.witness6 (enc := enc) (C := Tryz.checked) false ⟨#[], #[.agg #[.slice none 0 0, .slice none 0 0, .int .i64 0, .int .i64 0, .slice none 0 0, .int .i64 0, .slice none 0 0, .slice none 0 0]], []⟩ 8 (by kernel_rfl) (by kernel_rfl) (by kernel_rfl) (by kernel_rfl)) ?_
  intro W base args ds gs before hval0 hW hcnd hsz0 _
  have hval : ∀ (j : Nat) t v, Tryz.f9.params[j]? = some t → args[j]? = some v → Value.okWide Tryz.prog W .any base t v := hval0
  have hsz : (DataW.weightsEach Tryz.prog (Tryz.f9.params.toList ++ Rows.topHonestSpec.plain.varTypes Tryz.prog) (ds ++ gs)).all (· ≤ reachBytes) = true := hsz0
  have hW' := hW
  obtain ⟨p, q, hA0, hV, rfl, hfz, hnd⟩ := hW
  have hA : DataW.TrodAll enc Tryz.prog W 0 (fun _ => true) true Tryz.f9.params.toList args.toList ds p := hA0
  rw [Tryz.params9] at hA hval hsz
  obtain ⟨v0, vs0, d0, ds0, p0, q0, hargs, rfl, rfl, h0, r0⟩ := trodAll_cons hA
  obtain ⟨rfl, rfl, rfl⟩ := trodAll_nil r0
  obtain rfl : args = #[v0] := by cases args; simp_all
  obtain ⟨rfl, rfl⟩ := trodVars_none hV
  have lt0 : ∀ x ∈ p0, x.block < W.heap.size := by obtain ⟨m, hm⟩ := h0; exact DataW.trod_lt m _ _ _ hm
  have z0 : SizedP Tryz.prog 29 d0 := sizedP_each hsz (j := 0) rfl rfl
  obtain ⟨l0, T0, R0⟩ := rd_arg 10 (by kernel_rfl) (hval 0 29 v0 rfl rfl) h0 z0
  clear hA0 hval0 hsz0
  refine (law_calls (Mk.Me.Honest_row T0) (argsP_cons R0 argsP_nil)).mono fun e W' ⟨he, bel⟩ => ?_
  subst he
  exact ⟨_, rfl, _, _, _, [], _, [], hW', trodAll_mk1 (shut_bool Tryz.underlying4 _), (trodAll_cons_mk (Below.trod laidOut (by kernel_rfl) (of_decide_eq_true (by kernel_rfl)) h0 bel lt0) trodAll_mk0), rfl, bel.frame _, fun h => by cases h⟩

theorem topHonest_joined : joinedFacts Tryz.prog 9 Tryz.f9 Rows.topHonestSpec Rows.topHonestRow = true := by
  simp only [joinedFacts, Bool.and_eq_true]
  repeat' apply And.intro
  all_goals first | with_reducible exact laidOut | with_reducible exact mapsR | with_reducible exact stopsH | with_reducible exact mayE | (rw [lift0]; kernel_rfl) | (rw [make0]; kernel_rfl) | kernel_rfl

theorem topHonest_holds : Rows.TopHonestSaid :=
  OpenClaim.holds_of_wide 9 Tryz.f9 rfl rfl rfl rfl rfl rfl rfl ⟨rfl, rfl, rfl, rfl, rfl⟩ rfl rfl rfl rfl rfl (by kernel_rfl) Tryz.func9 topHonest_joined
    (of_decide_eq_true (by kernel_rfl)) (by unfold Func.isWrapper; first | (rw [if_pos (by decide +kernel)]; kernel_rfl) | (rw [if_neg (by decide +kernel)]; exact ⟨rfl, rfl⟩))
    (fun os started H enc _ => topHonest_lifted os started H enc)
end Go.Proofs.YtlcpplkbmlmmbaaGreat
