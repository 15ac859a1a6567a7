/- MendTrue returns true for everything that it is asked; no condition. MendTrue. MendTrue: what was truly changed. Contracts of mend: what is asked of a sound book. -/
import Derived.Test.YtefehlekneahmaaGreatTru12
import Derived.Test.YtefehlekneahmaaGreatTru01
import Derived.Test.YtefehlekneahmaaGreatGa18
namespace Go.Proofs.YtefehlekneahmaaGreat.Mk.Me
open Go.RowKit Ls
theorem okN_of {b : EBook} {k : Nat} (h : k < b.jobs.length) : okN b (k : Int) = true := decide_eq_true (by omega)
theorem errF_no {b : EBook} (ho : okE b) (hw : whoL b.mb = []) : errF b true = 82 := by
  unfold errF
  rw [if_pos ho, if_pos rfl, if_pos hw]
section
variable (κ : KS) {b : EBook}
theorem Job_ok (h : errF b true = 0) {k : Nat} (hk : k < b.jobs.length) : Sem1 19 [.agg (ebC κ b), pi k] (.tup [spanP b 0 [jobN b k], pi 0]) := by
  have := Job_sem κ b (k : Int)
  rwa [okN_of hk, if_pos h, Int.toNat_natCast] at this
theorem Bill_ok (h : errF b true = 0) : Sem1 30 [.agg (ebC κ b)] (.tup [spanP b 1 b.jobs, pi 0]) := by
  have := Bill_sem κ b
  rwa [if_pos h] at this
theorem Bill_no (h : errF b true = 82) : Sem1 30 [.agg (ebC κ b)] (.tup [.agg [pi 0, pi 0], pi 82]) := by
  have := Bill_sem κ b
  rwa [h, if_neg (by decide)] at this
theorem Loss_ok (h : errF b true = 0) : Sem1 23 [.agg (ebC κ b)] (.tup [spanP b 2 b.jobs, pi 0]) := by
  have := Loss_sem κ b
  rwa [if_pos h] at this
theorem Loss_no (h : errF b true = 82) : Sem1 23 [.agg (ebC κ b)] (.tup [.agg [pi 0, pi 0], pi 82]) := by
  have := Loss_sem κ b
  rwa [h, if_neg (by decide)] at this
theorem Whose_ok (h : errF b true = 0) (pence : Int) : Sem1 34 [.agg (ebC κ b), pi pence] (.tup [pis (natL (whoseL b pence)), pi 0]) := by
  have := Whose_sem κ b pence
  rwa [if_pos h] at this
theorem Can_ok (h : errF b true = 0) (pence : Int) : Sem1 32 [.agg (ebC κ b), pi pence] (.tup [pb (decide (whoseL b pence ≠ [])), pi 0]) := by
  have := Can_sem κ b pence
  rwa [if_pos h] at this
end
end Go.Proofs.YtefehlekneahmaaGreat.Mk.Me
namespace Go.Proofs.YtefehlekneahmaaGreat.Mk.Me
open Go.RowKit Ls
def ac42 : AC := (AC.seq (AC.ops [(AOp.mk (some 3) (AK.box 8 (AX.t 0)) none 0 false true), (AOp.mk (some 6) (AK.mv (AX.c (PV.val (Value.int IntKind.i64 0)))) none 1 false true), (AOp.mk (some 7) (AK.mv (AX.c (PV.val (Value.bool false)))) none 2 false true)]) (AC.seq (AC.ops [(AOp.mk (some 8) (AK.mv (AX.c (PV.val (Value.int IntKind.i64 0)))) none 0 false true), (AOp.mk (some 9) (AK.mv (AX.c (PV.val (Value.int IntKind.i64 0)))) none 1 false true)]) (AC.seq (AC.ops [(AOp.mk (some 10) (AK.mv (AX.c (PV.sl SK.full 0 []))) none 0 false true)]) (AC.seq (AC.seq (AC.ops [(AOp.mk (some 11) (AK.mv (AX.c (PV.val (Value.int IntKind.i64 0)))) none 0 false true)]) (AC.block 0 (AC.loop (AC.seq (AC.seq (AC.ops [(AOp.mk (some 15) (AK.mv (AX.t 11)) none 0 false true), (AOp.mk (some 16) (AK.fadr 0 (AX.t 3)) none 1 false true), (AOp.mk (some 17) (AK.fadr 0 (AX.t 16)) none 2 false true), (AOp.mk (some 18) (AK.ld none (AX.t 17)) none 3 false true), (AOp.mk (some 19) (AK.iadrS 1 (AX.t 18) (AX.c (PV.val (Value.int IntKind.i64 0)))) none 4 false true), (AOp.mk (some 20) (AK.ld none (AX.t 19)) none 5 false true), (AOp.mk (some 21) (AK.len (AX.t 20)) none 6 false true), (AOp.mk (some 22) (AK.bin false BinOp.lss (AX.t 15) (AX.t 21)) none 7 false true)]) (AC.cond (AX.t 22) AC.skip (AC.exit 0))) (AC.seq (AC.block 1 (AC.seq (AC.ops [(AOp.mk (some 26) (AK.fadr 0 (AX.t 3)) none 0 false true), (AOp.mk (some 27) (AK.ld (some 4) (AX.t 26)) none 1 false true), (AOp.mk (some 28) (AK.mv (AX.t 1)) none 2 false true), (AOp.mk (some 29) (AK.mv (AX.t 11)) none 3 false true), (AOp.mk (some 30) (AK.call 98 [(AX.t 27), (AX.t 28), (AX.t 29)]) none 4 false true), (AOp.mk (some 25) (AK.mv (AX.t 30)) none 5 false true), (AOp.mk (some 31) (AK.ext (AX.t 25) 0) none 6 false true), (AOp.mk (some 32) (AK.ext (AX.t 25) 1) none 7 false true), (AOp.mk (some 12) (AK.mv (AX.t 31)) none 8 false true), (AOp.mk (some 13) (AK.mv (AX.t 32)) none 9 false true)]) (AC.seq (AC.seq (AC.ops [(AOp.mk (some 33) (AK.mv (AX.t 13)) none 0 false true), (AOp.mk (some 34) (AK.bin false BinOp.neq (AX.t 33) (AX.c (PV.val (Value.int IntKind.i64 0)))) none 1 false true)]) (AC.cond (AX.t 34) (AC.seq (AC.ops [(AOp.mk (some 6) (AK.mv (AX.c (PV.val (Value.int IntKind.i64 0)))) none 0 false true), (AOp.mk (some 7) (AK.mv (AX.c (PV.val (Value.bool false)))) none 1 false true)]) AC.ret) AC.skip)) (AC.seq (AC.seq (AC.ops [(AOp.mk (some 35) (AK.mv (AX.t 12)) none 0 false true), (AOp.mk (some 36) (AK.bin false BinOp.eql (AX.t 35) (AX.c (PV.val (Value.int IntKind.i64 2)))) none 1 false true)]) (AC.cond (AX.t 36) (AC.ops [(AOp.mk (some 37) (AK.mv (AX.t 8)) none 0 false true), (AOp.mk (some 38) (AK.mv (AX.t 11)) none 1 false true), (AOp.mk (some 39) (AK.bin false BinOp.shl (AX.c (PV.val (Value.int IntKind.i64 1))) (AX.t 38)) none 2 false true), (AOp.mk (some 40) (AK.bin false BinOp.or (AX.t 37) (AX.t 39)) none 3 false true), (AOp.mk (some 41) (AK.mv (AX.t 9)) none 4 false true), (AOp.mk (some 42) (AK.bin false BinOp.add (AX.t 41) (AX.c (PV.val (Value.int IntKind.i64 1)))) none 5 false true), (AOp.mk (some 8) (AK.mv (AX.t 40)) none 6 false true), (AOp.mk (some 9) (AK.mv (AX.t 42)) none 7 false true)]) AC.skip)) (AC.seq (AC.ops [(AOp.mk (some 43) (AK.mv (AX.t 12)) none 0 false true), (AOp.mk (some 44) (AK.bin false BinOp.eql (AX.t 43) (AX.c (PV.val (Value.int IntKind.i64 1)))) none 1 false true)]) (AC.cond (AX.t 44) (AC.ops [(AOp.mk (some 45) (AK.mv (AX.t 10)) none 0 false true), (AOp.mk (some 46) (AK.mv (AX.t 11)) none 1 false true), (AOp.mk (some 47) (AK.bslice false 3 1 1 [(PV.val (Value.int IntKind.i64 0))] [(0, (1, (AX.t 46)))]) none 2 false true), (AOp.mk (some 48) (AK.app false 3 1 8 [(PV.val (Value.int IntKind.i64 0))] (AX.t 45) (AX.t 47)) none 3 false true), (AOp.mk (some 10) (AK.mv (AX.t 48)) none 4 false true)]) AC.skip)))))) (AC.ops [(AOp.mk (some 23) (AK.mv (AX.t 11)) none 0 false true), (AOp.mk (some 24) (AK.bin false BinOp.add (AX.t 23) (AX.c (PV.val (Value.int IntKind.i64 1)))) none 1 false true), (AOp.mk (some 11) (AK.mv (AX.t 24)) none 2 false true)])))))) (AC.seq (AC.seq (AC.ops [(AOp.mk (some 14) (AK.mv (AX.c (PV.val (Value.int IntKind.i64 0)))) none 0 false true)]) (AC.block 2 (AC.loop (AC.seq (AC.seq (AC.ops [(AOp.mk (some 49) (AK.mv (AX.t 14)) none 0 false true), (AOp.mk (some 50) (AK.mv (AX.t 10)) none 1 false true), (AOp.mk (some 51) (AK.len (AX.t 50)) none 2 false true), (AOp.mk (some 52) (AK.bin false BinOp.lss (AX.t 49) (AX.t 51)) none 3 false true)]) (AC.cond (AX.t 52) AC.skip (AC.exit 2))) (AC.seq (AC.block 3 (AC.seq (AC.ops [(AOp.mk (some 55) (AK.mv (AX.t 2)) none 0 false true), (AOp.mk (some 56) (AK.mv (AX.t 14)) none 1 false true), (AOp.mk (some 57) (AK.call 41 [(AX.t 55), (AX.t 56)]) none 2 false true), (AOp.mk (some 58) (AK.bin false BinOp.rem (AX.t 57) (AX.c (PV.val (Value.int IntKind.i64 2)))) none 3 false true), (AOp.mk (some 59) (AK.bin false BinOp.neq (AX.t 58) (AX.c (PV.val (Value.int IntKind.i64 0)))) none 4 false true), (AOp.mk (some 60) (AK.mv (AX.t 59)) none 5 false true), (AOp.mk (some 61) (AK.mv (AX.t 9)) (some (60, true)) 6 false true), (AOp.mk (some 62) (AK.fadr 0 (AX.t 3)) (some (60, true)) 7 false true), (AOp.mk (some 63) (AK.fadr 2 (AX.t 62)) (some (60, true)) 8 false true), (AOp.mk (some 64) (AK.ld none (AX.t 63)) (some (60, true)) 9 false true), (AOp.mk (some 65) (AK.bin false BinOp.lss (AX.t 61) (AX.t 64)) (some (60, true)) 10 false true), (AOp.mk (some 66) (AK.pick (AX.t 60) (AX.t 65) (AX.c (PV.val (Value.bool false)))) none 11 false true)]) (AC.cond (AX.t 66) (AC.ops [(AOp.mk (some 67) (AK.mv (AX.t 8)) none 0 false true), (AOp.mk (some 68) (AK.mv (AX.t 10)) none 1 false true), (AOp.mk (some 69) (AK.mv (AX.t 14)) none 2 false true), (AOp.mk (some 70) (AK.iadrS 1 (AX.t 68) (AX.t 69)) none 3 false true), (AOp.mk (some 71) (AK.ld none (AX.t 70)) none 4 false true), (AOp.mk (some 72) (AK.bin false BinOp.shl (AX.c (PV.val (Value.int IntKind.i64 1))) (AX.t 71)) none 5 false true), (AOp.mk (some 73) (AK.bin false BinOp.or (AX.t 67) (AX.t 72)) none 6 false true), (AOp.mk (some 74) (AK.mv (AX.t 9)) none 7 false true), (AOp.mk (some 75) (AK.bin false BinOp.add (AX.t 74) (AX.c (PV.val (Value.int IntKind.i64 1)))) none 8 false true), (AOp.mk (some 8) (AK.mv (AX.t 73)) none 9 false true), (AOp.mk (some 9) (AK.mv (AX.t 75)) none 10 false true)]) AC.skip))) (AC.ops [(AOp.mk (some 53) (AK.mv (AX.t 14)) none 0 false true), (AOp.mk (some 54) (AK.bin false BinOp.add (AX.t 53) (AX.c (PV.val (Value.int IntKind.i64 1)))) none 1 false true), (AOp.mk (some 14) (AK.mv (AX.t 54)) none 2 false true)])))))) (AC.seq (AC.ops [(AOp.mk (some 76) (AK.mv (AX.t 8)) none 0 false true), (AOp.mk (some 6) (AK.mv (AX.t 76)) none 1 false true), (AOp.mk (some 7) (AK.mv (AX.c (PV.val (Value.bool true)))) none 2 false true)]) AC.ret))))))
theorem ac42_ok : cCode Tryz.prog (fun _ => false) Tryz.f42.ntmps (Tryz.f42.body.getD .skip) = some ac42 := by kernel_rfl
def mayB (b : MBook) (m q : Nat) : Bool := !zeroB b m q && canQ b m q
def mayL (b : MBook) (m k : Nat) : List Nat := (List.range k).filter (mayB b m)
theorem mayL_next (b : MBook) (m k : Nat) : mayL b m (k + 1) = if mayB b m k then mayL b m k ++ [k] else mayL b m k := by
  unfold mayL
  rw [List.range_succ, List.filter_append, List.filter_cons, List.filter_nil]
  split
  · rfl
  · rw [List.append_nil]
def cntZ (b : MBook) (m k : Nat) : Nat := ((List.range k).filter (zeroB b m)).length
theorem cntZ_next (b : MBook) (m k : Nat) : cntZ b m (k + 1) = if zeroB b m k then cntZ b m k + 1 else cntZ b m k := by
  unfold cntZ
  rw [List.range_succ, List.filter_append, List.filter_cons, List.filter_nil, List.length_append]
  split
  · rfl
  · rfl
theorem cntZ_le (b : MBook) (m k : Nat) : cntZ b m k ≤ k := by
  unfold cntZ
  exact Nat.le_trans (List.length_filter_le ..) (by simp)
theorem mayL_len (b : MBook) (m k : Nat) : (mayL b m k).length ≤ k := by
  unfold mayL
  exact Nat.le_trans (List.length_filter_le ..) (by simp)
theorem cnt_next (s n : Nat) : cntN s (n + 1) = cntN s n + if s.testBit n then 1 else 0 := by
  unfold cntN
  rw [List.range_succ, List.filter_append, List.filter_cons, List.filter_nil, List.length_append]
  split <;> rfl
theorem cnt_or (s k : Nat) : ∀ n, cntN (s ||| 2 ^ k) n ≤ cntN s n + if k < n then 1 else 0
  | 0 => by simp [cntN]
  | n + 1 => by
    have ih := cnt_or s k n
    have hb := or_bit s k n
    rw [cnt_next, cnt_next]
    by_cases e : k = n
    · subst e
      rw [if_neg (Nat.lt_irrefl _)] at ih
      rw [if_pos (Nat.lt_succ_self _)]
      split <;> split <;> omega
    · rw [decide_eq_false e, Bool.or_false] at hb
      rw [hb]
      have e2 : (if k < n + 1 then 1 else 0) = (if k < n then 1 else 0) := by
        by_cases h : k < n
        · rw [if_pos h, if_pos (by omega)]
        · rw [if_neg h, if_neg (by omega)]
      rw [e2]
      omega
structure Inv (b : MBook) (m s c : Nat) : Prop where
  must : ∀ q, q < nK b → zeroB b m q = true → s.testBit q = true
  can : ∀ q, s.testBit q = true → q < nK b ∧ canQ b m q = true
  cnt : cntN s (nK b) ≤ c
  le : (c : Int) ≤ b.repairs
theorem Inv.cset {b : MBook} {m s c : Nat} (h : Inv b m s c) : CSet b m s := ⟨h.must, h.can, by have := h.cnt; have := h.le; omega⟩
theorem Inv.add {b : MBook} {m s c q : Nat} (h : Inv b m s c) (hq : q < nK b) (hc : canQ b m q = true) (hr : (c : Int) < b.repairs) : Inv b m (s ||| 2 ^ q) (c + 1) := by
  refine ⟨fun k hk hz => by rw [or_bit, h.must k hk hz]; rfl, fun k hk => ?_, ?_, by omega⟩
  · rw [or_bit, Bool.or_eq_true, decide_eq_true_eq] at hk
    rcases hk with hk | rfl
    · exact h.can k hk
    · exact ⟨hq, hc⟩
  · have h1 := cnt_or s q (nK b)
    have h2 := h.cnt
    rw [if_pos hq] at h1
    omega
theorem inv0 {b : MBook} {m : Nat} (hp : possB b m = true) : Inv b m (setP (zeroB b m) (nK b)) (cntZ b m (nK b)) := by
  have h3 := (poss_eq.1 hp).2.2
  refine ⟨fun q hq hz => by rw [setP_bit, decide_eq_true hq, hz]; rfl, fun q hq => ?_, Nat.le_of_eq (cnt_must b m), h3⟩
  rw [setP_bit, Bool.and_eq_true, decide_eq_true_eq] at hq
  exact ⟨hq.1, by unfold canQ; rw [hq.2]; rfl⟩
theorem mem_may {b : MBook} {m k q : Nat} (h : q ∈ mayL b m k) : q < k ∧ canQ b m q = true := by
  unfold mayL at h
  rw [List.mem_filter, List.mem_range] at h
  unfold mayB at h
  rw [Bool.and_eq_true] at h
  exact ⟨h.1, h.2.2⟩
set_option maxHeartbeats 2000000 in
theorem lchanged_sem (κ : KS) {b : EBook} (ho : okE b) {m : Nat} (hm : m ∈ whoL b.mb) (bits : List Int) : SemC Tryz.prog 42 [.agg (ebC κ b), pi m, pis bits] (fun r => ∃ s : Nat, r = .tup [pi s, pb true] ∧ CSet b.mb m s) := by
  obtain ⟨hz, hfl⟩ := okC.first ho.1.1
  have e0 : iadrS' 1 (.p (.sl κ.a 1 (rowsC b.mb.makers))) (.p (.val (.int .i64 0))) = some (.p (.ptr [pis b.mb.makers[0]] 0)) := iadr_map (f := fun h => [pis h]) (kd := κ.a) (sz := 1) (k := 0) hz
  obtain ⟨hml, hp⟩ := mem_who.1 hm
  have h6 := ho.1.1.2.1
  have hrep := ho.1.1.2.2.2.2.1
  refine semC_of_exec' mixed Tryz.func42 (by kernel_rfl) (by kernel_rfl) ac42_ok 3 rfl (by decide) [(.tmp 6), (.tmp 7)] (by kernel_rfl) ?_
  intro hr C hC hI
  unfold ac42
  simp only [go_sem, Nat.reduceBEq, Nat.reduceAdd]
  refine loop_g (α := Nat × Option Nat) (fun a => a.1 ≤ nK b.mb ∧ (a.2 = none → (natL (mayL b.mb m a.1)).map (fun x => [pi x]) = [])) (fun a => nK b.mb - a.1) [1, 2, 3] (fun a => [(8, .p (pi (setP (zeroB b.mb m) a.1 : Nat))), (9, .p (pi (cntZ b.mb m a.1 : Nat))), (10, .p (slZ 3 1 a.2 ((natL (mayL b.mb m a.1)).map fun x => [pi x]))), (11, .p (pi a.1))]) (fun _ => [.cells ((ebC κ b).map .p)]) (fun a => a.2.toList) (0, none) ⟨by omega, fun _ => rfl⟩ (by simp [Wk, wkT, wkL, look, AV.lo, AV.lo.loL, ABlk.toZ, upS_eq, keepS_nil, keepS_cons, slZ, setP, cntZ]) ?_
  rintro ⟨k, o⟩ ⟨hk, h0⟩
  replace hk : k ≤ nK b.mb := hk
  replace h0 : o = none → (natL (mayL b.mb m k)).map (fun x => [pi x]) = [] := h0
  simp only [go_sem, Nat.reduceBEq, Nat.reduceAdd, Nat.reduceLeDiff, e0, hfl, List.length_map]
  refine ⟨fun d5 => ?_, fun d5 => ?_⟩
  · have hk2 : k < nK b.mb := by omega
    have hS := setP_next (zeroB b.mb m) k
    have hZ := cntZ_next b.mb m k
    have hM := mayL_next b.mb m k
    have hml2 := mayL_len b.mb m k
    have hzl := cntZ_le b.mb m k
    have hlt := setP_lt (zeroB b.mb m) k
    have hp64 : 2 ^ k ≤ 64 := Nat.pow_le_pow_right (n := 2) (by decide) (show k ≤ 6 by omega)
    have hor : binS false .or (.p (pi (setP (zeroB b.mb m) k : Nat))) (.p (pi (2 ^ k : Nat))) = some (.p (pi ((setP (zeroB b.mb m) k ||| 2 ^ k : Nat) : Int))) := bin_orG (by omega) (by omega)
    have hCh := Changed_at κ.a κ.b ho.1 hml hk2 hp
    rw [verdict_eq hp hk2] at hCh
    cases hz1 : zeroB b.mb m k
    · rw [hz1, if_neg (by decide)] at hS hZ hCh
      cases hq1 : canQ b.mb m k
      · have hm1 : mayB b.mb m k = false := by unfold mayB; rw [hz1, hq1]; rfl
        rw [hq1, if_neg (by decide)] at hCh
        rw [hm1, if_neg (by decide)] at hM
        refine call_pure2 hC (hCh) rfl (PVleL_refl _) ?_
        rintro r rfl
        simp only [go_sem, Nat.reduceBEq, wrap_succ (k := k) (by omega), decide_false, not_true_eq_false, Int.reduceEq]
        refine ⟨⟨(k + 1, o), hk2, by simp only [hM]; exact h0⟩, by simp only; omega, ?_⟩
        simp only [hS, hZ, hM]
        cases o <;> simp [Wk, wkT, wkL, look, AV.lo, AV.lo.loL, ABlk.toZ]
      · have hm1 : mayB b.mb m k = true := by unfold mayB; rw [hz1, hq1]; rfl
        rw [hq1, if_pos rfl] at hCh
        rw [hm1, if_pos rfl] at hM
        have hM2 : (natL (mayL b.mb m (k + 1))).map (fun x => [pi x]) = (natL (mayL b.mb m k)).map (fun x => [pi x]) ++ [[pi k]] := by rw [hM]; simp [natL]
        refine call_pure2 hC (hCh) rfl (PVleL_refl _) ?_
        rintro r rfl
        simp only [go_sem, Nat.reduceBEq, decide_true, decide_false, not_true_eq_false, Int.reduceEq]
        refine app_slZ h0 (by rw [List.length_map, natL_len]; omega) (by simp) fun tk htk => ?_
        simp only [go_sem, Nat.reduceBEq, wrap_succ (k := k) (by omega)]
        refine ⟨⟨(k + 1, some tk), hk2, (fun h => by cases h)⟩, by simp only; omega, ?_⟩
        simp only [hS, hZ, hM2]
        refine ⟨by simp [wkT, look, AV.lo], by simp [wkL, AV.lo, AV.lo.loL, ABlk.toZ], by simp, by simp, rfl, rfl, by simp⟩
    · have hm1 : mayB b.mb m k = false := by unfold mayB; rw [hz1]; rfl
      rw [hz1, if_pos rfl] at hS hZ hCh
      rw [hm1, if_neg (by decide)] at hM
      refine call_pure2 hC (hCh) rfl (PVleL_refl _) ?_
      rintro r rfl
      simp only [go_sem, Nat.reduceBEq, bin_shl (show ¬ (k : Int) < 0 by omega), shl6 (m := k) (by omega), hor, wrap_succ (k := cntZ b.mb m k) (by omega), wrap_succ (k := k) (by omega), decide_true, decide_false, not_true_eq_false, Int.reduceEq]
      refine ⟨⟨(k + 1, o), hk2, by simp only [hM]; exact h0⟩, by simp only; omega, ?_⟩
      simp only [hS, hZ, hM]
      cases o <;> simp [Wk, wkT, wkL, look, AV.lo, AV.lo.loL, ABlk.toZ]
  · have hkn : k = nK b.mb := by omega
    subst hkn
    have hI0 := inv0 hp
    have hMl := mayL_len b.mb m (nK b.mb)
    have hMm : ∀ q ∈ mayL b.mb m (nK b.mb), q < nK b.mb ∧ canQ b.mb m q = true := fun q hq => mem_may hq
    obtain ⟨S, hS⟩ : ∃ S, setP (zeroB b.mb m) (nK b.mb) = S := ⟨_, rfl⟩
    obtain ⟨Z, hZ⟩ : ∃ Z, cntZ b.mb m (nK b.mb) = Z := ⟨_, rfl⟩
    obtain ⟨M, hM⟩ : ∃ M, mayL b.mb m (nK b.mb) = M := ⟨_, rfl⟩
    rw [hS, hZ] at hI0
    rw [hM] at hMl hMm h0
    rw [hS, hZ, hM]
    have hkd : ∃ kd sz, slZ 3 1 o ((natL M).map fun x => [pi x]) = .sl kd sz ((natL M).map fun x => [pi x]) ∧ (M ≠ [] → sz = 1) := by
      cases o with
      | none =>
        have h1 := h0 rfl
        rw [h1]
        refine ⟨_, _, rfl, fun hne => absurd ?_ hne⟩
        simpa [natL] using h1
      | some t => exact ⟨_, _, rfl, fun _ => rfl⟩
    obtain ⟨kd, sz, ekd, hsz⟩ := hkd
    rw [ekd]
    refine loop_g (α := Nat × Nat × Nat) (fun a => a.1 ≤ M.length ∧ Inv b.mb m a.2.1 a.2.2) (fun a => M.length - a.1) [2, 3, 10] (fun a => [(8, .p (pi (a.2.1 : Nat))), (9, .p (pi (a.2.2 : Nat))), (14, .p (pi a.1))]) (fun _ => [.cells ((ebC κ b).map .p)]) (fun _ => o.toList) (0, S, Z) ⟨by omega, hI0⟩ (by cases o <;> simp [Wk, wkT, wkL, look, AV.lo, AV.lo.loL, ABlk.toZ, upS_eq, keepS_nil, keepS_cons]) ?_
    rintro ⟨i, s, c⟩ ⟨hi, hI⟩
    replace hi : i ≤ M.length := hi
    replace hI : Inv b.mb m s c := hI
    have hcr := hI.le
    have hs64 : s < 2 ^ nK b.mb := hI.cset.lt
    have hp64 : 2 ^ nK b.mb ≤ 64 := Nat.pow_le_pow_right (n := 2) (by decide) (show nK b.mb ≤ 6 by omega)
    simp only [go_sem, Nat.reduceBEq, List.length_map, natL_len]
    refine ⟨fun d6 => ?_, fun d6 => ?_⟩
    · have hi2 : i < M.length := by omega
      have hne : M ≠ [] := fun e => by rw [e] at hi2; cases hi2
      obtain ⟨hq1, hq2⟩ := hMm _ (List.getElem_mem hi2)
      have hi3 : i < (natL M).length := by rw [natL_len]; exact hi2
      have hgi : (natL M)[i] = (M[i] : Int) := by simp [natL]
      have e1 := iadr_map (f := fun x : Int => [pi x]) (kd := kd) (sz := 1) hi3
      rw [hgi] at e1
      rw [hsz hne]
      obtain ⟨q, hq⟩ : ∃ q, M[i] = q := ⟨_, rfl⟩
      rw [hq] at e1 hq1 hq2
      have hpq : 2 ^ q ≤ 64 := Nat.pow_le_pow_right (n := 2) (by decide) (show q ≤ 6 by omega)
      have hor : binS false .or (.p (pi (s : Nat))) (.p (pi (2 ^ q : Nat))) = some (.p (pi ((s ||| 2 ^ q : Nat) : Int))) := bin_orG (by omega) (by omega)
      have hrem := bin_rem (k := .i64) (a := takeL bits i) (b := 2) (by decide)
      by_cases e5 : (takeL bits i).tmod 2 = 0
      · refine call_pure2 hC (Take_sem bits i) rfl (PVleL_refl _) ?_
        rintro r rfl
        simp only [go_sem, Nat.reduceBEq, hrem, e5, wrap_succ (k := i) (by omega), decide_false, not_true_eq_false]
        refine ⟨⟨(i + 1, s, c), hi2, hI⟩, by simp only; omega, ?_⟩
        cases o <;> simp [Wk, wkT, wkL, look, AV.lo, AV.lo.loL, ABlk.toZ]
      · by_cases e6 : (c : Int) < b.mb.repairs
        · refine call_pure2 hC (Take_sem bits i) rfl (PVleL_refl _) ?_
          rintro r rfl
          simp only [go_sem, Nat.reduceBEq, hrem, eq_false e5, eq_true e6, e1, bin_shl (show ¬ (q : Int) < 0 by omega), shl6 (m := q) (by omega), hor, wrap_succ (k := c) (by omega), wrap_succ (k := i) (by omega), decide_true, not_false_eq_true]
          refine ⟨⟨(i + 1, s ||| 2 ^ q, c + 1), hi2, hI.add hq1 hq2 e6⟩, by simp only; omega, ?_⟩
          cases o <;> simp [Wk, wkT, wkL, look, AV.lo, AV.lo.loL, ABlk.toZ]
        · refine call_pure2 hC (Take_sem bits i) rfl (PVleL_refl _) ?_
          rintro r rfl
          simp only [go_sem, Nat.reduceBEq, hrem, eq_false e5, eq_false e6, wrap_succ (k := i) (by omega), decide_true, decide_false, not_false_eq_true]
          refine ⟨⟨(i + 1, s, c), hi2, hI⟩, by simp only; omega, ?_⟩
          cases o <;> simp [Wk, wkT, wkL, look, AV.lo, AV.lo.loL, ABlk.toZ]
    · exact retQ_two rfl rfl ⟨s, rfl, hI.cset⟩
end Go.Proofs.YtefehlekneahmaaGreat.Mk.Me
namespace Go.Proofs.YtefehlekneahmaaGreat.Mk.Me
open Go.RowKit Ls
def ac46 : AC := (AC.seq (AC.ops [(AOp.mk (some 2) (AK.box 6 (AX.t 0)) none 0 false true), (AOp.mk (some 4) (AK.mv (AX.c (PV.val (Value.int IntKind.i64 0)))) none 1 false true)]) (AC.seq (AC.seq (AC.ops [(AOp.mk (some 5) (AK.fadr 5 (AX.t 2)) none 0 false true), (AOp.mk (some 6) (AK.ld none (AX.t 5)) none 1 false true), (AOp.mk (some 7) (AK.bin false BinOp.eql (AX.t 6) (AX.c (PV.val (Value.int IntKind.i64 (-1))))) none 2 false true)]) (AC.cond (AX.t 7) (AC.seq (AC.ops [(AOp.mk (some 8) (AK.mv (AX.t 1)) none 0 false true), (AOp.mk (some 4) (AK.mv (AX.t 8)) none 1 false true)]) AC.ret) AC.skip)) (AC.seq (AC.ops [(AOp.mk (some 9) (AK.fadr 5 (AX.t 2)) none 0 false true), (AOp.mk (some 10) (AK.ld none (AX.t 9)) none 1 false true), (AOp.mk (some 11) (AK.mv (AX.t 1)) none 2 false true), (AOp.mk (some 12) (AK.mx false [(AX.t 10), (AX.t 11)]) none 3 false true), (AOp.mk (some 4) (AK.mv (AX.t 12)) none 4 false true)]) AC.ret)))
theorem ac46_ok : cCode Tryz.prog (fun _ => false) Tryz.f46.ntmps (Tryz.f46.body.getD .skip) = some ac46 := by kernel_rfl
def ac6 : AC := (AC.seq (AC.ops [(AOp.mk (some 3) (AK.box 8 (AX.t 0)) none 0 false true), (AOp.mk (some 5) (AK.box 2 (AX.t 2)) none 1 false true), (AOp.mk (some 6) (AK.mv (AX.c (PV.val (Value.bool false)))) none 2 false true)]) (AC.seq (AC.seq (AC.ops [(AOp.mk (some 26) (AK.ld (some 8) (AX.t 3)) none 0 false true), (AOp.mk (some 27) (AK.call 39 [(AX.t 26)]) none 1 false true), (AOp.mk (some 28) (AK.un UnOp.not (AX.t 27)) none 2 false true)]) (AC.cond (AX.t 28) (AC.seq (AC.ops [(AOp.mk (some 29) (AK.call 29 []) none 0 false true), (AOp.mk (some 6) (AK.mv (AX.t 29)) none 1 false true)]) AC.ret) AC.skip)) (AC.seq (AC.ops [(AOp.mk (some 31) (AK.ld (some 8) (AX.t 3)) none 0 false true), (AOp.mk (some 32) (AK.call 40 [(AX.t 31)]) none 1 false true), (AOp.mk (some 30) (AK.mv (AX.t 32)) none 2 false true), (AOp.mk (some 33) (AK.ext (AX.t 30) 0) none 3 false true), (AOp.mk (some 34) (AK.ext (AX.t 30) 1) none 4 false true), (AOp.mk (some 7) (AK.mv (AX.t 33)) none 5 false true), (AOp.mk (some 8) (AK.mv (AX.t 34)) none 6 false true)]) (AC.seq (AC.ops [(AOp.mk (some 36) (AK.ld (some 8) (AX.t 3)) none 0 false true), (AOp.mk (some 37) (AK.call 30 [(AX.t 36)]) none 1 false true), (AOp.mk (some 35) (AK.mv (AX.t 37)) none 2 false true), (AOp.mk (some 38) (AK.ext (AX.t 35) 0) none 3 false true), (AOp.mk (some 39) (AK.ext (AX.t 35) 1) none 4 false true), (AOp.mk (some 9) (AK.new (PV.agg [(PV.val (Value.int IntKind.i64 0)), (PV.val (Value.int IntKind.i64 0))])) none 5 false true), (AOp.mk none (AK.st 2 (AX.t 9) (AX.t 38)) none 6 false true), (AOp.mk (some 10) (AK.mv (AX.t 39)) none 7 false true)]) (AC.seq (AC.ops [(AOp.mk (some 41) (AK.ld (some 8) (AX.t 3)) none 0 false true), (AOp.mk (some 42) (AK.call 23 [(AX.t 41)]) none 1 false true), (AOp.mk (some 40) (AK.mv (AX.t 42)) none 2 false true), (AOp.mk (some 43) (AK.ext (AX.t 40) 0) none 3 false true), (AOp.mk (some 44) (AK.ext (AX.t 40) 1) none 4 false true), (AOp.mk (some 11) (AK.new (PV.agg [(PV.val (Value.int IntKind.i64 0)), (PV.val (Value.int IntKind.i64 0))])) none 5 false true), (AOp.mk none (AK.st 2 (AX.t 11) (AX.t 43)) none 6 false true), (AOp.mk (some 12) (AK.mv (AX.t 44)) none 7 false true)]) (AC.seq (AC.seq (AC.ops [(AOp.mk (some 45) (AK.mv (AX.t 8)) none 0 false true), (AOp.mk (some 46) (AK.un UnOp.not (AX.t 45)) none 1 false true)]) (AC.cond (AX.t 46) (AC.seq (AC.ops [(AOp.mk (some 47) (AK.mv (AX.t 10)) none 0 false true), (AOp.mk (some 48) (AK.bin false BinOp.eql (AX.t 47) (AX.c (PV.val (Value.int IntKind.i64 82)))) none 1 false true), (AOp.mk (some 49) (AK.mv (AX.t 48)) none 2 false true), (AOp.mk (some 50) (AK.mv (AX.t 12)) (some (49, true)) 3 false true), (AOp.mk (some 51) (AK.mv (AX.t 10)) (some (49, true)) 4 false true), (AOp.mk (some 52) (AK.bin false BinOp.eql (AX.t 50) (AX.t 51)) (some (49, true)) 5 false true), (AOp.mk (some 53) (AK.pick (AX.t 49) (AX.t 52) (AX.c (PV.val (Value.bool false)))) none 6 false true), (AOp.mk (some 54) (AK.mv (AX.t 53)) none 7 false true), (AOp.mk (some 55) (AK.call 29 []) (some (54, true)) 8 false true), (AOp.mk (some 56) (AK.pick (AX.t 54) (AX.t 55) (AX.c (PV.val (Value.bool false)))) none 9 false true), (AOp.mk (some 6) (AK.mv (AX.t 56)) none 10 false true)]) AC.ret) AC.skip)) (AC.seq (AC.ops [(AOp.mk (some 57) (AK.mv (AX.t 7)) none 0 false true), (AOp.mk (some 58) (AK.iadrA 1 2 (AX.t 5) (AX.c (PV.val (Value.int IntKind.i64 0)))) none 1 false true), (AOp.mk (some 59) (AK.ld none (AX.t 58)) none 2 false true), (AOp.mk (some 60) (AK.call 41 [(AX.t 57), (AX.t 59)]) none 3 false true), (AOp.mk (some 13) (AK.mv (AX.t 60)) none 4 false true)]) (AC.seq (AC.ops [(AOp.mk (some 62) (AK.ld (some 8) (AX.t 3)) none 0 false true), (AOp.mk (some 63) (AK.mv (AX.t 13)) none 1 false true), (AOp.mk (some 64) (AK.mv (AX.t 1)) none 2 false true), (AOp.mk (some 65) (AK.call 42 [(AX.t 62), (AX.t 63), (AX.t 64)]) none 3 false true), (AOp.mk (some 61) (AK.mv (AX.t 65)) none 4 false true), (AOp.mk (some 66) (AK.ext (AX.t 61) 0) none 5 false true), (AOp.mk (some 67) (AK.ext (AX.t 61) 1) none 6 false true), (AOp.mk (some 14) (AK.mv (AX.t 66)) none 7 false true), (AOp.mk (some 8) (AK.mv (AX.t 67)) none 8 false true)]) (AC.seq (AC.seq (AC.ops [(AOp.mk (some 68) (AK.mv (AX.t 8)) none 0 false true), (AOp.mk (some 69) (AK.un UnOp.not (AX.t 68)) none 1 false true), (AOp.mk (some 70) (AK.mv (AX.t 69)) none 2 false true), (AOp.mk (some 71) (AK.mv (AX.t 10)) (some (70, false)) 3 false true), (AOp.mk (some 72) (AK.bin false BinOp.neq (AX.t 71) (AX.c (PV.val (Value.int IntKind.i64 0)))) (some (70, false)) 4 false true), (AOp.mk (some 73) (AK.pick (AX.t 70) (AX.c (PV.val (Value.bool true))) (AX.t 72)) none 5 false true), (AOp.mk (some 74) (AK.mv (AX.t 73)) none 6 false true), (AOp.mk (some 75) (AK.mv (AX.t 12)) (some (74, false)) 7 false true), (AOp.mk (some 76) (AK.bin false BinOp.neq (AX.t 75) (AX.c (PV.val (Value.int IntKind.i64 0)))) (some (74, false)) 8 false true), (AOp.mk (some 77) (AK.pick (AX.t 74) (AX.c (PV.val (Value.bool true))) (AX.t 76)) none 9 false true)]) (AC.cond (AX.t 77) (AC.seq (AC.ops [(AOp.mk (some 6) (AK.mv (AX.c (PV.val (Value.bool false)))) none 0 false true)]) AC.ret) AC.skip)) (AC.seq (AC.ops [(AOp.mk (some 15) (AK.mv (AX.c (PV.val (Value.int IntKind.i64 0)))) none 0 false true), (AOp.mk (some 16) (AK.mv (AX.c (PV.val (Value.int IntKind.i64 0)))) none 1 false true)]) (AC.seq (AC.seq (AC.ops [(AOp.mk (some 17) (AK.mv (AX.c (PV.val (Value.int IntKind.i64 0)))) none 0 false true)]) (AC.block 0 (AC.loop (AC.seq (AC.seq (AC.ops [(AOp.mk (some 78) (AK.mv (AX.t 17)) none 0 false true), (AOp.mk (some 79) (AK.fadr 4 (AX.t 3)) none 1 false true), (AOp.mk (some 80) (AK.ld none (AX.t 79)) none 2 false true), (AOp.mk (some 81) (AK.len (AX.t 80)) none 3 false true), (AOp.mk (some 82) (AK.bin false BinOp.lss (AX.t 78) (AX.t 81)) none 4 false true)]) (AC.cond (AX.t 82) AC.skip (AC.exit 0))) (AC.seq (AC.block 1 (AC.seq (AC.ops [(AOp.mk (some 85) (AK.fadr 4 (AX.t 3)) none 0 false true), (AOp.mk (some 86) (AK.ld none (AX.t 85)) none 1 false true), (AOp.mk (some 87) (AK.mv (AX.t 17)) none 2 false true), (AOp.mk (some 88) (AK.iadrS 6 (AX.t 86) (AX.t 87)) none 3 false true), (AOp.mk (some 89) (AK.ld (some 6) (AX.t 88)) none 4 false true), (AOp.mk (some 18) (AK.new (PV.agg [(PV.val (Value.int IntKind.i64 0)), (PV.val (Value.int IntKind.i64 0)), (PV.val (Value.int IntKind.i64 0)), (PV.val (Value.int IntKind.i64 0)), (PV.val (Value.int IntKind.i64 0)), (PV.val (Value.int IntKind.i64 0))])) none 5 false true), (AOp.mk none (AK.st 6 (AX.t 18) (AX.t 89)) none 6 false true)]) (AC.seq (AC.ops [(AOp.mk (some 90) (AK.fadr 1 (AX.t 18)) none 0 true false), (AOp.mk (some 91) (AK.ld (some 2) (AX.t 90)) none 1 true false), (AOp.mk (some 92) (AK.mv (AX.t 1)) none 2 true false), (AOp.mk (some 93) (AK.mv (AX.t 17)) none 3 true false), (AOp.mk (some 94) (AK.bin false BinOp.add (AX.t 93) (AX.c (PV.val (Value.int IntKind.i64 2)))) none 4 true false), (AOp.mk (some 97) (AK.fadr 5 (AX.t 3)) none 7 true false), (AOp.mk (some 98) (AK.ld none (AX.t 97)) none 8 true false), (AOp.mk (some 100) (AK.fadr 3 (AX.t 18)) none 10 true false), (AOp.mk (some 101) (AK.ld (some 2) (AX.t 100)) none 11 true false), (AOp.mk (some 102) (AK.mv (AX.t 1)) none 12 true false), (AOp.mk (some 103) (AK.mv (AX.t 17)) none 13 true false), (AOp.mk (some 104) (AK.iadrA 1 2 (AX.t 5) (AX.c (PV.val (Value.int IntKind.i64 1)))) none 14 true false), (AOp.mk (some 105) (AK.ld none (AX.t 104)) none 15 true false), (AOp.mk (some 106) (AK.bin false BinOp.rem (AX.t 105) (AX.c (PV.val (Value.int IntKind.i64 3)))) none 16 true false), (AOp.mk (some 107) (AK.bin false BinOp.add (AX.t 103) (AX.t 106)) none 17 true false), (AOp.mk (some 108) (AK.bin false BinOp.add (AX.t 107) (AX.c (PV.val (Value.int IntKind.i64 3)))) none 18 true false), (AOp.mk (some 95) (AK.call 41 [(AX.t 92), (AX.t 94)]) none 5 false false), (AOp.mk (some 96) (AK.call 43 [(AX.t 91), (AX.t 95)]) none 6 false false), (AOp.mk (some 99) (AK.bin false BinOp.mul (AX.t 96) (AX.t 98)) none 9 true false), (AOp.mk (some 109) (AK.call 41 [(AX.t 102), (AX.t 108)]) none 19 false false), (AOp.mk (some 110) (AK.call 43 [(AX.t 101), (AX.t 109)]) none 20 false false), (AOp.mk (some 111) (AK.bin false BinOp.add (AX.t 99) (AX.t 110)) none 21 true true), (AOp.mk (some 19) (AK.mv (AX.t 111)) none 22 true true)]) (AC.seq (AC.seq (AC.ops [(AOp.mk (some 112) (AK.mv (AX.t 14)) none 0 false true), (AOp.mk (some 113) (AK.fadr 0 (AX.t 18)) none 1 false true), (AOp.mk (some 114) (AK.ld none (AX.t 113)) none 2 false true), (AOp.mk (some 115) (AK.call 44 [(AX.t 112), (AX.t 114)]) none 3 false true), (AOp.mk (some 116) (AK.un UnOp.not (AX.t 115)) none 4 false true)]) (AC.cond (AX.t 116) (AC.ops [(AOp.mk (some 117) (AK.mv (AX.t 19)) none 0 false true), (AOp.mk (some 118) (AK.fadr 6 (AX.t 3)) none 1 false true), (AOp.mk (some 119) (AK.ld none (AX.t 118)) none 2 false true), (AOp.mk (some 120) (AK.mv (AX.t 13)) none 3 false true), (AOp.mk (some 121) (AK.iadrS 1 (AX.t 119) (AX.t 120)) none 4 false true), (AOp.mk (some 122) (AK.ld none (AX.t 121)) none 5 false true), (AOp.mk (some 123) (AK.bin false BinOp.add (AX.t 117) (AX.t 122)) none 6 false true), (AOp.mk (some 19) (AK.mv (AX.t 123)) none 7 false true)]) AC.skip)) (AC.seq (AC.ops [(AOp.mk (some 125) (AK.ld (some 8) (AX.t 3)) none 0 false true), (AOp.mk (some 126) (AK.mv (AX.t 17)) none 1 false true), (AOp.mk (some 127) (AK.call 19 [(AX.t 125), (AX.t 126)]) none 2 false true), (AOp.mk (some 124) (AK.mv (AX.t 127)) none 3 false true), (AOp.mk (some 128) (AK.ext (AX.t 124) 0) none 4 false true), (AOp.mk (some 129) (AK.ext (AX.t 124) 1) none 5 false true), (AOp.mk (some 20) (AK.new (PV.agg [(PV.val (Value.int IntKind.i64 0)), (PV.val (Value.int IntKind.i64 0))])) none 6 false true), (AOp.mk none (AK.st 2 (AX.t 20) (AX.t 128)) none 7 false true), (AOp.mk (some 21) (AK.mv (AX.t 129)) none 8 false true)]) (AC.seq (AC.seq (AC.ops [(AOp.mk (some 130) (AK.mv (AX.t 21)) none 0 false true), (AOp.mk (some 131) (AK.bin false BinOp.neq (AX.t 130) (AX.c (PV.val (Value.int IntKind.i64 0)))) none 1 false true), (AOp.mk (some 132) (AK.mv (AX.t 131)) none 2 false true), (AOp.mk (some 133) (AK.ld (some 2) (AX.t 20)) (some (132, false)) 3 false true), (AOp.mk (some 134) (AK.mv (AX.t 19)) (some (132, false)) 4 false true), (AOp.mk (some 135) (AK.call 45 [(AX.t 133), (AX.t 134)]) (some (132, false)) 5 false true), (AOp.mk (some 136) (AK.un UnOp.not (AX.t 135)) (some (132, false)) 6 false true), (AOp.mk (some 137) (AK.pick (AX.t 132) (AX.c (PV.val (Value.bool true))) (AX.t 136)) none 7 false true)]) (AC.cond (AX.t 137) (AC.seq (AC.ops [(AOp.mk (some 6) (AK.mv (AX.c (PV.val (Value.bool false)))) none 0 false true)]) AC.ret) AC.skip)) (AC.ops [(AOp.mk (some 138) (AK.mv (AX.t 15)) none 0 true false), (AOp.mk (some 139) (AK.ld (some 6) (AX.t 18)) none 1 true false), (AOp.mk (some 140) (AK.mv (AX.t 19)) none 2 true false), (AOp.mk (some 143) (AK.mv (AX.t 16)) none 5 true false), (AOp.mk (some 144) (AK.mv (AX.t 19)) none 6 true false), (AOp.mk (some 145) (AK.bin false BinOp.add (AX.t 143) (AX.t 144)) none 7 true false), (AOp.mk (some 146) (AK.ld (some 6) (AX.t 18)) none 8 true false), (AOp.mk (some 147) (AK.mv (AX.t 19)) none 9 true false), (AOp.mk (some 141) (AK.call 46 [(AX.t 139), (AX.t 140)]) none 3 false false), (AOp.mk (some 142) (AK.bin false BinOp.add (AX.t 138) (AX.t 141)) none 4 true false), (AOp.mk (some 148) (AK.call 46 [(AX.t 146), (AX.t 147)]) none 10 false false), (AOp.mk (some 149) (AK.bin false BinOp.sub (AX.t 145) (AX.t 148)) none 11 true false), (AOp.mk (some 15) (AK.mv (AX.t 142)) none 12 true false), (AOp.mk (some 16) (AK.mv (AX.t 149)) none 13 true true)]))))))) (AC.ops [(AOp.mk (some 83) (AK.mv (AX.t 17)) none 0 false true), (AOp.mk (some 84) (AK.bin false BinOp.add (AX.t 83) (AX.c (PV.val (Value.int IntKind.i64 1)))) none 1 false true), (AOp.mk (some 17) (AK.mv (AX.t 84)) none 2 false true)])))))) (AC.seq (AC.ops [(AOp.mk (some 151) (AK.ld (some 8) (AX.t 3)) none 0 false true), (AOp.mk (some 152) (AK.mv (AX.t 15)) none 1 false true), (AOp.mk (some 153) (AK.call 32 [(AX.t 151), (AX.t 152)]) none 2 false true), (AOp.mk (some 150) (AK.mv (AX.t 153)) none 3 false true), (AOp.mk (some 154) (AK.ext (AX.t 150) 0) none 4 false true), (AOp.mk (some 155) (AK.ext (AX.t 150) 1) none 5 false true), (AOp.mk (some 22) (AK.mv (AX.t 154)) none 6 false true), (AOp.mk (some 23) (AK.mv (AX.t 155)) none 7 false true)]) (AC.seq (AC.ops [(AOp.mk (some 157) (AK.ld (some 8) (AX.t 3)) none 0 false true), (AOp.mk (some 158) (AK.mv (AX.t 15)) none 1 false true), (AOp.mk (some 159) (AK.call 34 [(AX.t 157), (AX.t 158)]) none 2 false true), (AOp.mk (some 156) (AK.mv (AX.t 159)) none 3 false true), (AOp.mk (some 160) (AK.ext (AX.t 156) 0) none 4 false true), (AOp.mk (some 161) (AK.ext (AX.t 156) 1) none 5 false true), (AOp.mk (some 24) (AK.mv (AX.t 160)) none 6 false true), (AOp.mk (some 25) (AK.mv (AX.t 161)) none 7 false true)]) (AC.seq (AC.ops [(AOp.mk (some 162) (AK.mv (AX.t 23)) none 0 false true), (AOp.mk (some 163) (AK.bin false BinOp.eql (AX.t 162) (AX.c (PV.val (Value.int IntKind.i64 0)))) none 1 false true), (AOp.mk (some 164) (AK.mv (AX.t 163)) none 2 false true), (AOp.mk (some 165) (AK.mv (AX.t 25)) (some (164, true)) 3 false true), (AOp.mk (some 166) (AK.bin false BinOp.eql (AX.t 165) (AX.c (PV.val (Value.int IntKind.i64 0)))) (some (164, true)) 4 false true), (AOp.mk (some 167) (AK.pick (AX.t 164) (AX.t 166) (AX.c (PV.val (Value.bool false)))) none 5 false true), (AOp.mk (some 168) (AK.mv (AX.t 167)) none 6 false true), (AOp.mk (some 169) (AK.mv (AX.t 22)) (some (168, true)) 7 false true), (AOp.mk (some 170) (AK.pick (AX.t 168) (AX.t 169) (AX.c (PV.val (Value.bool false)))) none 8 false true), (AOp.mk (some 171) (AK.mv (AX.t 170)) none 9 false true), (AOp.mk (some 172) (AK.mv (AX.t 24)) (some (171, true)) 10 false true), (AOp.mk (some 173) (AK.mv (AX.t 13)) (some (171, true)) 11 false true), (AOp.mk (some 174) (AK.call 47 [(AX.t 172), (AX.t 173)]) (some (171, true)) 12 false true), (AOp.mk (some 175) (AK.bin false BinOp.geq (AX.t 174) (AX.c (PV.val (Value.int IntKind.i64 0)))) (some (171, true)) 13 false true), (AOp.mk (some 176) (AK.pick (AX.t 171) (AX.t 175) (AX.c (PV.val (Value.bool false)))) none 14 false true), (AOp.mk (some 177) (AK.mv (AX.t 176)) none 15 false true), (AOp.mk (some 178) (AK.ld (some 2) (AX.t 9)) (some (177, true)) 16 false true), (AOp.mk (some 179) (AK.mv (AX.t 15)) (some (177, true)) 17 false true), (AOp.mk (some 180) (AK.call 45 [(AX.t 178), (AX.t 179)]) (some (177, true)) 18 false true), (AOp.mk (some 181) (AK.pick (AX.t 177) (AX.t 180) (AX.c (PV.val (Value.bool false)))) none 19 false true), (AOp.mk (some 182) (AK.mv (AX.t 181)) none 20 false true), (AOp.mk (some 183) (AK.ld (some 2) (AX.t 11)) (some (182, true)) 21 false true), (AOp.mk (some 184) (AK.mv (AX.t 16)) (some (182, true)) 22 false true), (AOp.mk (some 185) (AK.call 45 [(AX.t 183), (AX.t 184)]) (some (182, true)) 23 false true), (AOp.mk (some 186) (AK.pick (AX.t 182) (AX.t 185) (AX.c (PV.val (Value.bool false)))) none 24 false true), (AOp.mk (some 187) (AK.mv (AX.t 186)) none 25 false true), (AOp.mk (some 188) (AK.call 29 []) (some (187, true)) 26 false true), (AOp.mk (some 189) (AK.pick (AX.t 187) (AX.t 188) (AX.c (PV.val (Value.bool false)))) none 27 false true), (AOp.mk (some 6) (AK.mv (AX.t 189)) none 28 false true)]) AC.ret))))))))))))))
theorem ac6_ok : cCode Tryz.prog (fun _ => false) Tryz.f6.ntmps (Tryz.f6.body.getD .skip) = some ac6 := by kernel_rfl
theorem take_mem {l : List Int} (h : 0 < l.length) (n : Int) : takeL l n ∈ l := by
  have := rndI_range (n := n) (m := (l.length : Int)) (by omega)
  unfold takeL
  rw [List.getD_eq_getElem?_getD, List.getElem?_eq_getElem (show (rndI n l.length).toNat < l.length by omega)]
  exact List.getElem_mem _
theorem pays_sem (j : Job) (c : Int) : Sem1 46 [.agg (jobC j), pi c] (pi (paidI j c)) := by
  unfold paidI
  refine semC_of_exec' mixed Tryz.func46 (by kernel_rfl) (by kernel_rfl) ac46_ok 2 rfl (by decide) [(.tmp 4)] (by kernel_rfl) ?_
  intro hr C hC hI
  unfold ac46
  simp only [go_sem, Nat.reduceBEq, Nat.reduceAdd]
  refine ⟨fun h => retQ_one rfl (by rw [if_pos h]), fun h => retQ_one rfl (by rw [if_neg h]; unfold maxI; simp only [Bool.false_eq_true, if_false]; congr 2; split <;> omega)⟩
theorem costs_snoc {b : EBook} {t : Nat × Nat} {j : Job} {c : Int} (h : CostsOk b t [j] [c]) : ∀ (js : List Job) (cs : List Int), CostsOk b t js cs → CostsOk b t (js ++ [j]) (cs ++ [c]) ∧ ∀ w, sharesI w (js ++ [j]) (cs ++ [c]) = sharesI w js cs + shareI w j c
  | [], [], _ => ⟨h, fun w => by simp [sharesI]⟩
  | [], _ :: _, h => absurd h (by simp [CostsOk])
  | _ :: _, [], h => absurd h (by simp [CostsOk])
  | i :: js, d :: cs, ⟨h1, h2⟩ => by
    obtain ⟨h3, h4⟩ := costs_snoc h js cs h2
    refine ⟨⟨h1, h3⟩, fun w => ?_⟩
    simp only [List.cons_append, sharesI, h4]
    omega
/-- What jobs truly cost, up to one: what is paid and lost of them. -/
def TrueI (b : EBook) (t : Nat × Nat) (i : Nat) (p l : Int) : Prop := ∃ cs, CostsOk b t (b.jobs.take i) cs ∧ p = sharesI 1 (b.jobs.take i) cs ∧ l = sharesI 2 (b.jobs.take i) cs ∧ (0 ≤ p ∧ p ≤ 549 * i) ∧ 0 ≤ l ∧ l ≤ 549 * i
theorem TrueI.next {b : EBook} (ho : okE b) {t : Nat × Nat} {i : Nat} {p l h x : Int} (hT : TrueI b t i p l) (hi : i < b.jobs.length) (h1 : b.jobs[i].hl ≤ h ∧ h ≤ b.jobs[i].hh) (h2 : b.jobs[i].pl ≤ x ∧ x ≤ b.jobs[i].ph) :
    TrueI b t (i + 1) (p + paidI b.jobs[i] (costI b t b.jobs[i] h x)) (l + (costI b t b.jobs[i] h x - paidI b.jobs[i] (costI b t b.jobs[i] h x))) := by
  obtain ⟨cs, g1, g2, g3, g4, g5⟩ := hT
  obtain ⟨-, ⟨q1, q2, q3, -⟩, ⟨p1, p2, p3, -⟩, p4, -⟩ := ho.2.2.2.1 _ (List.getElem_mem hi)
  obtain ⟨k1, k2⟩ := costs_snoc (show CostsOk b t [b.jobs[i]] [costI b t b.jobs[i] h x] from ⟨⟨h, x, h1.1, h1.2, h2.1, h2.2, rfl⟩, trivial⟩) _ _ g1
  obtain ⟨-, c1, c2⟩ := cost_le ho t b.jobs[i] (h := h) (p := x) (by omega) (by omega)
  have c3 := paid_le p4 c1
  refine ⟨cs ++ [costI b t b.jobs[i] h x], ?_, ?_, ?_, by omega, by omega⟩
  · rw [List.take_succ_eq_append_getElem hi]; exact k1
  · rw [List.take_succ_eq_append_getElem hi, k2, g2]; rfl
  · rw [List.take_succ_eq_append_getElem hi, k2, g3]; rfl
set_option maxHeartbeats 4000000 in
theorem True_law (κ : KS) (b : EBook) (bits : List Int) (n0 n1 : Int) : Sem1 6 [.agg (ebC κ b), pis bits, .agg [pi n0, pi n1]] (pb true) := by
  by_cases ho : okE b
  rotate_left
  · refine semC_of_exec' mixed Tryz.func6 (by kernel_rfl) (by kernel_rfl) ac6_ok 3 rfl (by decide) [(.tmp 6)] (by kernel_rfl) ?_
    intro hr C hC hI
    unfold ac6
    simp only [go_sem, Nat.reduceBEq, Nat.reduceAdd]
    refine call_pure2 hC (sound_sem κ b) rfl (PVleL_refl _) ?_
    rintro r rfl
    simp only [go_sem, Nat.reduceBEq, decide_eq_false ho]
    refine call_pure2 hC (exs_sem) rfl (PVleL_refl _) ?_
    rintro r rfl
    simp only [go_sem, Nat.reduceBEq]
    exact retQ_one rfl rfl
  by_cases hw : whoL b.mb = []
  · have hF := errF_no ho hw
    refine semC_of_exec' mixed Tryz.func6 (by kernel_rfl) (by kernel_rfl) ac6_ok 3 rfl (by decide) [(.tmp 6)] (by kernel_rfl) ?_
    intro hr C hC hI
    unfold ac6
    simp only [go_sem, Nat.reduceBEq, Nat.reduceAdd]
    refine call_pure2 hC (sound_sem κ b) rfl (PVleL_refl _) ?_
    rintro r rfl
    simp only [go_sem, Nat.reduceBEq, Nat.reduceAdd, decide_eq_true ho]
    refine call_pure2 hC (somebody_sem κ ho) rfl (PVleL_refl _) ?_
    rintro r rfl
    simp only [go_sem, Nat.reduceBEq, Nat.reduceAdd, decide_eq_false (show ¬ whoL b.mb ≠ [] from fun h => h hw)]
    refine call_pure2 hC (Bill_no κ hF) rfl (PVleL_refl _) ?_
    rintro r rfl
    simp only [go_sem, Nat.reduceBEq, Nat.reduceAdd, putCells, not_false_eq_true]
    refine call_pure2 hC (Loss_no κ hF) rfl (PVleL_refl _) ?_
    rintro r rfl
    simp only [go_sem, Nat.reduceBEq, Nat.reduceAdd, putCells, decide_true, not_false_eq_true]
    refine call_pure2 hC (exs_sem) rfl (PVleL_refl _) ?_
    rintro r rfl
    simp only [go_sem, Nat.reduceBEq]
    exact retQ_one rfl rfl
  have hF := errF_of ho hw
  have hne := known_ne hw
  have hl4 := ho.2.1.2
  have hxl := ho.2.2.1
  obtain ⟨m, hm, em⟩ : ∃ m, m ∈ whoL b.mb ∧ takeL (natL (whoL b.mb)) n0 = (m : Int) := by
    have := take_mem (l := natL (whoL b.mb)) (by rw [natL_len]; exact List.length_pos_iff.2 hw) n0
    obtain ⟨m, hm, e⟩ := List.mem_map.1 this
    exact ⟨m, hm, e.symm⟩
  have hml := (mem_who.1 hm).1
  have hBill := Bill_ok κ hF
  have hLoss := Loss_ok κ hF
  unfold spanP at hBill hLoss
  refine semC_of_exec' mixed Tryz.func6 (by kernel_rfl) (by kernel_rfl) ac6_ok 3 rfl (by decide) [(.tmp 6)] (by kernel_rfl) ?_
  intro hr C hC hI
  unfold ac6
  simp only [go_sem, Nat.reduceBEq, Nat.reduceAdd]
  refine call_pure2 hC (sound_sem κ b) rfl (PVleL_refl _) ?_
  rintro r rfl
  simp only [go_sem, Nat.reduceBEq, Nat.reduceAdd, decide_eq_true ho]
  refine call_pure2 hC (somebody_sem κ ho) rfl (PVleL_refl _) ?_
  rintro r rfl
  simp only [go_sem, Nat.reduceBEq, Nat.reduceAdd, decide_eq_true hw]
  refine call_pure2 hC (hBill) rfl (PVleL_refl _) ?_
  rintro r rfl
  simp only [go_sem, Nat.reduceBEq, Nat.reduceAdd, putCells, not_false_eq_true]
  refine call_pure2 hC (hLoss) rfl (PVleL_refl _) ?_
  rintro r rfl
  simp only [go_sem, Nat.reduceBEq, Nat.reduceAdd, putCells, not_false_eq_true]
  refine call_pure2 hC (Take_sem (natL (whoL b.mb)) n0) rfl (PVleL_refl _) ?_
  rintro r rfl
  simp only [go_sem, Nat.reduceBEq, Nat.reduceAdd, em]
  refine call_pure2 hC (lchanged_sem κ ho hm bits) rfl (PVleL_refl _) ?_
  rintro _ ⟨S, rfl, hS⟩
  simp only [go_sem, Nat.reduceBEq, decide_false, not_true_eq_false]
  have hS64 := hS.lt
  have ht := known_of (b := b) ho.1.1.2.1.2 hm hS
  obtain ⟨t, et⟩ : ∃ t, (m, S &&& mendS b) = t := ⟨_, rfl⟩
  have hex : ∀ j ∈ b.jobs, extraI b t j = if S.testBit j.kind.toNat then 0 else b.extra.getD m 0 := fun j hj => by rw [← et]; exact extra_of hj m S
  have htm : t.1 = m := by rw [← et]
  rw [et] at ht
  have hT0 : TrueI b t 0 0 0 := ⟨[], trivial, rfl, rfl, by omega, by omega⟩
  obtain ⟨s1, es1⟩ : ∃ x, outI true b 1 b.jobs = x := ⟨_, rfl⟩
  obtain ⟨s2, es2⟩ : ∃ x, outI false b 1 b.jobs = x := ⟨_, rfl⟩
  obtain ⟨t1, et1⟩ : ∃ x, outI true b 2 b.jobs = x := ⟨_, rfl⟩
  obtain ⟨t2, et2⟩ : ∃ x, outI false b 2 b.jobs = x := ⟨_, rfl⟩
  rw [es1, es2, et1, et2]
  refine loop_g (α := Nat × Int × Int) (fun a => a.1 ≤ b.jobs.length ∧ TrueI b t a.1 a.2.1 a.2.2) (fun a => b.jobs.length - a.1) [1, 3, 5, 9, 11, 13, 14] (fun a => [(15, .p (pi a.2.1)), (16, .p (pi a.2.2)), (17, .p (pi a.1))]) (fun _ => [.cells ((ebC κ b).map .p), .cells [.p (pi n0), .p (pi n1)], .cells [.p (pi s1), .p (pi s2)], .cells [.p (pi t1), .p (pi t2)]]) (fun _ => []) (0, 0, 0) ⟨by omega, hT0⟩ (by simp [Wk, wkT, wkL, look, AV.lo, AV.lo.loL, ABlk.toZ, upS_eq, keepS_nil, keepS_cons]) ?_
  rintro ⟨i, p, l⟩ ⟨hi, hT⟩
  replace hi : i ≤ b.jobs.length := hi
  replace hT : TrueI b t i p l := hT
  simp only [go_sem, Nat.reduceBEq, Nat.reduceAdd, List.length_map]
  refine ⟨fun d5 => ?_, fun d5 => ?_⟩
  · have hi2 : i < b.jobs.length := by omega
    have hjm := List.getElem_mem hi2
    have ei := iadr_map (f := jobC) (kd := κ.c) (sz := 6) hi2
    have eJ := jobN_get hi2
    have hJob := Job_ok κ hF (k := i) hi2
    unfold spanP at hJob
    rw [← eJ] at hJob
    have hexj := hex _ hjm
    have hok := ho.2.2.2.1 _ hjm
    have hnext := fun h x => hT.next ho hi2 (h := h) (x := x)
    have hbw : ∀ h x, b.jobs[i].hl ≤ h ∧ h ≤ b.jobs[i].hh → b.jobs[i].pl ≤ x ∧ x ≤ b.jobs[i].ph → outI true b 0 [b.jobs[i]] ≤ costI b t b.jobs[i] h x ∧ costI b t b.jobs[i] h x ≤ outI false b 0 [b.jobs[i]] := fun h x h1 h2 => by
      have := out_between ho.rate0 ht 0 (js := [b.jobs[i]]) (cs := [costI b t b.jobs[i] h x]) ⟨⟨h, x, h1.1, h1.2, h2.1, h2.2, rfl⟩, trivial⟩
      simpa [sharesI, shareI] using this
    obtain ⟨j, ej⟩ : ∃ j, b.jobs[i] = j := ⟨_, rfl⟩
    rw [ej] at ei hJob hexj hok hnext hbw
    obtain ⟨⟨k1, k2⟩, ⟨q1, q2, q3, -⟩, ⟨p1, p2, p3, -⟩, p4, -⟩ := hok
    obtain ⟨kd, ekd⟩ : ∃ kd : Nat, j.kind = kd := ⟨j.kind.toNat, by omega⟩
    have hk6 : kd ≤ 64 := by have := ho.1.1.2.1.2; omega
    have r1 := rndI_range (n := takeL bits ((i : Int) + 2)) (m := j.hh - j.hl + 1) (by omega)
    have r2 := rndI_range (n := takeL bits ((i : Int) + n1.tmod 3 + 3)) (m := j.ph - j.pl + 1) (by omega)
    have hA1 := Any_sem (a := j.hl) (b := j.hh) (takeL bits ((i : Int) + 2)) (by omega) (by omega) q2
    have hA2 := Any_sem (a := j.pl) (b := j.ph) (takeL bits ((i : Int) + n1.tmod 3 + 3)) (by omega) (by omega) p2
    obtain ⟨h, eh⟩ : ∃ h, j.hl + rndI (takeL bits ((i : Int) + 2)) (j.hh - j.hl + 1) = h := ⟨_, rfl⟩
    obtain ⟨x, ex⟩ : ∃ x, j.pl + rndI (takeL bits ((i : Int) + n1.tmod 3 + 3)) (j.ph - j.pl + 1) = x := ⟨_, rfl⟩
    rw [eh] at hA1
    rw [ex] at hA2
    have hh : j.hl ≤ h ∧ h ≤ j.hh := by omega
    have hx : j.pl ≤ x ∧ x ≤ j.ph := by omega
    have hN := hnext h x hh hx
    have hB := hbw h x hh hx
    obtain ⟨⟨m1, m2⟩, c1, c2⟩ := cost_le ho t j (h := h) (p := x) (by omega) (by omega)
    have hxe := extra_le ho t j
    have hpd := paid_le p4 c1
    have htm1 := Int.tmod_lt_of_pos n1 (show (0 : Int) < 3 by decide)
    have htm2 : -3 < n1.tmod 3 := by
      have := Int.lt_tmod_of_pos n1 (show (0 : Int) < 3 by decide)
      omega
    obtain ⟨-, -, -, -, hpb, hlb⟩ := id hT
    have hcost : costI b t j h x = h * b.rate + x + extraI b t j := rfl
    simp only [go_sem, Nat.reduceBEq, Nat.reduceAdd, Nat.reduceLeDiff, ei, putCells, wrap_id (n := (i : Int) + 2) (by omega) (by omega), bin_rem (k := .i64) (a := n1) (b := 3) (by decide), wrap_id (n := (i : Int) + n1.tmod 3) (by omega) (by omega), wrap_id (n := (i : Int) + n1.tmod 3 + 3) (by omega) (by omega)]
    refine call_pure2 hC (Take_sem bits ((i : Int) + 2)) rfl (PVleL_refl _) ?_
    rintro r rfl
    simp only [go_sem, Nat.reduceBEq]
    refine call_pure2 hC hA1 rfl (PVleL_refl _) ?_
    rintro _ rfl
    simp only [go_sem, Nat.reduceBEq, wrap_id (n := h * b.rate) (by omega) (by omega)]
    refine call_pure2 hC (Take_sem bits ((i : Int) + n1.tmod 3 + 3)) rfl (PVleL_refl _) ?_
    rintro r rfl
    simp only [go_sem, Nat.reduceBEq]
    refine call_pure2 hC hA2 rfl (PVleL_refl _) ?_
    rintro _ rfl
    simp only [go_sem, Nat.reduceBEq, ekd, wrap_id (n := h * b.rate + x) (by omega) (by omega)]
    obtain ⟨c, ec⟩ : ∃ c, costI b t j h x = c := ⟨_, rfl⟩
    rw [ec] at hN hB c1 c2 hpd hcost
    have hlc : IntKind.i64.wrap (l + c - paidI j c) = l + (c - paidI j c) := by rw [wrap_id (by omega) (by omega)]; omega
    rw [ekd, Int.toNat_natCast] at hexj
    have hpay : Sem1 46 [.agg [pi kd, pi j.hl, pi j.hh, pi j.pl, pi j.ph, pi j.cap], pi c] (pi (paidI j c)) := by rw [← ekd]; exact pays_sem j c
    cases hb : S.testBit kd
    · rw [hb, if_neg (by decide)] at hexj
      have hme : m < b.extra.length := by omega
      have ex1 := iadr_map (f := fun x : Int => [pi x]) (kd := κ.d) (sz := 1) hme
      have hge : b.extra[m] = b.extra.getD m 0 := by rw [List.getD_eq_getElem?_getD, List.getElem?_eq_getElem hme]; rfl
      rw [hge, ← hexj] at ex1
      refine call_pure2 hC (Of_sem (S : Nat) kd (by omega)) rfl (PVleL_refl _) ?_
      rintro r rfl
      simp only [go_sem, Nat.reduceBEq, Nat.reduceAdd, of_bit (s := S) (i := kd) hk6, hb, ex1, ← hcost, wrap_id (n := c) (by omega) (by omega)]
      refine call_pure2 hC hJob rfl (PVleL_refl _) ?_
      rintro _ rfl
      simp only [go_sem, Nat.reduceBEq, Nat.reduceAdd, putCells, decide_false, not_true_eq_false, not_false_eq_true]
      refine call_pure2 hC (Has_sem ..) rfl (PVleL_refl _) ?_
      rintro r rfl
      simp only [go_sem, Nat.reduceBEq, Nat.reduceAdd, decide_eq_true hB, Bool.false_eq_true]
      refine call_pure2 hC hpay rfl (PVleL_refl _) ?_
      rintro _ rfl
      simp only [go_sem, Nat.reduceBEq, wrap_id (n := p + paidI j c) (by omega) (by omega), wrap_id (n := l + c) (by omega) (by omega)]
      refine call_pure2 hC hpay rfl (PVleL_refl _) ?_
      rintro _ rfl
      simp only [go_sem, Nat.reduceBEq, hlc, wrap_succ (k := i) (by omega)]
      refine ⟨⟨(i + 1, p + paidI j c, l + (c - paidI j c)), hi2, hN⟩, by simp only; omega, ?_⟩
      simp [Wk, wkT, wkL, look, AV.lo, AV.lo.loL, ABlk.toZ]
    · rw [hb, if_pos rfl] at hexj
      have hc0 : h * b.rate + x = c := by omega
      refine call_pure2 hC (Of_sem (S : Nat) kd (by omega)) rfl (PVleL_refl _) ?_
      rintro r rfl
      simp only [go_sem, Nat.reduceBEq, Nat.reduceAdd, of_bit (s := S) (i := kd) hk6, hb, hc0]
      refine call_pure2 hC hJob rfl (PVleL_refl _) ?_
      rintro _ rfl
      simp only [go_sem, Nat.reduceBEq, Nat.reduceAdd, putCells, decide_false, not_true_eq_false, not_false_eq_true]
      refine call_pure2 hC (Has_sem ..) rfl (PVleL_refl _) ?_
      rintro r rfl
      simp only [go_sem, Nat.reduceBEq, Nat.reduceAdd, decide_eq_true hB, Bool.false_eq_true]
      refine call_pure2 hC hpay rfl (PVleL_refl _) ?_
      rintro _ rfl
      simp only [go_sem, Nat.reduceBEq, wrap_id (n := p + paidI j c) (by omega) (by omega), wrap_id (n := l + c) (by omega) (by omega)]
      refine call_pure2 hC hpay rfl (PVleL_refl _) ?_
      rintro _ rfl
      simp only [go_sem, Nat.reduceBEq, hlc, wrap_succ (k := i) (by omega)]
      refine ⟨⟨(i + 1, p + paidI j c, l + (c - paidI j c)), hi2, hN⟩, by simp only; omega, ?_⟩
      simp [Wk, wkT, wkL, look, AV.lo, AV.lo.loL, ABlk.toZ]
  · have hin : i = b.jobs.length := by omega
    subst hin
    obtain ⟨cs, g1, g2, g3, -, -⟩ := hT
    rw [List.take_length] at g1 g2 g3
    have hP := out_between ho.rate0 ht 1 g1
    have hL := out_between ho.rate0 ht 2 g1
    rw [← g2, es1, es2] at hP
    rw [← g3, et1, et2] at hL
    have hcan := can_of ho g1
    rw [← shares_paid, ← g2] at hcan
    have hmw : m ∈ whoseL b p := mem_whose.2 ⟨t.2, by rw [← htm]; exact ht, by rw [← htm]; exact hcan⟩
    have hwne : whoseL b p ≠ [] := fun e => by rw [e] at hmw; cases hmw
    have hCan := Can_ok κ hF p
    rw [decide_eq_true hwne] at hCan
    have hmI : (m : Int) ∈ natL (whoseL b p) := List.mem_map.2 ⟨m, hmw, rfl⟩
    refine call_pure2 hC hCan rfl (PVleL_refl _) ?_
    rintro _ rfl
    simp only [go_sem, Nat.reduceBEq, Nat.reduceAdd]
    refine call_pure2 hC (Whose_ok κ hF p) rfl (PVleL_refl _) ?_
    rintro r rfl
    simp only [go_sem, Nat.reduceBEq, decide_true]
    refine call_pure2 hC (Find_sem (natL (whoseL b p)) m) rfl (PVleL_refl _) ?_
    rintro r ⟨q, rfl, hq⟩
    have hq0 : 0 ≤ q := Int.not_lt.1 fun h => hq.1 h hmI
    simp only [go_sem, Nat.reduceBEq, Nat.reduceAdd, eq_true hq0, decide_true]
    refine call_pure2 hC (Has_sem s1 s2 p) rfl (PVleL_refl _) ?_
    rintro r rfl
    simp only [go_sem, Nat.reduceBEq, Nat.reduceAdd, decide_eq_true hP]
    refine call_pure2 hC (Has_sem t1 t2 l) rfl (PVleL_refl _) ?_
    rintro r rfl
    simp only [go_sem, Nat.reduceBEq, decide_eq_true hL]
    refine call_pure2 hC (exs_sem) rfl (PVleL_refl _) ?_
    rintro r rfl
    simp only [go_sem, Nat.reduceBEq]
    exact retQ_one rfl rfl
set_option maxRecDepth 100000 in
theorem True_row {l0 l1 l2 : List PV} (T0 : Ty Tryz.prog 10 29 l0) (T1 : Ty Tryz.prog 10 27 l1) (T2 : Ty Tryz.prog 10 47 l2) : SemC Tryz.prog 6 [argPV Tryz.prog 29 l0, argPV Tryz.prog 27 l1, argPV Tryz.prog 47 l2] (fun r => r = pb true) := by
  obtain ⟨b, rfl⟩ := ty_ebook T0
  obtain ⟨bits, rfl⟩ := ty_ints T1
  obtain ⟨n0, n1, rfl⟩ := ty_two T2
  rw [argStruct Tryz.underlying29, argSlice Tryz.underlying27, argArray Tryz.underlying47]
  exact True_law shK b bits n0 n1
end Go.Proofs.YtefehlekneahmaaGreat.Mk.Me
namespace Go.Proofs.YtefehlekneahmaaGreat
open Go.Proofs.YtefehlekneahmaaGreat Go.ChangeShapes Go.WideShapes Go.ChangeAt Go.RowKit Go.Deep

set_option maxRecDepth 100000 in
theorem mendTrue_lifted (os : Os) (started : os.Started) (H : Type) (enc : TypeId × Value → H) :
    ReturnsInHanded {} Tryz.checked os 6 .any (Rows.mendTrueSpec.pre6 enc Tryz.prog Tryz.f6 Rows.mendTrueRow.domain false) (Rows.mendTrueSpec.post enc Tryz.prog Tryz.f6 false true false false) := by
  refine returnsInHanded_of_change_sized (C := Tryz.checked) ownKnobs started (by kernel_rfl) Tryz.func6
    (ChangeSpec.witness6 (enc := enc) (C := Tryz.checked) false ⟨#[], #[.agg #[.slice none 0 0, .slice none 0 0, .int .i64 0, .int .i64 0, .slice none 0 0, .int .i64 0, .slice none 0 0, .slice none 0 0], .slice none 0 0, .agg #[.int .i64 0, .int .i64 0]], []⟩ 8 (by kernel_rfl) (by kernel_rfl) (by kernel_rfl) (by kernel_rfl)) ?_
  intro W base args ds gs before hval0 hW hcnd hsz0 _
  have hval : ∀ (j : Nat) t v, Tryz.f6.params[j]? = some t → args[j]? = some v → Value.okWide Tryz.prog W .any base t v := hval0
  have hsz : (DataW.weightsEach Tryz.prog (Tryz.f6.params.toList ++ Rows.mendTrueSpec.plain.varTypes Tryz.prog) (ds ++ gs)).all (· ≤ reachBytes) = true := hsz0
  have hW' := hW
  obtain ⟨p, q, hA0, hV, rfl, hfz, hnd⟩ := hW
  have hA : DataW.TrodAll enc Tryz.prog W 0 (fun _ => true) true Tryz.f6.params.toList args.toList ds p := hA0
  rw [Tryz.params6] at hA hval hsz
  obtain ⟨v0, vs0, d0, ds0, p0, q0, hargs, rfl, rfl, h0, r0⟩ := trodAll_cons hA
  obtain ⟨v1, vs1, d1, ds1, p1, q1, rfl, rfl, rfl, h1, r1⟩ := trodAll_cons r0
  obtain ⟨v2, vs2, d2, ds2, p2, q2, rfl, rfl, rfl, h2, r2⟩ := trodAll_cons r1
  obtain ⟨rfl, rfl, rfl⟩ := trodAll_nil r2
  obtain rfl : args = #[v0, v1, v2] := by cases args; simp_all
  obtain ⟨rfl, rfl⟩ := trodVars_none hV
  have lt0 : ∀ x ∈ p0, x.block < W.heap.size := by obtain ⟨m, hm⟩ := h0; exact DataW.trod_lt m _ _ _ hm
  have lt1 : ∀ x ∈ p1, x.block < W.heap.size := by obtain ⟨m, hm⟩ := h1; exact DataW.trod_lt m _ _ _ hm
  have lt2 : ∀ x ∈ p2, x.block < W.heap.size := by obtain ⟨m, hm⟩ := h2; exact DataW.trod_lt m _ _ _ hm
  have z0 : SizedP Tryz.prog 29 d0 := sizedP_each hsz (j := 0) rfl rfl
  obtain ⟨l0, T0, R0⟩ := rd_arg 10 (by kernel_rfl) (hval 0 29 v0 rfl rfl) h0 z0
  have z1 : SizedP Tryz.prog 27 d1 := sizedP_each hsz (j := 1) rfl rfl
  obtain ⟨l1, T1, R1⟩ := rd_arg 10 (by kernel_rfl) (hval 1 27 v1 rfl rfl) h1 z1
  have z2 : SizedP Tryz.prog 47 d2 := sizedP_each hsz (j := 2) rfl rfl
  obtain ⟨l2, T2, R2⟩ := rd_arg 10 (by kernel_rfl) (hval 2 47 v2 rfl rfl) h2 z2
  clear hA0 hval0 hsz0
  refine (law_calls (Mk.Me.True_row T0 T1 T2) (argsP_cons R0 (argsP_cons R1 (argsP_cons R2 argsP_nil)))).mono fun e W' ⟨he, bel⟩ => ?_
  subst he
  exact ⟨_, rfl, _, _, _, [], _, [], hW', trodAll_mk1 (shut_bool Tryz.underlying4 _), (trodAll_cons_mk (Below.trod laidOut (by kernel_rfl) (of_decide_eq_true (by kernel_rfl)) h0 bel lt0) (trodAll_cons_mk (Below.trod laidOut (by kernel_rfl) (of_decide_eq_true (by kernel_rfl)) h1 bel lt1) (trodAll_cons_mk (Below.trod laidOut (by kernel_rfl) (of_decide_eq_true (by kernel_rfl)) h2 bel lt2) trodAll_mk0))), rfl, bel.frame _, fun h => by cases h⟩

theorem mendTrue_joined : joinedFacts Tryz.prog 6 Tryz.f6 Rows.mendTrueSpec Rows.mendTrueRow = true := by
  simp only [joinedFacts, Bool.and_eq_true]
  repeat' apply And.intro
  all_goals first | with_reducible exact laidOut | with_reducible exact mapsR | with_reducible exact stopsH | with_reducible exact mayE | (rw [lift0]; kernel_rfl) | (rw [make0]; kernel_rfl) | kernel_rfl

theorem mendTrue_holds : Rows.MendTrueSaid :=
  OpenClaim.holds_of_wide 6 Tryz.f6 rfl rfl rfl rfl rfl rfl rfl ⟨rfl, rfl, rfl, rfl, rfl⟩ rfl rfl rfl rfl rfl (by kernel_rfl) Tryz.func6 mendTrue_joined
    (of_decide_eq_true (by kernel_rfl)) (by unfold Func.isWrapper; first | (rw [if_pos (by decide +kernel)]; kernel_rfl) | (rw [if_neg (by decide +kernel)]; exact ⟨rfl, rfl⟩))
    (fun os started H enc _ => mendTrue_lifted os started H enc)
end Go.Proofs.YtefehlekneahmaaGreat
