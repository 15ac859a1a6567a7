/- DappleDrop returns true: without those that are told no two can be the same; without others that are fewer, or as many and before, some can; none are told just if no two can be; for every book and every number; no condition. Law: DappleDrop. -/
import Derived.Test.YtlghbmancjjdjaaKe05
import Derived.Test.YtlghbmancjjdjaaKe07
import Derived.Test.YtlghbmancjjdjaaGa16
namespace Go.Proofs.Ytlghbmancjjdjaa
open Go.RowKit
def ac52 : AC := (AC.seq (AC.ops [(AOp.mk (some 4) (AK.mv (AX.c (PV.val (Value.bool false)))) none 0 false true)]) (AC.seq (AC.seq (AC.ops [(AOp.mk (some 5) (AK.mv (AX.c (PV.val (Value.int IntKind.i64 0)))) none 0 false true)]) (AC.block 0 (AC.loop (AC.seq (AC.seq (AC.ops [(AOp.mk (some 7) (AK.mv (AX.t 5)) none 0 false true), (AOp.mk (some 8) (AK.mv (AX.t 0)) none 1 false true), (AOp.mk (some 9) (AK.len (AX.t 8)) none 2 false true), (AOp.mk (some 10) (AK.bin false BinOp.lss (AX.t 7) (AX.t 9)) none 3 false true)]) (AC.cond (AX.t 10) AC.skip (AC.exit 0))) (AC.seq (AC.block 1 (AC.seq (AC.ops [(AOp.mk (some 13) (AK.mv (AX.t 5)) none 0 false true), (AOp.mk (some 14) (AK.bin false BinOp.add (AX.t 13) (AX.c (PV.val (Value.int IntKind.i64 1)))) none 1 false true), (AOp.mk (some 6) (AK.mv (AX.t 14)) none 2 false true)]) (AC.block 2 (AC.loop (AC.seq (AC.seq (AC.ops [(AOp.mk (some 15) (AK.mv (AX.t 6)) none 0 false true), (AOp.mk (some 16) (AK.mv (AX.t 0)) none 1 false true), (AOp.mk (some 17) (AK.len (AX.t 16)) none 2 false true), (AOp.mk (some 18) (AK.bin false BinOp.lss (AX.t 15) (AX.t 17)) none 3 false true)]) (AC.cond (AX.t 18) AC.skip (AC.exit 2))) (AC.seq (AC.block 3 (AC.seq (AC.ops [(AOp.mk (some 21) (AK.mv (AX.t 1)) none 0 false true), (AOp.mk (some 22) (AK.mv (AX.t 5)) none 1 false true), (AOp.mk (some 23) (AK.call 42 [(AX.t 21), (AX.t 22)]) none 2 false true), (AOp.mk (some 24) (AK.bin false BinOp.lss (AX.t 23) (AX.c (PV.val (Value.int IntKind.i64 0)))) none 3 false true), (AOp.mk (some 25) (AK.mv (AX.t 24)) none 4 false true), (AOp.mk (some 26) (AK.mv (AX.t 1)) (some (25, true)) 5 false true), (AOp.mk (some 27) (AK.mv (AX.t 6)) (some (25, true)) 6 false true), (AOp.mk (some 28) (AK.call 42 [(AX.t 26), (AX.t 27)]) (some (25, true)) 7 false true), (AOp.mk (some 29) (AK.bin false BinOp.lss (AX.t 28) (AX.c (PV.val (Value.int IntKind.i64 0)))) (some (25, true)) 8 false true), (AOp.mk (some 30) (AK.pick (AX.t 25) (AX.t 29) (AX.c (PV.val (Value.bool false)))) none 9 false true), (AOp.mk (some 31) (AK.mv (AX.t 30)) none 10 false true), (AOp.mk (some 32) (AK.mv (AX.t 0)) (some (31, true)) 11 false true), (AOp.mk (some 33) (AK.mv (AX.t 5)) (some (31, true)) 12 false true), (AOp.mk (some 34) (AK.iadrS 1 (AX.t 32) (AX.t 33)) (some (31, true)) 13 false true), (AOp.mk (some 35) (AK.ld none (AX.t 34)) (some (31, true)) 14 false true), (AOp.mk (some 36) (AK.mv (AX.t 6)) (some (31, true)) 15 false true), (AOp.mk (some 37) (AK.iadrS 1 (AX.t 35) (AX.t 36)) (some (31, true)) 16 false true), (AOp.mk (some 38) (AK.ld none (AX.t 37)) (some (31, true)) 17 false true), (AOp.mk (some 39) (AK.bin false BinOp.gtr (AX.t 38) (AX.c (PV.val (Value.int IntKind.i64 0)))) (some (31, true)) 18 false true), (AOp.mk (some 40) (AK.pick (AX.t 31) (AX.t 39) (AX.c (PV.val (Value.bool false)))) none 19 false true)]) (AC.cond (AX.t 40) (AC.seq (AC.ops [(AOp.mk (some 4) (AK.mv (AX.c (PV.val (Value.bool false)))) none 0 false true)]) AC.ret) AC.skip))) (AC.ops [(AOp.mk (some 19) (AK.mv (AX.t 6)) none 0 false true), (AOp.mk (some 20) (AK.bin false BinOp.add (AX.t 19) (AX.c (PV.val (Value.int IntKind.i64 1)))) none 1 false true), (AOp.mk (some 6) (AK.mv (AX.t 20)) none 2 false true)]))))))) (AC.ops [(AOp.mk (some 11) (AK.mv (AX.t 5)) none 0 false true), (AOp.mk (some 12) (AK.bin false BinOp.add (AX.t 11) (AX.c (PV.val (Value.int IntKind.i64 1)))) none 1 false true), (AOp.mk (some 5) (AK.mv (AX.t 12)) none 2 false true)])))))) (AC.seq (AC.ops [(AOp.mk (some 4) (AK.mv (AX.c (PV.val (Value.bool true)))) none 0 false true)]) AC.ret)))
theorem ac52_ok : cCode Try.prog (fun _ => false) Try.f52.ntmps (Try.f52.body.getD .skip) = some ac52 := by kernel_rfl
def ac12 : AC := (AC.seq (AC.ops [(AOp.mk (some 2) (AK.box 2 (AX.t 0)) none 0 false true), (AOp.mk (some 4) (AK.mv (AX.c (PV.val (Value.bool false)))) none 1 false true)]) (AC.seq (AC.ops [(AOp.mk (some 13) (AK.ld (some 2) (AX.t 2)) none 0 false true), (AOp.mk (some 14) (AK.call 34 [(AX.t 13)]) none 1 false true), (AOp.mk (some 12) (AK.mv (AX.t 14)) none 2 false true), (AOp.mk (some 15) (AK.ext (AX.t 12) 0) none 3 false true), (AOp.mk (some 16) (AK.ext (AX.t 12) 1) none 4 false true), (AOp.mk (some 5) (AK.mv (AX.t 15)) none 5 false true), (AOp.mk (some 6) (AK.mv (AX.t 16)) none 6 false true)]) (AC.seq (AC.seq (AC.ops [(AOp.mk (some 17) (AK.ld (some 2) (AX.t 2)) none 0 false true), (AOp.mk (some 18) (AK.call 38 [(AX.t 17)]) none 1 false true), (AOp.mk (some 19) (AK.un UnOp.not (AX.t 18)) none 2 false true)]) (AC.cond (AX.t 19) (AC.seq (AC.ops [(AOp.mk (some 20) (AK.mv (AX.t 6)) none 0 false true), (AOp.mk (some 21) (AK.bin false BinOp.eql (AX.t 20) (AX.c (PV.val (Value.int IntKind.i64 70)))) none 1 false true), (AOp.mk (some 22) (AK.mv (AX.t 21)) none 2 false true), (AOp.mk (some 23) (AK.mv (AX.t 5)) (some (22, true)) 3 false true), (AOp.mk (some 24) (AK.len (AX.t 23)) (some (22, true)) 4 false true), (AOp.mk (some 25) (AK.bin false BinOp.eql (AX.t 24) (AX.c (PV.val (Value.int IntKind.i64 0)))) (some (22, true)) 5 false true), (AOp.mk (some 26) (AK.pick (AX.t 22) (AX.t 25) (AX.c (PV.val (Value.bool false)))) none 6 false true), (AOp.mk (some 27) (AK.mv (AX.t 26)) none 7 false true), (AOp.mk (some 28) (AK.call 25 []) (some (27, true)) 8 false true), (AOp.mk (some 29) (AK.pick (AX.t 27) (AX.t 28) (AX.c (PV.val (Value.bool false)))) none 9 false true), (AOp.mk (some 4) (AK.mv (AX.t 29)) none 10 false true)]) AC.ret) AC.skip)) (AC.seq (AC.ops [(AOp.mk (some 30) (AK.ld (some 2) (AX.t 2)) none 0 false true), (AOp.mk (some 31) (AK.call 47 [(AX.t 30)]) none 1 false true), (AOp.mk (some 7) (AK.mv (AX.t 31)) none 2 false true)]) (AC.seq (AC.ops [(AOp.mk (some 33) (AK.ld (some 2) (AX.t 2)) none 0 false true), (AOp.mk (some 34) (AK.call 30 [(AX.t 33)]) none 1 false true), (AOp.mk (some 32) (AK.mv (AX.t 34)) none 2 false true), (AOp.mk (some 35) (AK.ext (AX.t 32) 0) none 3 false true), (AOp.mk (some 36) (AK.ext (AX.t 32) 1) none 4 false true), (AOp.mk (some 37) (AK.ext (AX.t 32) 2) none 5 false true), (AOp.mk (some 8) (AK.mv (AX.t 35)) none 6 false true), (AOp.mk (some 9) (AK.mv (AX.t 36)) none 7 false true), (AOp.mk (some 10) (AK.mv (AX.t 37)) none 8 false true)]) (AC.seq (AC.seq (AC.ops [(AOp.mk (some 38) (AK.mv (AX.t 6)) none 0 false true), (AOp.mk (some 39) (AK.bin false BinOp.neq (AX.t 38) (AX.c (PV.val (Value.int IntKind.i64 0)))) none 1 false true), (AOp.mk (some 40) (AK.mv (AX.t 39)) none 2 false true), (AOp.mk (some 41) (AK.mv (AX.t 7)) (some (40, false)) 3 false true), (AOp.mk (some 42) (AK.len (AX.t 41)) (some (40, false)) 4 false true), (AOp.mk (some 43) (AK.fadr 1 (AX.t 2)) (some (40, false)) 5 false true), (AOp.mk (some 44) (AK.ld none (AX.t 43)) (some (40, false)) 6 false true), (AOp.mk (some 45) (AK.len (AX.t 44)) (some (40, false)) 7 false true), (AOp.mk (some 46) (AK.bin false BinOp.neq (AX.t 42) (AX.t 45)) (some (40, false)) 8 false true), (AOp.mk (some 47) (AK.pick (AX.t 40) (AX.c (PV.val (Value.bool true))) (AX.t 46)) none 9 false true), (AOp.mk (some 48) (AK.mv (AX.t 47)) none 10 false true), (AOp.mk (some 49) (AK.mv (AX.t 5)) (some (48, false)) 11 false true), (AOp.mk (some 50) (AK.mv (AX.t 7)) (some (48, false)) 12 false true), (AOp.mk (some 51) (AK.len (AX.t 50)) (some (48, false)) 13 false true), (AOp.mk (some 52) (AK.call 41 [(AX.t 49), (AX.t 51)]) (some (48, false)) 14 false true), (AOp.mk (some 53) (AK.un UnOp.not (AX.t 52)) (some (48, false)) 15 false true), (AOp.mk (some 54) (AK.pick (AX.t 48) (AX.c (PV.val (Value.bool true))) (AX.t 53)) none 16 false true), (AOp.mk (some 55) (AK.mv (AX.t 54)) none 17 false true), (AOp.mk (some 56) (AK.mv (AX.t 5)) (some (55, false)) 18 false true), (AOp.mk (some 57) (AK.len (AX.t 56)) (some (55, false)) 19 false true), (AOp.mk (some 58) (AK.bin false BinOp.eql (AX.t 57) (AX.c (PV.val (Value.int IntKind.i64 0)))) (some (55, false)) 20 false true), (AOp.mk (some 59) (AK.mv (AX.t 10)) (some (55, false)) 21 false true), (AOp.mk (some 60) (AK.bin false BinOp.eql (AX.t 59) (AX.c (PV.val (Value.int IntKind.i64 4)))) (some (55, false)) 22 false true), (AOp.mk (some 61) (AK.bin true BinOp.neq (AX.t 58) (AX.t 60)) (some (55, false)) 23 false true), (AOp.mk (some 62) (AK.pick (AX.t 55) (AX.c (PV.val (Value.bool true))) (AX.t 61)) none 24 false true), (AOp.mk (some 63) (AK.mv (AX.t 62)) none 25 false true), (AOp.mk (some 64) (AK.mv (AX.t 7)) (some (63, false)) 26 false true), (AOp.mk (some 65) (AK.mv (AX.t 5)) (some (63, false)) 27 false true), (AOp.mk (some 66) (AK.call 52 [(AX.t 64), (AX.t 65)]) (some (63, false)) 28 false true), (AOp.mk (some 67) (AK.un UnOp.not (AX.t 66)) (some (63, false)) 29 false true), (AOp.mk (some 68) (AK.pick (AX.t 63) (AX.c (PV.val (Value.bool true))) (AX.t 67)) none 30 false true)]) (AC.cond (AX.t 68) (AC.seq (AC.ops [(AOp.mk (some 4) (AK.mv (AX.c (PV.val (Value.bool false)))) none 0 false true)]) AC.ret) AC.skip)) (AC.seq (AC.ops [(AOp.mk (some 69) (AK.mv (AX.t 1)) none 0 false true), (AOp.mk (some 70) (AK.mv (AX.t 7)) none 1 false true), (AOp.mk (some 71) (AK.len (AX.t 70)) none 2 false true), (AOp.mk (some 72) (AK.bin false BinOp.shl (AX.c (PV.val (Value.int IntKind.i64 1))) (AX.t 71)) none 3 false true), (AOp.mk (some 73) (AK.call 46 [(AX.t 69), (AX.t 72)]) none 4 false true), (AOp.mk (some 74) (AK.mv (AX.t 7)) none 5 false true), (AOp.mk (some 75) (AK.len (AX.t 74)) none 6 false true), (AOp.mk (some 76) (AK.call 48 [(AX.t 73), (AX.t 75)]) none 7 false true), (AOp.mk (some 11) (AK.mv (AX.t 76)) none 8 false true)]) (AC.seq (AC.ops [(AOp.mk (some 77) (AK.mv (AX.t 11)) none 0 false true), (AOp.mk (some 78) (AK.mv (AX.t 5)) none 1 false true), (AOp.mk (some 79) (AK.call 53 [(AX.t 77), (AX.t 78)]) none 2 false true), (AOp.mk (some 80) (AK.un UnOp.not (AX.t 79)) none 3 false true), (AOp.mk (some 81) (AK.mv (AX.t 80)) none 4 false true), (AOp.mk (some 82) (AK.mv (AX.t 7)) (some (81, false)) 5 false true), (AOp.mk (some 83) (AK.mv (AX.t 11)) (some (81, false)) 6 false true), (AOp.mk (some 84) (AK.call 52 [(AX.t 82), (AX.t 83)]) (some (81, false)) 7 false true), (AOp.mk (some 85) (AK.un UnOp.not (AX.t 84)) (some (81, false)) 8 false true), (AOp.mk (some 86) (AK.pick (AX.t 81) (AX.c (PV.val (Value.bool true))) (AX.t 85)) none 9 false true), (AOp.mk (some 87) (AK.mv (AX.t 86)) none 10 false true), (AOp.mk (some 88) (AK.call 25 []) (some (87, true)) 11 false true), (AOp.mk (some 89) (AK.pick (AX.t 87) (AX.t 88) (AX.c (PV.val (Value.bool false)))) none 12 false true), (AOp.mk (some 4) (AK.mv (AX.t 89)) none 13 false true)]) AC.ret))))))))
theorem ac12_ok : cCode Try.prog (fun _ => false) Try.f12.ntmps (Try.f12.body.getD .skip) = some ac12 := by kernel_rfl
theorem apart_sem {b : DBook} (ho : okBook b) (l : List Int) : Sem1 52 [.sl .sh 1 (rowsC (kindsL b b.horses.length)), pis l] (pb (ridP b l)) := by
  have h6 := ho.2.1
  have hkl : (kindsL b b.horses.length).length = b.horses.length := kindsL_len ..
  have hrg := fun p q => same_range ho p q
  refine semC_of_exec' mixed Try.func52 (by kernel_rfl) (by kernel_rfl) ac52_ok 2 rfl (by decide) [(.tmp 4)] (by kernel_rfl) ?_
  intro hr C hC hI
  unfold ac52
  simp only [go_sem]
  refine loop_k b.horses.length (fun i => ∀ i' q : Nat, i' < i → i' < q → q < b.horses.length → leftP b l i' q = false) [0, 1] (fun i => [(5, .p (pi i))]) (fun i' q h => absurd h (by omega)) rfl ⟨rfl, by simp, by simp⟩ (by simp [wkT, look, AV.lo]) ?_
  rintro i ⟨hi, hok⟩
  simp only [go_sem, Nat.reduceBEq, List.length_map, hkl]
  refine ⟨fun h5 => ?_, fun h5 => ?_⟩
  · have hi2 : i < b.horses.length := by omega
    simp only [go_sem, wrap_succ (k := i) (by omega)]
    refine loop_k (b.horses.length - (i + 1)) (fun q => ∀ x : Nat, i < x → x < i + 1 + q → leftP b l i x = false) [0, 1, 5] (fun q => [(6, .p (pi ((i + 1 + q : Nat) : Int)))]) (fun x h1 h2 => absurd h1 (by omega)) rfl ⟨rfl, by simp, by simp⟩ (by simp [wkT, look, AV.lo]) ?_
    rintro q ⟨hq, hok2⟩
    simp only [go_sem, Nat.reduceBEq, List.length_map, hkl]
    refine ⟨fun h6 => ?_, fun h6 => ?_⟩
    · have hq2 : i + 1 + q < b.horses.length := by omega
      have hnx : IntKind.i64.wrap (((i + 1 + q : Nat) : Int) + 1) = ((i + 1 + (q + 1) : Nat) : Int) := wrap_succ (by omega)
      have hlp : leftP b l i (i + 1 + q) = (!decide ((i : Int) ∈ l) && !decide (((i + 1 + q : Nat) : Int) ∈ l) && decide (sameI b i (i + 1 + q) ≠ 0)) := rfl
      have hr := hrg i (i + 1 + q)
      have hstep : leftP b l i (i + 1 + q) = false → ∀ x : Nat, i < x → x < i + 1 + (q + 1) → leftP b l i x = false := fun hf x h1 h2 => by
        by_cases e : x = i + 1 + q
        · rw [e]; exact hf
        · exact hok2 x h1 (by omega)
      refine call_pure2 hC (Find_sem l i) rfl (PVleL_refl _) ?_
      rintro r ⟨i1, rfl, hi1⟩
      simp only [go_sem, Nat.reduceBEq, hnx]
      refine ⟨fun h7 => ?_, fun h7 => ?_⟩
      · have hn1 := hi1.1 h7
        refine call_pure2 hC (Find_sem l ((i + 1 + q : Nat) : Int)) rfl (PVleL_refl _) ?_
        rintro r ⟨i2, rfl, hi2b⟩
        simp only [go_sem, Nat.reduceBEq, hnx, kinds_at hi2, kind_at hq2 (show i + 1 + q ≠ i by omega)]
        refine ⟨fun h8 => ⟨fun h9 => ?_, fun h9 => ?_⟩, fun h8 => ?_⟩
        · have hn2 := hi2b.1 h8
          have hf : leftP b l i (i + 1 + q) = true := by
            rw [hlp, decide_eq_false hn1, decide_eq_false hn2, decide_eq_true (show sameI b i (i + 1 + q) ≠ 0 by omega)]; rfl
          have hrid : ridP b l = false := by
            rw [Bool.eq_false_iff]
            intro e
            rw [rid_iff.1 e i (i + 1 + q) (by omega) hq2] at hf
            cases hf
          rw [hrid]
          exact retQ_one rfl rfl
        · have hf : leftP b l i (i + 1 + q) = false := by
            rw [hlp, decide_eq_false (show ¬ sameI b i (i + 1 + q) ≠ 0 by omega), Bool.and_false]
          exact ⟨⟨q + 1, by omega, hstep hf⟩, by simp only; omega, by simp [Wk, wkT, wkL, look, AV.lo]⟩
        · have hm : ((i + 1 + q : Nat) : Int) ∈ l := Decidable.not_not.1 fun h => h8 (hi2b.2 h)
          have hf : leftP b l i (i + 1 + q) = false := by
            rw [hlp, decide_eq_true hm]
            simp
          exact ⟨⟨q + 1, by omega, hstep hf⟩, by simp only; omega, by simp [Wk, wkT, wkL, look, AV.lo]⟩
      · have hm : (i : Int) ∈ l := Decidable.not_not.1 fun h => h7 (hi1.2 h)
        have hf : leftP b l i (i + 1 + q) = false := by
          rw [hlp, decide_eq_true hm]
          simp
        exact ⟨⟨q + 1, by omega, hstep hf⟩, by simp only; omega, by simp [Wk, wkT, wkL, look, AV.lo]⟩
    · simp only [go_sem, wrap_succ (k := i) (by omega)]
      refine ⟨⟨i + 1, hi2, fun i' x h1 h2 h3 => ?_⟩, by simp only; omega, by simp [Wk, wkT, wkL, look, AV.lo]⟩
      by_cases e : i' = i
      · subst e; exact hok2 x h2 (by omega)
      · exact hok i' x (by omega) h2 h3
  · have hrid : ridP b l = true := rid_iff.2 fun i' q h1 h2 => hok i' q (by omega) h1 h2
    rw [hrid]
    exact retQ_one rfl rfl
theorem Drop_bad (k : SK) {b : DBook} (ho : ¬ okBook b) : Sem1 34 [.agg (bookC k b)] (.tup [pis [], pi 70]) :=
  (Drop_sem k b).mono fun _ e => e.trans (by rw [if_neg ho])
theorem Drop_ok (k : SK) {b : DBook} (ho : okBook b) : Sem1 34 [.agg (bookC k b)] (.tup [pis (dropI b), pi 0]) :=
  (Drop_sem k b).mono fun _ e => e.trans (by rw [if_pos ho])
theorem listI_grows (x : Int) (m : Nat) : growsI (listI x m) m := by
  refine ⟨listI_inc x m, fun y hy => ?_⟩
  unfold listI at hy
  obtain ⟨i, hi, rfl⟩ := List.mem_map.1 hy
  have := List.mem_range.1 (List.mem_filter.1 hi).1
  omega
set_option maxRecDepth 100000 in
theorem Drop_law (k : SK) (b : DBook) (n : Int) : Sem1 12 [.agg (bookC k b), pi n] (pb true) := by
  by_cases ho : okBook b
  rotate_left
  · refine semC_of_exec' mixed Try.func12 (by kernel_rfl) (by kernel_rfl) ac12_ok 2 rfl (by decide) [(.tmp 4)] (by kernel_rfl) ?_
    intro hr C hC hI
    unfold ac12
    simp only [go_sem, Nat.reduceBEq, Nat.reduceAdd]
    refine call_pure2 hC (Drop_bad k ho) rfl (PVleL_refl _) ?_
    rintro r rfl
    simp only [go_sem, Nat.reduceBEq, Nat.reduceAdd]
    refine call_pure2 hC (sound_sem k b) rfl (PVleL_refl _) ?_
    rintro r rfl
    simp only [go_sem, Nat.reduceBEq, Nat.reduceAdd, decide_true, List.length_nil, Int.natCast_zero]
    refine ⟨fun _ => ?_, fun h => absurd h ho⟩
    refine call_pure2 hC (pressed_sem) rfl (PVleL_refl _) ?_
    rintro r rfl
    simp only [go_sem, Nat.reduceBEq]
    exact retQ_one rfl rfl
  obtain ⟨h1, h8, hn⟩ := okR ho
  have h6 := ho.2.1
  obtain ⟨x, y, e, hce, hc⟩ := twoE_first ho fun i j => decide (sameI b i j ≠ 0)
  have hC1 := (Clash_sem k b).mono fun _ e => e.trans hce
  have hks := kinds_sem k ho
  have hkl : (kindsL b b.horses.length).length = b.horses.length := kindsL_len ..
  obtain ⟨g1, g2, g3⟩ := drop_facts b
  have hnil := drop_nil b
  have hD := Drop_ok k ho
  have hap := apart_sem ho (dropI b)
  rw [g2] at hap
  obtain ⟨d, hd⟩ : ∃ d, dropI b = d := ⟨_, rfl⟩
  rw [hd] at g1 g3 hnil hD hap
  have hee : decide ((d.length : Int) = 0) = decide (e = 4) := by
    refine decide_eq_decide.2 ⟨fun h => ?_, fun h => ?_⟩
    · have hd0 : d = [] := List.eq_nil_of_length_eq_zero (by omega)
      rcases hc.one with h4 | h0
      · exact h4
      · obtain ⟨i, q, -, -, h3, h4, h5, -⟩ := hc.some h0
        have := hnil.1 hd0 i q h3 h4
        simp at h5; omega
    · obtain ⟨-, -, h3⟩ := hc.none h
      rw [hnil.2 fun i q h4 h5 => by have := h3 i q h4 h5; simpa using this]
      rfl
  refine semC_of_exec' mixed Try.func12 (by kernel_rfl) (by kernel_rfl) ac12_ok 2 rfl (by decide) [(.tmp 4)] (by kernel_rfl) ?_
  intro hr C hC hI
  unfold ac12
  simp only [go_sem, Nat.reduceBEq, Nat.reduceAdd]
  refine call_pure2 hC (hD) rfl (PVleL_refl _) ?_
  rintro r rfl
  simp only [go_sem, Nat.reduceBEq, Nat.reduceAdd]
  refine call_pure2 hC (sound_sem k b) rfl (PVleL_refl _) ?_
  rintro r rfl
  simp only [go_sem, Nat.reduceBEq, Nat.reduceAdd, decide_false, Int.reduceEq]
  refine ⟨fun h => absurd ho h, fun _ => ?_⟩
  refine call_pure2 hC (hks) rfl (PVleL_refl _) ?_
  rintro r rfl
  simp only [go_sem, Nat.reduceBEq, Nat.reduceAdd]
  refine call_pure2 hC (hC1) rfl (PVleL_refl _) ?_
  rintro r rfl
  simp only [go_sem, Nat.reduceBEq, List.length_map, hkl, decide_false, not_true_eq_false]
  refine call_pure2 hC (Grows_sem d b.horses.length) rfl (PVleL_refl _) ?_
  rintro r ⟨t, rfl, ht⟩
  obtain rfl : t = true := ht.2 g1
  simp only [go_sem, Nat.reduceBEq, decide_false, not_true_eq_false, List.length_map, hee]
  refine call_pure2 hC (hap) rfl (PVleL_refl _) ?_
  rintro r rfl
  simp only [go_sem, Nat.reduceBEq, List.length_map, hkl, bin_shl (show ¬ (b.horses.length : Int) < 0 by omega)]
  refine call_pure2 hC (Round_sem ..) rfl (PVleL_refl _) ?_
  rintro r rfl
  simp only [go_sem, Nat.reduceBEq, List.length_map, hkl]
  refine call_pure2 hC (List_sem _ b.horses.length (by omega)) rfl (PVleL_refl _) ?_
  rintro r rfl
  simp only [go_sem, Nat.reduceBEq]
  refine call_pure2 hC (Shorter_sem ..) rfl (PVleL_refl _) ?_
  rintro r rfl
  simp only [go_sem, Nat.reduceBEq]
  obtain ⟨X, hX⟩ : ∃ X, rndI n (IntKind.i64.wrap (1 * 2 ^ min ((b.horses.length : Int)).toNat 64)) = X := ⟨_, rfl⟩
  rw [hX]
  have g4 := g3 (listI X b.horses.length) (listI_grows ..)
  have hap2 := apart_sem ho (listI X b.horses.length)
  cases hsh : shortB (listI X b.horses.length) d
  · simp only [go_sem, Nat.reduceBEq]
    refine call_pure2 hC (pressed_sem) rfl (PVleL_refl _) ?_
    rintro r rfl
    simp only [go_sem, Nat.reduceBEq]
    exact retQ_one rfl rfl
  · rw [g4 hsh] at hap2
    simp only [go_sem, Nat.reduceBEq]
    refine call_pure2 hC (hap2) rfl (PVleL_refl _) ?_
    rintro r rfl
    simp only [go_sem, Nat.reduceBEq]
    refine call_pure2 hC (pressed_sem) rfl (PVleL_refl _) ?_
    rintro r rfl
    simp only [go_sem, Nat.reduceBEq]
    exact retQ_one rfl rfl
set_option maxRecDepth 100000 in
theorem Drop_row {l0 l1 : List PV} (T0 : Ty Try.prog 10 24 l0) (T1 : Ty Try.prog 10 3 l1) : SemC Try.prog 12 [argPV Try.prog 24 l0, argPV Try.prog 3 l1] (fun r => r = pb true) := by
  obtain ⟨b, rfl⟩ := ty_book T0
  obtain ⟨n, rfl⟩ := tyInt uInt T1
  rw [argStruct Try.underlying24, argInt uInt]
  exact Drop_law .sh b n
end Go.Proofs.Ytlghbmancjjdjaa
namespace Go.Proofs.Ytlghbmancjjdjaa
open Go.Proofs.Ytlghbmancjjdjaa Go.ChangeShapes Go.WideShapes Go.ChangeAt Go.RowKit Go.Deep

set_option maxRecDepth 100000 in
theorem dappleDrop_lifted (os : Os) (started : os.Started) (H : Type) (enc : TypeId × Value → H) :
    ReturnsInHanded {} Try.checked os 12 .any (Rows.dappleDropSpec.pre6 enc Try.prog Try.f12 Rows.dappleDropRow.domain false) (Rows.dappleDropSpec.post enc Try.prog Try.f12 false true false false) := by
  refine returnsInHanded_of_change_sized (C := Try.checked) ownKnobs started (by kernel_rfl) Try.func12
    (ChangeSpec.witness6 (enc := enc) (C := Try.checked) false ⟨#[], #[.agg #[.int .i64 0, .slice none 0 0], .int .i64 0], []⟩ 8 (by kernel_rfl) (by kernel_rfl) (by kernel_rfl) (by kernel_rfl)) ?_
  intro W base args ds gs before hval0 hW hcnd hsz0 _
  have hval : ∀ (j : Nat) t v, Try.f12.params[j]? = some t → args[j]? = some v → Value.okWide Try.prog W .any base t v := hval0
  have hsz : (DataW.weightsEach Try.prog (Try.f12.params.toList ++ Rows.dappleDropSpec.plain.varTypes Try.prog) (ds ++ gs)).all (· ≤ reachBytes) = true := hsz0
  have hW' := hW
  obtain ⟨p, q, hA0, hV, rfl, hfz, hnd⟩ := hW
  have hA : DataW.TrodAll enc Try.prog W 0 (fun _ => true) true Try.f12.params.toList args.toList ds p := hA0
  rw [Try.params12] at hA hval hsz
  obtain ⟨v0, vs0, d0, ds0, p0, q0, hargs, rfl, rfl, h0, r0⟩ := trodAll_cons hA
  obtain ⟨v1, vs1, d1, ds1, p1, q1, rfl, rfl, rfl, h1, r1⟩ := trodAll_cons r0
  obtain ⟨rfl, rfl, rfl⟩ := trodAll_nil r1
  obtain rfl : args = #[v0, v1] := by cases args; simp_all
  obtain ⟨rfl, rfl⟩ := trodVars_none hV
  have lt0 : ∀ x ∈ p0, x.block < W.heap.size := by obtain ⟨m, hm⟩ := h0; exact DataW.trod_lt m _ _ _ hm
  have lt1 : ∀ x ∈ p1, x.block < W.heap.size := by obtain ⟨m, hm⟩ := h1; exact DataW.trod_lt m _ _ _ hm
  have z0 : SizedP Try.prog 24 d0 := sizedP_each hsz (j := 0) rfl rfl
  obtain ⟨l0, T0, R0⟩ := rd_arg 10 (by kernel_rfl) (hval 0 24 v0 rfl rfl) h0 z0
  have z1 : SizedP Try.prog 3 d1 := sizedP_each hsz (j := 1) rfl rfl
  obtain ⟨l1, T1, R1⟩ := rd_arg 10 (by kernel_rfl) (hval 1 3 v1 rfl rfl) h1 z1
  clear hA0 hval0 hsz0
  refine (law_calls (Drop_row T0 T1) (argsP_cons R0 (argsP_cons R1 argsP_nil))).mono fun e W' ⟨he, bel⟩ => ?_
  subst he
  exact ⟨_, rfl, _, _, _, [], _, [], hW', trodAll_mk1 (shut_bool Try.underlying4 _), (trodAll_cons_mk (Below.trod laidOut (by kernel_rfl) (of_decide_eq_true (by kernel_rfl)) h0 bel lt0) (trodAll_cons_mk (Below.trod laidOut (by kernel_rfl) (of_decide_eq_true (by kernel_rfl)) h1 bel lt1) trodAll_mk0)), rfl, bel.frame _, fun h => by cases h⟩

theorem dappleDrop_holds : Rows.DappleDropSaid :=
  OpenClaim.holds_of_wide 12 Try.f12 rfl rfl rfl rfl rfl rfl rfl ⟨rfl, rfl, rfl, rfl, rfl⟩ rfl rfl rfl rfl rfl (by kernel_rfl) Try.func12 (by kernel_rfl)
    (of_decide_eq_true (by kernel_rfl)) (by unfold Func.isWrapper; first | (rw [if_pos (by decide +kernel)]; kernel_rfl) | (rw [if_neg (by decide +kernel)]; exact ⟨rfl, rfl⟩))
    (fun os started H enc _ => dappleDrop_lifted os started H enc)
end Go.Proofs.Ytlghbmancjjdjaa
