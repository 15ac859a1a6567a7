/- DappleMore returns true: if more is known of a dapple, no two horses can be the same that could not be before, and those that surely are still are; no row is anybody that was nobody; no fewer rows are new; no more horses are painted anew; for every book and all numbers; no condition. Law: DappleMore. Law: DappleDrop. -/
import Derived.Test.YtlghbmancjjdjaaKh05
import Derived.Test.YtlghbmancjjdjaaKh08
import Derived.Test.YtlghbmancjjdjaaKh06
import Derived.Test.YtlghbmancjjdjaaKh07
import Derived.Test.YtlghbmancjjdjaaGa16
namespace Go.Proofs.Ytlghbmancjjdjaa
open Go.RowKit
def ac52 : AC := (AC.seq (AC.ops [(AOp.mk (some 4) (AK.mv (AX.c (PV.val (Value.bool false)))) none 0 false true)]) (AC.seq (AC.seq (AC.ops [(AOp.mk (some 5) (AK.mv (AX.c (PV.val (Value.int IntKind.i64 0)))) none 0 false true)]) (AC.block 0 (AC.loop (AC.seq (AC.seq (AC.ops [(AOp.mk (some 7) (AK.mv (AX.t 5)) none 0 false true), (AOp.mk (some 8) (AK.mv (AX.t 0)) none 1 false true), (AOp.mk (some 9) (AK.len (AX.t 8)) none 2 false true), (AOp.mk (some 10) (AK.bin false BinOp.lss (AX.t 7) (AX.t 9)) none 3 false true)]) (AC.cond (AX.t 10) AC.skip (AC.exit 0))) (AC.seq (AC.block 1 (AC.seq (AC.ops [(AOp.mk (some 13) (AK.mv (AX.t 5)) none 0 false true), (AOp.mk (some 14) (AK.bin false BinOp.add (AX.t 13) (AX.c (PV.val (Value.int IntKind.i64 1)))) none 1 false true), (AOp.mk (some 6) (AK.mv (AX.t 14)) none 2 false true)]) (AC.block 2 (AC.loop (AC.seq (AC.seq (AC.ops [(AOp.mk (some 15) (AK.mv (AX.t 6)) none 0 false true), (AOp.mk (some 16) (AK.mv (AX.t 0)) none 1 false true), (AOp.mk (some 17) (AK.len (AX.t 16)) none 2 false true), (AOp.mk (some 18) (AK.bin false BinOp.lss (AX.t 15) (AX.t 17)) none 3 false true)]) (AC.cond (AX.t 18) AC.skip (AC.exit 2))) (AC.seq (AC.block 3 (AC.seq (AC.ops [(AOp.mk (some 21) (AK.mv (AX.t 1)) none 0 false true), (AOp.mk (some 22) (AK.mv (AX.t 5)) none 1 false true), (AOp.mk (some 23) (AK.call 42 [(AX.t 21), (AX.t 22)]) none 2 false true), (AOp.mk (some 24) (AK.bin false BinOp.lss (AX.t 23) (AX.c (PV.val (Value.int IntKind.i64 0)))) none 3 false true), (AOp.mk (some 25) (AK.mv (AX.t 24)) none 4 false true), (AOp.mk (some 26) (AK.mv (AX.t 1)) (some (25, true)) 5 false true), (AOp.mk (some 27) (AK.mv (AX.t 6)) (some (25, true)) 6 false true), (AOp.mk (some 28) (AK.call 42 [(AX.t 26), (AX.t 27)]) (some (25, true)) 7 false true), (AOp.mk (some 29) (AK.bin false BinOp.lss (AX.t 28) (AX.c (PV.val (Value.int IntKind.i64 0)))) (some (25, true)) 8 false true), (AOp.mk (some 30) (AK.pick (AX.t 25) (AX.t 29) (AX.c (PV.val (Value.bool false)))) none 9 false true), (AOp.mk (some 31) (AK.mv (AX.t 30)) none 10 false true), (AOp.mk (some 32) (AK.mv (AX.t 0)) (some (31, true)) 11 false true), (AOp.mk (some 33) (AK.mv (AX.t 5)) (some (31, true)) 12 false true), (AOp.mk (some 34) (AK.iadrS 1 (AX.t 32) (AX.t 33)) (some (31, true)) 13 false true), (AOp.mk (some 35) (AK.ld none (AX.t 34)) (some (31, true)) 14 false true), (AOp.mk (some 36) (AK.mv (AX.t 6)) (some (31, true)) 15 false true), (AOp.mk (some 37) (AK.iadrS 1 (AX.t 35) (AX.t 36)) (some (31, true)) 16 false true), (AOp.mk (some 38) (AK.ld none (AX.t 37)) (some (31, true)) 17 false true), (AOp.mk (some 39) (AK.bin false BinOp.gtr (AX.t 38) (AX.c (PV.val (Value.int IntKind.i64 0)))) (some (31, true)) 18 false true), (AOp.mk (some 40) (AK.pick (AX.t 31) (AX.t 39) (AX.c (PV.val (Value.bool false)))) none 19 false true)]) (AC.cond (AX.t 40) (AC.seq (AC.ops [(AOp.mk (some 4) (AK.mv (AX.c (PV.val (Value.bool false)))) none 0 false true)]) AC.ret) AC.skip))) (AC.ops [(AOp.mk (some 19) (AK.mv (AX.t 6)) none 0 false true), (AOp.mk (some 20) (AK.bin false BinOp.add (AX.t 19) (AX.c (PV.val (Value.int IntKind.i64 1)))) none 1 false true), (AOp.mk (some 6) (AK.mv (AX.t 20)) none 2 false true)]))))))) (AC.ops [(AOp.mk (some 11) (AK.mv (AX.t 5)) none 0 false true), (AOp.mk (some 12) (AK.bin false BinOp.add (AX.t 11) (AX.c (PV.val (Value.int IntKind.i64 1)))) none 1 false true), (AOp.mk (some 5) (AK.mv (AX.t 12)) none 2 false true)])))))) (AC.seq (AC.ops [(AOp.mk (some 4) (AK.mv (AX.c (PV.val (Value.bool true)))) none 0 false true)]) AC.ret)))
theorem ac52_ok : cCode Try.prog (fun _ => false) Try.f52.ntmps (Try.f52.body.getD .skip) = some ac52 := by kernel_rfl
def ac12 : AC := (AC.seq (AC.ops [(AOp.mk (some 2) (AK.box 2 (AX.t 0)) none 0 false true), (AOp.mk (some 4) (AK.mv (AX.c (PV.val (Value.bool false)))) none 1 false true)]) (AC.seq (AC.ops [(AOp.mk (some 13) (AK.ld (some 2) (AX.t 2)) none 0 false true), (AOp.mk (some 14) (AK.call 34 [(AX.t 13)]) none 1 false true), (AOp.mk (some 12) (AK.mv (AX.t 14)) none 2 false true), (AOp.mk (some 15) (AK.ext (AX.t 12) 0) none 3 false true), (AOp.mk (some 16) (AK.ext (AX.t 12) 1) none 4 false true), (AOp.mk (some 5) (AK.mv (AX.t 15)) none 5 false true), (AOp.mk (some 6) (AK.mv (AX.t 16)) none 6 false true)]) (AC.seq (AC.seq (AC.ops [(AOp.mk (some 17) (AK.ld (some 2) (AX.t 2)) none 0 false true), (AOp.mk (some 18) (AK.call 38 [(AX.t 17)]) none 1 false true), (AOp.mk (some 19) (AK.un UnOp.not (AX.t 18)) none 2 false true)]) (AC.cond (AX.t 19) (AC.seq (AC.ops [(AOp.mk (some 20) (AK.mv (AX.t 6)) none 0 false true), (AOp.mk (some 21) (AK.bin false BinOp.eql (AX.t 20) (AX.c (PV.val (Value.int IntKind.i64 70)))) none 1 false true), (AOp.mk (some 22) (AK.mv (AX.t 21)) none 2 false true), (AOp.mk (some 23) (AK.mv (AX.t 5)) (some (22, true)) 3 false true), (AOp.mk (some 24) (AK.len (AX.t 23)) (some (22, true)) 4 false true), (AOp.mk (some 25) (AK.bin false BinOp.eql (AX.t 24) (AX.c (PV.val (Value.int IntKind.i64 0)))) (some (22, true)) 5 false true), (AOp.mk (some 26) (AK.pick (AX.t 22) (AX.t 25) (AX.c (PV.val (Value.bool false)))) none 6 false true), (AOp.mk (some 27) (AK.mv (AX.t 26)) none 7 false true), (AOp.mk (some 28) (AK.call 25 []) (some (27, true)) 8 false true), (AOp.mk (some 29) (AK.pick (AX.t 27) (AX.t 28) (AX.c (PV.val (Value.bool false)))) none 9 false true), (AOp.mk (some 4) (AK.mv (AX.t 29)) none 10 false true)]) AC.ret) AC.skip)) (AC.seq (AC.ops [(AOp.mk (some 30) (AK.ld (some 2) (AX.t 2)) none 0 false true), (AOp.mk (some 31) (AK.call 47 [(AX.t 30)]) none 1 false true), (AOp.mk (some 7) (AK.mv (AX.t 31)) none 2 false true)]) (AC.seq (AC.ops [(AOp.mk (some 33) (AK.ld (some 2) (AX.t 2)) none 0 false true), (AOp.mk (some 34) (AK.call 30 [(AX.t 33)]) none 1 false true), (AOp.mk (some 32) (AK.mv (AX.t 34)) none 2 false true), (AOp.mk (some 35) (AK.ext (AX.t 32) 0) none 3 false true), (AOp.mk (some 36) (AK.ext (AX.t 32) 1) none 4 false true), (AOp.mk (some 37) (AK.ext (AX.t 32) 2) none 5 false true), (AOp.mk (some 8) (AK.mv (AX.t 35)) none 6 false true), (AOp.mk (some 9) (AK.mv (AX.t 36)) none 7 false true), (AOp.mk (some 10) (AK.mv (AX.t 37)) none 8 false true)]) (AC.seq (AC.seq (AC.ops [(AOp.mk (some 38) (AK.mv (AX.t 6)) none 0 false true), (AOp.mk (some 39) (AK.bin false BinOp.neq (AX.t 38) (AX.c (PV.val (Value.int IntKind.i64 0)))) none 1 false true), (AOp.mk (some 40) (AK.mv (AX.t 39)) none 2 false true), (AOp.mk (some 41) (AK.mv (AX.t 7)) (some (40, false)) 3 false true), (AOp.mk (some 42) (AK.len (AX.t 41)) (some (40, false)) 4 false true), (AOp.mk (some 43) (AK.fadr 1 (AX.t 2)) (some (40, false)) 5 false true), (AOp.mk (some 44) (AK.ld none (AX.t 43)) (some (40, false)) 6 false true), (AOp.mk (some 45) (AK.len (AX.t 44)) (some (40, false)) 7 false true), (AOp.mk (some 46) (AK.bin false BinOp.neq (AX.t 42) (AX.t 45)) (some (40, false)) 8 false true), (AOp.mk (some 47) (AK.pick (AX.t 40) (AX.c (PV.val (Value.bool true))) (AX.t 46)) none 9 false true), (AOp.mk (some 48) (AK.mv (AX.t 47)) none 10 false true), (AOp.mk (some 49) (AK.mv (AX.t 5)) (some (48, false)) 11 false true), (AOp.mk (some 50) (AK.mv (AX.t 7)) (some (48, false)) 12 false true), (AOp.mk (some 51) (AK.len (AX.t 50)) (some (48, false)) 13 false true), (AOp.mk (some 52) (AK.call 41 [(AX.t 49), (AX.t 51)]) (some (48, false)) 14 false true), (AOp.mk (some 53) (AK.un UnOp.not (AX.t 52)) (some (48, false)) 15 false true), (AOp.mk (some 54) (AK.pick (AX.t 48) (AX.c (PV.val (Value.bool true))) (AX.t 53)) none 16 false true), (AOp.mk (some 55) (AK.mv (AX.t 54)) none 17 false true), (AOp.mk (some 56) (AK.mv (AX.t 5)) (some (55, false)) 18 false true), (AOp.mk (some 57) (AK.len (AX.t 56)) (some (55, false)) 19 false true), (AOp.mk (some 58) (AK.bin false BinOp.eql (AX.t 57) (AX.c (PV.val (Value.int IntKind.i64 0)))) (some (55, false)) 20 false true), (AOp.mk (some 59) (AK.mv (AX.t 10)) (some (55, false)) 21 false true), (AOp.mk (some 60) (AK.bin false BinOp.eql (AX.t 59) (AX.c (PV.val (Value.int IntKind.i64 4)))) (some (55, false)) 22 false true), (AOp.mk (some 61) (AK.bin true BinOp.neq (AX.t 58) (AX.t 60)) (some (55, false)) 23 false true), (AOp.mk (some 62) (AK.pick (AX.t 55) (AX.c (PV.val (Value.bool true))) (AX.t 61)) none 24 false true), (AOp.mk (some 63) (AK.mv (AX.t 62)) none 25 false true), (AOp.mk (some 64) (AK.mv (AX.t 7)) (some (63, false)) 26 false true), (AOp.mk (some 65) (AK.mv (AX.t 5)) (some (63, false)) 27 false true), (AOp.mk (some 66) (AK.call 52 [(AX.t 64), (AX.t 65)]) (some (63, false)) 28 false true), (AOp.mk (some 67) (AK.un UnOp.not (AX.t 66)) (some (63, false)) 29 false true), (AOp.mk (some 68) (AK.pick (AX.t 63) (AX.c (PV.val (Value.bool true))) (AX.t 67)) none 30 false true)]) (AC.cond (AX.t 68) (AC.seq (AC.ops [(AOp.mk (some 4) (AK.mv (AX.c (PV.val (Value.bool false)))) none 0 false true)]) AC.ret) AC.skip)) (AC.seq (AC.ops [(AOp.mk (some 69) (AK.mv (AX.t 1)) none 0 false true), (AOp.mk (some 70) (AK.mv (AX.t 7)) none 1 false true), (AOp.mk (some 71) (AK.len (AX.t 70)) none 2 false true), (AOp.mk (some 72) (AK.bin false BinOp.shl (AX.c (PV.val (Value.int IntKind.i64 1))) (AX.t 71)) none 3 false true), (AOp.mk (some 73) (AK.call 46 [(AX.t 69), (AX.t 72)]) none 4 false true), (AOp.mk (some 74) (AK.mv (AX.t 7)) none 5 false true), (AOp.mk (some 75) (AK.len (AX.t 74)) none 6 false true), (AOp.mk (some 76) (AK.call 48 [(AX.t 73), (AX.t 75)]) none 7 false true), (AOp.mk (some 11) (AK.mv (AX.t 76)) none 8 false true)]) (AC.seq (AC.ops [(AOp.mk (some 77) (AK.mv (AX.t 11)) none 0 false true), (AOp.mk (some 78) (AK.mv (AX.t 5)) none 1 false true), (AOp.mk (some 79) (AK.call 53 [(AX.t 77), (AX.t 78)]) none 2 false true), (AOp.mk (some 80) (AK.un UnOp.not (AX.t 79)) none 3 false true), (AOp.mk (some 81) (AK.mv (AX.t 80)) none 4 false true), (AOp.mk (some 82) (AK.mv (AX.t 7)) (some (81, false)) 5 false true), (AOp.mk (some 83) (AK.mv (AX.t 11)) (some (81, false)) 6 false true), (AOp.mk (some 84) (AK.call 52 [(AX.t 82), (AX.t 83)]) (some (81, false)) 7 false true), (AOp.mk (some 85) (AK.un UnOp.not (AX.t 84)) (some (81, false)) 8 false true), (AOp.mk (some 86) (AK.pick (AX.t 81) (AX.c (PV.val (Value.bool true))) (AX.t 85)) none 9 false true), (AOp.mk (some 87) (AK.mv (AX.t 86)) none 10 false true), (AOp.mk (some 88) (AK.call 25 []) (some (87, true)) 11 false true), (AOp.mk (some 89) (AK.pick (AX.t 87) (AX.t 88) (AX.c (PV.val (Value.bool false)))) none 12 false true), (AOp.mk (some 4) (AK.mv (AX.t 89)) none 13 false true)]) AC.ret))))))))
theorem ac12_ok : cCode Try.prog (fun _ => false) Try.f12.ntmps (Try.f12.body.getD .skip) = some ac12 := by kernel_rfl
theorem apart_sem {b : DBook} (ho : okBook b) (l : List Int) : Sem1 52 [.sl .sh 1 (rowsC (kindsL b b.horses.length)), pis l] (pb (ridP b l)) := by
  have h6 := ho.2.1
  have hkl : (kindsL b b.horses.length).length = b.horses.length := kindsL_len ..
  have hrg := fun p q => same_range ho p q
  refine semC_of_exec' mixed Try.func52 (by kernel_rfl) (by kernel_rfl) ac52_ok 2 rfl (by decide) [(.tmp 4)] (by kernel_rfl) ?_
  intro hr C hC hI
  unfold ac52
  simp only [go_sem]
  refine loop_k b.horses.length (fun i => ∀ i' q : Nat, i' < i → i' < q → q < b.horses.length → leftP b l i' q = false) [0, 1] (fun i => [(5, .p (pi i))]) (fun i' q h => absurd h (by omega)) rfl ⟨rfl, by simp, by simp⟩ (by simp [wkT, look, AV.lo]) ?_
  rintro i ⟨hi, hok⟩
  simp only [go_sem, Nat.reduceBEq, List.length_map, hkl]
  refine ⟨fun h5 => ?_, fun h5 => ?_⟩
  · have hi2 : i < b.horses.length := by omega
    simp only [go_sem, wrap_succ (k := i) (by omega)]
    refine loop_k (b.horses.length - (i + 1)) (fun q => ∀ x : Nat, i < x → x < i + 1 + q → leftP b l i x = false) [0, 1, 5] (fun q => [(6, .p (pi ((i + 1 + q : Nat) : Int)))]) (fun x h1 h2 => absurd h1 (by omega)) rfl ⟨rfl, by simp, by simp⟩ (by simp [wkT, look, AV.lo]) ?_
    rintro q ⟨hq, hok2⟩
    simp only [go_sem, Nat.reduceBEq, List.length_map, hkl]
    refine ⟨fun h6 => ?_, fun h6 => ?_⟩
    · have hq2 : i + 1 + q < b.horses.length := by omega
      have hnx : IntKind.i64.wrap (((i + 1 + q : Nat) : Int) + 1) = ((i + 1 + (q + 1) : Nat) : Int) := wrap_succ (by omega)
      have hlp : leftP b l i (i + 1 + q) = (!decide ((i : Int) ∈ l) && !decide (((i + 1 + q : Nat) : Int) ∈ l) && decide (sameI b i (i + 1 + q) ≠ 0)) := rfl
      have hr := hrg i (i + 1 + q)
      have hstep : leftP b l i (i + 1 + q) = false → ∀ x : Nat, i < x → x < i + 1 + (q + 1) → leftP b l i x = false := fun hf x h1 h2 => by
        by_cases e : x = i + 1 + q
        · rw [e]; exact hf
        · exact hok2 x h1 (by omega)
      refine call_pure2 hC (Find_sem l i) rfl (PVleL_refl _) ?_
      rintro r ⟨i1, rfl, hi1⟩
      simp only [go_sem, Nat.reduceBEq, hnx]
      refine ⟨fun h7 => ?_, fun h7 => ?_⟩
      · have hn1 := hi1.1 h7
        refine call_pure2 hC (Find_sem l ((i + 1 + q : Nat) : Int)) rfl (PVleL_refl _) ?_
        rintro r ⟨i2, rfl, hi2b⟩
        simp only [go_sem, Nat.reduceBEq, hnx, kinds_at hi2, kind_at hq2 (show i + 1 + q ≠ i by omega)]
        refine ⟨fun h8 => ⟨fun h9 => ?_, fun h9 => ?_⟩, fun h8 => ?_⟩
        · have hn2 := hi2b.1 h8
          have hf : leftP b l i (i + 1 + q) = true := by
            rw [hlp, decide_eq_false hn1, decide_eq_false hn2, decide_eq_true (show sameI b i (i + 1 + q) ≠ 0 by omega)]; rfl
          have hrid : ridP b l = false := by
            rw [Bool.eq_false_iff]
            intro e
            rw [rid_iff.1 e i (i + 1 + q) (by omega) hq2] at hf
            cases hf
          rw [hrid]
          exact retQ_one rfl rfl
        · have hf : leftP b l i (i + 1 + q) = false := by
            rw [hlp, decide_eq_false (show ¬ sameI b i (i + 1 + q) ≠ 0 by omega), Bool.and_false]
          exact ⟨⟨q + 1, by omega, hstep hf⟩, by simp only; omega, by simp [Wk, wkT, wkL, look, AV.lo]⟩
        · have hm : ((i + 1 + q : Nat) : Int) ∈ l := Decidable.not_not.1 fun h => h8 (hi2b.2 h)
          have hf : leftP b l i (i + 1 + q) = false := by
            rw [hlp, decide_eq_true hm]
            simp
          exact ⟨⟨q + 1, by omega, hstep hf⟩, by simp only; omega, by simp [Wk, wkT, wkL, look, AV.lo]⟩
      · have hm : (i : Int) ∈ l := Decidable.not_not.1 fun h => h7 (hi1.2 h)
        have hf : leftP b l i (i + 1 + q) = false := by
          rw [hlp, decide_eq_true hm]
          simp
        exact ⟨⟨q + 1, by omega, hstep hf⟩, by simp only; omega, by simp [Wk, wkT, wkL, look, AV.lo]⟩
    · simp only [go_sem, wrap_succ (k := i) (by omega)]
      refine ⟨⟨i + 1, hi2, fun i' x h1 h2 h3 => ?_⟩, by simp only; omega, by simp [Wk, wkT, wkL, look, AV.lo]⟩
      by_cases e : i' = i
      · subst e; exact hok2 x h2 (by omega)
      · exact hok i' x (by omega) h2 h3
  · have hrid : ridP b l = true := rid_iff.2 fun i' q h1 h2 => hok i' q (by omega) h1 h2
    rw [hrid]
    exact retQ_one rfl rfl
theorem Drop_bad (k : SK) {b : DBook} (ho : ¬ okBook b) : Sem1 34 [.agg (bookC k b)] (.tup [pis [], pi 70]) :=
  (Drop_sem k b).mono fun _ e => e.trans (by rw [if_neg ho])
theorem Drop_ok (k : SK) {b : DBook} (ho : okBook b) : Sem1 34 [.agg (bookC k b)] (.tup [pis (dropI b), pi 0]) :=
  (Drop_sem k b).mono fun _ e => e.trans (by rw [if_pos ho])
theorem listI_grows (x : Int) (m : Nat) : growsI (listI x m) m := by
  refine ⟨listI_inc x m, fun y hy => ?_⟩
  unfold listI at hy
  obtain ⟨i, hi, rfl⟩ := List.mem_map.1 hy
  have := List.mem_range.1 (List.mem_filter.1 hi).1
  omega
set_option maxRecDepth 100000 in
theorem Drop_law (k : SK) (b : DBook) (n : Int) : Sem1 12 [.agg (bookC k b), pi n] (pb true) := by
  by_cases ho : okBook b
  rotate_left
  · refine semC_of_exec' mixed Try.func12 (by kernel_rfl) (by kernel_rfl) ac12_ok 2 rfl (by decide) [(.tmp 4)] (by kernel_rfl) ?_
    intro hr C hC hI
    unfold ac12
    simp only [go_sem, Nat.reduceBEq, Nat.reduceAdd]
    refine call_pure2 hC (Drop_bad k ho) rfl (PVleL_refl _) ?_
    rintro r rfl
    simp only [go_sem, Nat.reduceBEq, Nat.reduceAdd]
    refine call_pure2 hC (sound_sem k b) rfl (PVleL_refl _) ?_
    rintro r rfl
    simp only [go_sem, Nat.reduceBEq, Nat.reduceAdd, decide_true, List.length_nil, Int.natCast_zero]
    refine ⟨fun _ => ?_, fun h => absurd h ho⟩
    refine call_pure2 hC (pressed_sem) rfl (PVleL_refl _) ?_
    rintro r rfl
    simp only [go_sem, Nat.reduceBEq]
    exact retQ_one rfl rfl
  obtain ⟨h1, h8, hn⟩ := okR ho
  have h6 := ho.2.1
  obtain ⟨x, y, e, hce, hc⟩ := twoE_first ho fun i j => decide (sameI b i j ≠ 0)
  have hC1 := (Clash_sem k b).mono fun _ e => e.trans hce
  have hks := kinds_sem k ho
  have hkl : (kindsL b b.horses.length).length = b.horses.length := kindsL_len ..
  obtain ⟨g1, g2, g3⟩ := drop_facts b
  have hnil := drop_nil b
  have hD := Drop_ok k ho
  have hap := apart_sem ho (dropI b)
  rw [g2] at hap
  obtain ⟨d, hd⟩ : ∃ d, dropI b = d := ⟨_, rfl⟩
  rw [hd] at g1 g3 hnil hD hap
  have hee : decide ((d.length : Int) = 0) = decide (e = 4) := by
    refine decide_eq_decide.2 ⟨fun h => ?_, fun h => ?_⟩
    · have hd0 : d = [] := List.eq_nil_of_length_eq_zero (by omega)
      rcases hc.one with h4 | h0
      · exact h4
      · obtain ⟨i, q, -, -, h3, h4, h5, -⟩ := hc.some h0
        have := hnil.1 hd0 i q h3 h4
        simp at h5; omega
    · obtain ⟨-, -, h3⟩ := hc.none h
      rw [hnil.2 fun i q h4 h5 => by have := h3 i q h4 h5; simpa using this]
      rfl
  refine semC_of_exec' mixed Try.func12 (by kernel_rfl) (by kernel_rfl) ac12_ok 2 rfl (by decide) [(.tmp 4)] (by kernel_rfl) ?_
  intro hr C hC hI
  unfold ac12
  simp only [go_sem, Nat.reduceBEq, Nat.reduceAdd]
  refine call_pure2 hC (hD) rfl (PVleL_refl _) ?_
  rintro r rfl
  simp only [go_sem, Nat.reduceBEq, Nat.reduceAdd]
  refine call_pure2 hC (sound_sem k b) rfl (PVleL_refl _) ?_
  rintro r rfl
  simp only [go_sem, Nat.reduceBEq, Nat.reduceAdd, decide_false, Int.reduceEq]
  refine ⟨fun h => absurd ho h, fun _ => ?_⟩
  refine call_pure2 hC (hks) rfl (PVleL_refl _) ?_
  rintro r rfl
  simp only [go_sem, Nat.reduceBEq, Nat.reduceAdd]
  refine call_pure2 hC (hC1) rfl (PVleL_refl _) ?_
  rintro r rfl
  simp only [go_sem, Nat.reduceBEq, List.length_map, hkl, decide_false, not_true_eq_false]
  refine call_pure2 hC (Grows_sem d b.horses.length) rfl (PVleL_refl _) ?_
  rintro r ⟨t, rfl, ht⟩
  obtain rfl : t = true := ht.2 g1
  simp only [go_sem, Nat.reduceBEq, decide_false, not_true_eq_false, List.length_map, hee]
  refine call_pure2 hC (hap) rfl (PVleL_refl _) ?_
  rintro r rfl
  simp only [go_sem, Nat.reduceBEq, List.length_map, hkl, bin_shl (show ¬ (b.horses.length : Int) < 0 by omega)]
  refine call_pure2 hC (Round_sem ..) rfl (PVleL_refl _) ?_
  rintro r rfl
  simp only [go_sem, Nat.reduceBEq, List.length_map, hkl]
  refine call_pure2 hC (List_sem _ b.horses.length (by omega)) rfl (PVleL_refl _) ?_
  rintro r rfl
  simp only [go_sem, Nat.reduceBEq]
  refine call_pure2 hC (Shorter_sem ..) rfl (PVleL_refl _) ?_
  rintro r rfl
  simp only [go_sem, Nat.reduceBEq]
  obtain ⟨X, hX⟩ : ∃ X, rndI n (IntKind.i64.wrap (1 * 2 ^ min ((b.horses.length : Int)).toNat 64)) = X := ⟨_, rfl⟩
  rw [hX]
  have g4 := g3 (listI X b.horses.length) (listI_grows ..)
  have hap2 := apart_sem ho (listI X b.horses.length)
  cases hsh : shortB (listI X b.horses.length) d
  · simp only [go_sem, Nat.reduceBEq]
    refine call_pure2 hC (pressed_sem) rfl (PVleL_refl _) ?_
    rintro r rfl
    simp only [go_sem, Nat.reduceBEq]
    exact retQ_one rfl rfl
  · rw [g4 hsh] at hap2
    simp only [go_sem, Nat.reduceBEq]
    refine call_pure2 hC (hap2) rfl (PVleL_refl _) ?_
    rintro r rfl
    simp only [go_sem, Nat.reduceBEq]
    refine call_pure2 hC (pressed_sem) rfl (PVleL_refl _) ?_
    rintro r rfl
    simp only [go_sem, Nat.reduceBEq]
    exact retQ_one rfl rfl
set_option maxRecDepth 100000 in
theorem Drop_row {l0 l1 : List PV} (T0 : Ty Try.prog 10 24 l0) (T1 : Ty Try.prog 10 3 l1) : SemC Try.prog 12 [argPV Try.prog 24 l0, argPV Try.prog 3 l1] (fun r => r = pb true) := by
  obtain ⟨b, rfl⟩ := ty_book T0
  obtain ⟨n, rfl⟩ := tyInt uInt T1
  rw [argStruct Try.underlying24, argInt uInt]
  exact Drop_law .sh b n
end Go.Proofs.Ytlghbmancjjdjaa
namespace Go.Proofs.Ytlghbmancjjdjaa
open Go.RowKit
def ac14 : AC := (AC.seq (AC.ops [(AOp.mk (some 3) (AK.box 2 (AX.t 0)) none 0 false true), (AOp.mk (some 4) (AK.box 3 (AX.t 1)) none 1 false true), (AOp.mk (some 6) (AK.mv (AX.c (PV.val (Value.bool false)))) none 2 false true)]) (AC.seq (AC.seq (AC.ops [(AOp.mk (some 28) (AK.ld (some 2) (AX.t 3)) none 0 false true), (AOp.mk (some 29) (AK.call 38 [(AX.t 28)]) none 1 false true), (AOp.mk (some 30) (AK.un UnOp.not (AX.t 29)) none 2 false true)]) (AC.cond (AX.t 30) (AC.seq (AC.ops [(AOp.mk (some 31) (AK.call 25 []) none 0 false true), (AOp.mk (some 6) (AK.mv (AX.t 31)) none 1 false true)]) AC.ret) AC.skip)) (AC.seq (AC.ops [(AOp.mk (some 32) (AK.iadrA 1 3 (AX.t 4) (AX.c (PV.val (Value.int IntKind.i64 0)))) none 0 true false), (AOp.mk (some 33) (AK.ld none (AX.t 32)) none 1 true false), (AOp.mk (some 34) (AK.fadr 1 (AX.t 3)) none 2 true false), (AOp.mk (some 35) (AK.ld none (AX.t 34)) none 3 true false), (AOp.mk (some 36) (AK.len (AX.t 35)) none 4 true false), (AOp.mk (some 38) (AK.iadrA 1 3 (AX.t 4) (AX.c (PV.val (Value.int IntKind.i64 1)))) none 6 true false), (AOp.mk (some 39) (AK.ld none (AX.t 38)) none 7 true false), (AOp.mk (some 40) (AK.fadr 0 (AX.t 3)) none 8 true false), (AOp.mk (some 41) (AK.ld none (AX.t 40)) none 9 true false), (AOp.mk (some 37) (AK.call 46 [(AX.t 33), (AX.t 36)]) none 5 false false), (AOp.mk (some 42) (AK.call 46 [(AX.t 39), (AX.t 41)]) none 10 false true), (AOp.mk (some 7) (AK.mv (AX.t 37)) none 11 true true), (AOp.mk (some 8) (AK.mv (AX.t 42)) none 12 true true)]) (AC.seq (AC.tree (AT.op (AOp.mk (some 43) (AK.ld (some 2) (AX.t 3)) none 0 true false) (AT.op (AOp.mk (some 44) (AK.mv (AX.t 7)) none 1 true false) (AT.op (AOp.mk (some 45) (AK.mv (AX.t 8)) none 2 true false) (AT.op (AOp.mk (some 46) (AK.fadr 1 (AX.t 3)) none 3 true false) (AT.op (AOp.mk (some 47) (AK.ld none (AX.t 46)) none 4 true false) (AT.op (AOp.mk (some 48) (AK.mv (AX.t 7)) none 5 true false) (AT.op (AOp.mk (some 49) (AK.iadrS 1 (AX.t 47) (AX.t 48)) none 6 true false) (AT.op (AOp.mk (some 50) (AK.ld none (AX.t 49)) none 7 true false) (AT.op (AOp.mk (some 51) (AK.mv (AX.t 8)) none 8 true false) (AT.op (AOp.mk (some 52) (AK.iadrS 1 (AX.t 50) (AX.t 51)) none 9 true false) (AT.op (AOp.mk (some 53) (AK.ld none (AX.t 52)) none 10 true false) (AT.op (AOp.mk (some 55) (AK.iadrA 1 3 (AX.t 4) (AX.c (PV.val (Value.int IntKind.i64 2)))) none 12 true false) (AT.op (AOp.mk (some 56) (AK.ld none (AX.t 55)) none 13 true false) (AT.fk (AOp.mk (some 54) (AK.call 48 [(AX.t 53), (AX.c (PV.val (Value.int IntKind.i64 4)))]) none 11 false false) (AOp.mk (some 9) (AK.new (PV.agg [(PV.val (Value.int IntKind.i64 0)), (PV.sl SK.full 0 [])])) none 16 false false) (AT.fk (AOp.mk (some 57) (AK.call 56 [(AX.t 54), (AX.t 56)]) none 14 false false) (AOp.mk (some 9) (AK.new (PV.agg [(PV.val (Value.int IntKind.i64 0)), (PV.sl SK.full 0 [])])) none 16 false false) (AT.fk (AOp.mk (some 58) (AK.call 55 [(AX.t 43), (AX.t 44), (AX.t 45), (AX.t 57)]) none 15 false false) (AOp.mk (some 9) (AK.new (PV.agg [(PV.val (Value.int IntKind.i64 0)), (PV.sl SK.full 0 [])])) none 16 false false) (AT.op (AOp.mk (some 9) (AK.new (PV.agg [(PV.val (Value.int IntKind.i64 0)), (PV.sl SK.full 0 [])])) none 16 false false) (AT.op (AOp.mk none (AK.st 2 (AX.t 9) (AX.t 58)) none 17 false true) AT.fin)) (AT.op (AOp.mk (some 58) (AK.call 55 [(AX.t 43), (AX.t 44), (AX.t 45), (AX.t 57)]) none 15 false false) (AT.op (AOp.mk none (AK.st 2 (AX.t 9) (AX.t 58)) none 17 false true) AT.fin))) (AT.op (AOp.mk (some 57) (AK.call 56 [(AX.t 54), (AX.t 56)]) none 14 false false) (AT.op (AOp.mk (some 58) (AK.call 55 [(AX.t 43), (AX.t 44), (AX.t 45), (AX.t 57)]) none 15 false false) (AT.op (AOp.mk none (AK.st 2 (AX.t 9) (AX.t 58)) none 17 false true) AT.fin)))) (AT.op (AOp.mk (some 54) (AK.call 48 [(AX.t 53), (AX.c (PV.val (Value.int IntKind.i64 4)))]) none 11 false false) (AT.op (AOp.mk (some 57) (AK.call 56 [(AX.t 54), (AX.t 56)]) none 14 false false) (AT.op (AOp.mk (some 58) (AK.call 55 [(AX.t 43), (AX.t 44), (AX.t 45), (AX.t 57)]) none 15 false false) (AT.op (AOp.mk none (AK.st 2 (AX.t 9) (AX.t 58)) none 17 false true) AT.fin))))))))))))))))))) (AC.seq (AC.ops [(AOp.mk (some 59) (AK.ld (some 2) (AX.t 3)) none 0 true false), (AOp.mk (some 61) (AK.ld (some 2) (AX.t 9)) none 2 true false), (AOp.mk (some 60) (AK.call 47 [(AX.t 59)]) none 1 false false), (AOp.mk (some 62) (AK.call 47 [(AX.t 61)]) none 3 false true), (AOp.mk (some 10) (AK.mv (AX.t 60)) none 4 true true), (AOp.mk (some 11) (AK.mv (AX.t 62)) none 5 true true)]) (AC.seq (AC.seq (AC.ops [(AOp.mk (some 63) (AK.mv (AX.t 10)) none 0 false true), (AOp.mk (some 64) (AK.len (AX.t 63)) none 1 false true), (AOp.mk (some 65) (AK.fadr 1 (AX.t 3)) none 2 false true), (AOp.mk (some 66) (AK.ld none (AX.t 65)) none 3 false true), (AOp.mk (some 67) (AK.len (AX.t 66)) none 4 false true), (AOp.mk (some 68) (AK.bin false BinOp.neq (AX.t 64) (AX.t 67)) none 5 false true), (AOp.mk (some 69) (AK.mv (AX.t 68)) none 6 false true), (AOp.mk (some 70) (AK.mv (AX.t 11)) (some (69, false)) 7 false true), (AOp.mk (some 71) (AK.len (AX.t 70)) (some (69, false)) 8 false true), (AOp.mk (some 72) (AK.mv (AX.t 10)) (some (69, false)) 9 false true), (AOp.mk (some 73) (AK.len (AX.t 72)) (some (69, false)) 10 false true), (AOp.mk (some 74) (AK.bin false BinOp.neq (AX.t 71) (AX.t 73)) (some (69, false)) 11 false true), (AOp.mk (some 75) (AK.pick (AX.t 69) (AX.c (PV.val (Value.bool true))) (AX.t 74)) none 12 false true)]) (AC.cond (AX.t 75) (AC.seq (AC.ops [(AOp.mk (some 6) (AK.mv (AX.c (PV.val (Value.bool false)))) none 0 false true)]) AC.ret) AC.skip)) (AC.seq (AC.seq (AC.ops [(AOp.mk (some 12) (AK.mv (AX.c (PV.val (Value.int IntKind.i64 0)))) none 0 false true)]) (AC.block 0 (AC.loop (AC.seq (AC.seq (AC.ops [(AOp.mk (some 76) (AK.mv (AX.t 12)) none 0 false true), (AOp.mk (some 77) (AK.mv (AX.t 10)) none 1 false true), (AOp.mk (some 78) (AK.len (AX.t 77)) none 2 false true), (AOp.mk (some 79) (AK.bin false BinOp.lss (AX.t 76) (AX.t 78)) none 3 false true)]) (AC.cond (AX.t 79) AC.skip (AC.exit 0))) (AC.seq (AC.block 1 (AC.seq (AC.ops [(AOp.mk (some 13) (AK.mv (AX.c (PV.val (Value.int IntKind.i64 0)))) none 0 false true)]) (AC.block 2 (AC.loop (AC.seq (AC.seq (AC.ops [(AOp.mk (some 82) (AK.mv (AX.t 13)) none 0 false true), (AOp.mk (some 83) (AK.mv (AX.t 10)) none 1 false true), (AOp.mk (some 84) (AK.len (AX.t 83)) none 2 false true), (AOp.mk (some 85) (AK.bin false BinOp.lss (AX.t 82) (AX.t 84)) none 3 false true)]) (AC.cond (AX.t 85) AC.skip (AC.exit 2))) (AC.seq (AC.block 3 (AC.seq (AC.ops [(AOp.mk (some 88) (AK.mv (AX.t 10)) none 0 false true), (AOp.mk (some 89) (AK.mv (AX.t 12)) none 1 false true), (AOp.mk (some 90) (AK.iadrS 1 (AX.t 88) (AX.t 89)) none 2 false true), (AOp.mk (some 91) (AK.ld none (AX.t 90)) none 3 false true), (AOp.mk (some 92) (AK.mv (AX.t 13)) none 4 false true), (AOp.mk (some 93) (AK.iadrS 1 (AX.t 91) (AX.t 92)) none 5 false true), (AOp.mk (some 94) (AK.ld none (AX.t 93)) none 6 false true), (AOp.mk (some 95) (AK.bin false BinOp.eql (AX.t 94) (AX.c (PV.val (Value.int IntKind.i64 0)))) none 7 false true), (AOp.mk (some 96) (AK.mv (AX.t 95)) none 8 false true), (AOp.mk (some 97) (AK.mv (AX.t 11)) (some (96, true)) 9 false true), (AOp.mk (some 98) (AK.mv (AX.t 12)) (some (96, true)) 10 false true), (AOp.mk (some 99) (AK.iadrS 1 (AX.t 97) (AX.t 98)) (some (96, true)) 11 false true), (AOp.mk (some 100) (AK.ld none (AX.t 99)) (some (96, true)) 12 false true), (AOp.mk (some 101) (AK.mv (AX.t 13)) (some (96, true)) 13 false true), (AOp.mk (some 102) (AK.iadrS 1 (AX.t 100) (AX.t 101)) (some (96, true)) 14 false true), (AOp.mk (some 103) (AK.ld none (AX.t 102)) (some (96, true)) 15 false true), (AOp.mk (some 104) (AK.bin false BinOp.gtr (AX.t 103) (AX.c (PV.val (Value.int IntKind.i64 0)))) (some (96, true)) 16 false true), (AOp.mk (some 105) (AK.pick (AX.t 96) (AX.t 104) (AX.c (PV.val (Value.bool false)))) none 17 false true), (AOp.mk (some 106) (AK.mv (AX.t 105)) none 18 false true), (AOp.mk (some 107) (AK.mv (AX.t 10)) (some (106, false)) 19 false true), (AOp.mk (some 108) (AK.mv (AX.t 12)) (some (106, false)) 20 false true), (AOp.mk (some 109) (AK.iadrS 1 (AX.t 107) (AX.t 108)) (some (106, false)) 21 false true), (AOp.mk (some 110) (AK.ld none (AX.t 109)) (some (106, false)) 22 false true), (AOp.mk (some 111) (AK.mv (AX.t 13)) (some (106, false)) 23 false true), (AOp.mk (some 112) (AK.iadrS 1 (AX.t 110) (AX.t 111)) (some (106, false)) 24 false true), (AOp.mk (some 113) (AK.ld none (AX.t 112)) (some (106, false)) 25 false true), (AOp.mk (some 114) (AK.bin false BinOp.eql (AX.t 113) (AX.c (PV.val (Value.int IntKind.i64 2)))) (some (106, false)) 26 false true), (AOp.mk (some 115) (AK.mv (AX.t 114)) (some (106, false)) 27 false true), (AOp.mk (some 116) (AK.mv (AX.t 11)) (some (115, true)) 28 false true), (AOp.mk (some 117) (AK.mv (AX.t 12)) (some (115, true)) 29 false true), (AOp.mk (some 118) (AK.iadrS 1 (AX.t 116) (AX.t 117)) (some (115, true)) 30 false true), (AOp.mk (some 119) (AK.ld none (AX.t 118)) (some (115, true)) 31 false true), (AOp.mk (some 120) (AK.mv (AX.t 13)) (some (115, true)) 32 false true), (AOp.mk (some 121) (AK.iadrS 1 (AX.t 119) (AX.t 120)) (some (115, true)) 33 false true), (AOp.mk (some 122) (AK.ld none (AX.t 121)) (some (115, true)) 34 false true), (AOp.mk (some 123) (AK.bin false BinOp.neq (AX.t 122) (AX.c (PV.val (Value.int IntKind.i64 2)))) (some (115, true)) 35 false true), (AOp.mk (some 124) (AK.pick (AX.t 115) (AX.t 123) (AX.c (PV.val (Value.bool false)))) (some (106, false)) 36 false true), (AOp.mk (some 125) (AK.pick (AX.t 106) (AX.c (PV.val (Value.bool true))) (AX.t 124)) none 37 false true)]) (AC.cond (AX.t 125) (AC.seq (AC.ops [(AOp.mk (some 6) (AK.mv (AX.c (PV.val (Value.bool false)))) none 0 false true)]) AC.ret) AC.skip))) (AC.ops [(AOp.mk (some 86) (AK.mv (AX.t 13)) none 0 false true), (AOp.mk (some 87) (AK.bin false BinOp.add (AX.t 86) (AX.c (PV.val (Value.int IntKind.i64 1)))) none 1 false true), (AOp.mk (some 13) (AK.mv (AX.t 87)) none 2 false true)]))))))) (AC.ops [(AOp.mk (some 80) (AK.mv (AX.t 12)) none 0 false true), (AOp.mk (some 81) (AK.bin false BinOp.add (AX.t 80) (AX.c (PV.val (Value.int IntKind.i64 1)))) none 1 false true), (AOp.mk (some 12) (AK.mv (AX.t 81)) none 2 false true)])))))) (AC.seq (AC.ops [(AOp.mk (some 126) (AK.fadr 0 (AX.t 3)) none 0 false true), (AOp.mk (some 127) (AK.ld none (AX.t 126)) none 1 false true), (AOp.mk (some 128) (AK.mv (AX.t 2)) none 2 false true), (AOp.mk (some 129) (AK.call 49 [(AX.t 127), (AX.t 128)]) none 3 false true), (AOp.mk (some 14) (AK.mv (AX.t 129)) none 4 false true)]) (AC.seq (AC.ops [(AOp.mk (some 131) (AK.ld (some 2) (AX.t 3)) none 0 false true), (AOp.mk (some 132) (AK.mv (AX.t 14)) none 1 false true), (AOp.mk (some 133) (AK.call 26 [(AX.t 131), (AX.t 132)]) none 2 false true), (AOp.mk (some 130) (AK.mv (AX.t 133)) none 3 false true), (AOp.mk (some 134) (AK.ext (AX.t 130) 0) none 4 false true), (AOp.mk (some 135) (AK.ext (AX.t 130) 1) none 5 false true), (AOp.mk (some 15) (AK.mv (AX.t 134)) none 6 false true), (AOp.mk (some 16) (AK.mv (AX.t 135)) none 7 false true)]) (AC.seq (AC.ops [(AOp.mk (some 137) (AK.ld (some 2) (AX.t 9)) none 0 false true), (AOp.mk (some 138) (AK.mv (AX.t 14)) none 1 false true), (AOp.mk (some 139) (AK.call 26 [(AX.t 137), (AX.t 138)]) none 2 false true), (AOp.mk (some 136) (AK.mv (AX.t 139)) none 3 false true), (AOp.mk (some 140) (AK.ext (AX.t 136) 0) none 4 false true), (AOp.mk (some 141) (AK.ext (AX.t 136) 1) none 5 false true), (AOp.mk (some 17) (AK.mv (AX.t 140)) none 6 false true), (AOp.mk (some 18) (AK.mv (AX.t 141)) none 7 false true)]) (AC.seq (AC.seq (AC.ops [(AOp.mk (some 142) (AK.mv (AX.t 16)) none 0 false true), (AOp.mk (some 143) (AK.bin false BinOp.neq (AX.t 142) (AX.c (PV.val (Value.int IntKind.i64 0)))) none 1 false true), (AOp.mk (some 144) (AK.mv (AX.t 143)) none 2 false true), (AOp.mk (some 145) (AK.mv (AX.t 18)) (some (144, false)) 3 false true), (AOp.mk (some 146) (AK.bin false BinOp.neq (AX.t 145) (AX.c (PV.val (Value.int IntKind.i64 0)))) (some (144, false)) 4 false true), (AOp.mk (some 147) (AK.pick (AX.t 144) (AX.c (PV.val (Value.bool true))) (AX.t 146)) none 5 false true)]) (AC.cond (AX.t 147) (AC.seq (AC.ops [(AOp.mk (some 6) (AK.mv (AX.c (PV.val (Value.bool false)))) none 0 false true)]) AC.ret) AC.skip)) (AC.seq (AC.seq (AC.ops [(AOp.mk (some 19) (AK.mv (AX.c (PV.val (Value.int IntKind.i64 0)))) none 0 false true)]) (AC.block 4 (AC.loop (AC.seq (AC.seq (AC.ops [(AOp.mk (some 148) (AK.mv (AX.t 19)) none 0 false true), (AOp.mk (some 149) (AK.mv (AX.t 17)) none 1 false true), (AOp.mk (some 150) (AK.len (AX.t 149)) none 2 false true), (AOp.mk (some 151) (AK.bin false BinOp.lss (AX.t 148) (AX.t 150)) none 3 false true)]) (AC.cond (AX.t 151) AC.skip (AC.exit 4))) (AC.seq (AC.block 5 (AC.seq (AC.ops [(AOp.mk (some 154) (AK.mv (AX.t 15)) none 0 false true), (AOp.mk (some 155) (AK.mv (AX.t 17)) none 1 false true), (AOp.mk (some 156) (AK.mv (AX.t 19)) none 2 false true), (AOp.mk (some 157) (AK.iadrS 1 (AX.t 155) (AX.t 156)) none 3 false true), (AOp.mk (some 158) (AK.ld none (AX.t 157)) none 4 false true), (AOp.mk (some 159) (AK.call 42 [(AX.t 154), (AX.t 158)]) none 5 false true), (AOp.mk (some 160) (AK.bin false BinOp.lss (AX.t 159) (AX.c (PV.val (Value.int IntKind.i64 0)))) none 6 false true)]) (AC.cond (AX.t 160) (AC.seq (AC.ops [(AOp.mk (some 6) (AK.mv (AX.c (PV.val (Value.bool false)))) none 0 false true)]) AC.ret) AC.skip))) (AC.ops [(AOp.mk (some 152) (AK.mv (AX.t 19)) none 0 false true), (AOp.mk (some 153) (AK.bin false BinOp.add (AX.t 152) (AX.c (PV.val (Value.int IntKind.i64 1)))) none 1 false true), (AOp.mk (some 19) (AK.mv (AX.t 153)) none 2 false true)])))))) (AC.seq (AC.ops [(AOp.mk (some 162) (AK.ld (some 2) (AX.t 3)) none 0 false true), (AOp.mk (some 163) (AK.call 28 [(AX.t 162)]) none 1 false true), (AOp.mk (some 161) (AK.mv (AX.t 163)) none 2 false true), (AOp.mk (some 164) (AK.ext (AX.t 161) 0) none 3 false true), (AOp.mk (some 165) (AK.ext (AX.t 161) 1) none 4 false true), (AOp.mk (some 20) (AK.mv (AX.t 164)) none 5 false true), (AOp.mk (some 21) (AK.mv (AX.t 165)) none 6 false true)]) (AC.seq (AC.ops [(AOp.mk (some 167) (AK.ld (some 2) (AX.t 9)) none 0 false true), (AOp.mk (some 168) (AK.call 28 [(AX.t 167)]) none 1 false true), (AOp.mk (some 166) (AK.mv (AX.t 168)) none 2 false true), (AOp.mk (some 169) (AK.ext (AX.t 166) 0) none 3 false true), (AOp.mk (some 170) (AK.ext (AX.t 166) 1) none 4 false true), (AOp.mk (some 22) (AK.mv (AX.t 169)) none 5 false true), (AOp.mk (some 23) (AK.mv (AX.t 170)) none 6 false true)]) (AC.seq (AC.ops [(AOp.mk (some 172) (AK.ld (some 2) (AX.t 3)) none 0 false true), (AOp.mk (some 173) (AK.call 34 [(AX.t 172)]) none 1 false true), (AOp.mk (some 171) (AK.mv (AX.t 173)) none 2 false true), (AOp.mk (some 174) (AK.ext (AX.t 171) 0) none 3 false true), (AOp.mk (some 175) (AK.ext (AX.t 171) 1) none 4 false true), (AOp.mk (some 24) (AK.mv (AX.t 174)) none 5 false true), (AOp.mk (some 25) (AK.mv (AX.t 175)) none 6 false true)]) (AC.seq (AC.ops [(AOp.mk (some 177) (AK.ld (some 2) (AX.t 9)) none 0 false true), (AOp.mk (some 178) (AK.call 34 [(AX.t 177)]) none 1 false true), (AOp.mk (some 176) (AK.mv (AX.t 178)) none 2 false true), (AOp.mk (some 179) (AK.ext (AX.t 176) 0) none 3 false true), (AOp.mk (some 180) (AK.ext (AX.t 176) 1) none 4 false true), (AOp.mk (some 26) (AK.mv (AX.t 179)) none 5 false true), (AOp.mk (some 27) (AK.mv (AX.t 180)) none 6 false true)]) (AC.seq (AC.ops [(AOp.mk (some 181) (AK.mv (AX.t 21)) none 0 false true), (AOp.mk (some 182) (AK.bin false BinOp.neq (AX.t 181) (AX.c (PV.val (Value.int IntKind.i64 0)))) none 1 false true), (AOp.mk (some 183) (AK.mv (AX.t 182)) none 2 false true), (AOp.mk (some 184) (AK.mv (AX.t 23)) (some (183, false)) 3 false true), (AOp.mk (some 185) (AK.bin false BinOp.eql (AX.t 184) (AX.c (PV.val (Value.int IntKind.i64 0)))) (some (183, false)) 4 false true), (AOp.mk (some 186) (AK.mv (AX.t 185)) (some (183, false)) 5 false true), (AOp.mk (some 187) (AK.mv (AX.t 20)) (some (186, true)) 6 false true), (AOp.mk (some 188) (AK.mv (AX.t 22)) (some (186, true)) 7 false true), (AOp.mk (some 189) (AK.call 51 [(AX.t 187), (AX.t 188)]) (some (186, true)) 8 false true), (AOp.mk (some 190) (AK.un UnOp.not (AX.t 189)) (some (186, true)) 9 false true), (AOp.mk (some 191) (AK.pick (AX.t 186) (AX.t 190) (AX.c (PV.val (Value.bool false)))) (some (183, false)) 10 false true), (AOp.mk (some 192) (AK.pick (AX.t 183) (AX.c (PV.val (Value.bool true))) (AX.t 191)) none 11 false true), (AOp.mk (some 193) (AK.mv (AX.t 192)) none 12 false true), (AOp.mk (some 194) (AK.mv (AX.t 25)) (some (193, true)) 13 false true), (AOp.mk (some 195) (AK.bin false BinOp.eql (AX.t 194) (AX.c (PV.val (Value.int IntKind.i64 0)))) (some (193, true)) 14 false true), (AOp.mk (some 196) (AK.pick (AX.t 193) (AX.t 195) (AX.c (PV.val (Value.bool false)))) none 15 false true), (AOp.mk (some 197) (AK.mv (AX.t 196)) none 16 false true), (AOp.mk (some 198) (AK.mv (AX.t 27)) (some (197, true)) 17 false true), (AOp.mk (some 199) (AK.bin false BinOp.eql (AX.t 198) (AX.c (PV.val (Value.int IntKind.i64 0)))) (some (197, true)) 18 false true), (AOp.mk (some 200) (AK.pick (AX.t 197) (AX.t 199) (AX.c (PV.val (Value.bool false)))) none 19 false true), (AOp.mk (some 201) (AK.mv (AX.t 200)) none 20 false true), (AOp.mk (some 202) (AK.mv (AX.t 26)) (some (201, true)) 21 false true), (AOp.mk (some 203) (AK.len (AX.t 202)) (some (201, true)) 22 false true), (AOp.mk (some 204) (AK.mv (AX.t 24)) (some (201, true)) 23 false true), (AOp.mk (some 205) (AK.len (AX.t 204)) (some (201, true)) 24 false true), (AOp.mk (some 206) (AK.bin false BinOp.leq (AX.t 203) (AX.t 205)) (some (201, true)) 25 false true), (AOp.mk (some 207) (AK.pick (AX.t 201) (AX.t 206) (AX.c (PV.val (Value.bool false)))) none 26 false true), (AOp.mk (some 208) (AK.mv (AX.t 207)) none 27 false true), (AOp.mk (some 209) (AK.call 25 []) (some (208, true)) 28 false true), (AOp.mk (some 210) (AK.pick (AX.t 208) (AX.t 209) (AX.c (PV.val (Value.bool false)))) none 29 false true), (AOp.mk (some 6) (AK.mv (AX.t 210)) none 30 false true)]) AC.ret)))))))))))))))))
theorem ac14_ok : cCode Try.prog (fun _ => false) Try.f14.ntmps (Try.f14.body.getD .skip) = some ac14 := by kernel_rfl
section
variable {C : Con} {rd : List Nat} {d : Option Nat} {i : Nat} {tk lst : Bool} {s : AS} {K : List Nat → AS → Prop}
theorem gs_newA {cs : List PV} : gstep C rd ⟨d, .new (.agg cs), none, i, tk, lst⟩ s K = K (bif lst then [] else rd) ((mkOwn s (cs.map .p)).put d (.loc s.loc.length 0)) := by
  rw [gs_eff rfl]; rfl
def stGB (lst : Bool) (id off n : Nat) (k : Option ABlk) (c : List AV) (rd : List Nat) (d : Option Nat) (s : AS) (K : AS → Prop) : Prop :=
  match k with
  | some (.cells cs) => (lst = true ∨ id ∉ rd) ∧ off + n ≤ cs.length ∧ K (({ s with loc := s.loc.set id (.cells (putCells cs off c)) } : AS).put d (.p .und))
  | _ => False
def stG (v : AV) (u : Option (List AV)) (lst : Bool) (n : Nat) (rd : List Nat) (d : Option Nat) (s : AS) (K : AS → Prop) : Prop :=
  match v, u with
  | .loc id off, some c => stGB lst id off n s.loc[id]? c rd d s K
  | _, _ => False
theorem gs_stA {n : Nat} {a x : AX} : gstep C rd ⟨d, .st n a x, none, i, tk, lst⟩ s K = stG (a.ev s) (cellsA n (x.ev s)) lst n (bif lst then [] else rd) d s (K (bif lst then [] else rd)) := by
  rw [gs_eff rfl]
  simp only [effQ, stG, stGB]
  cases a.ev s with
  | loc id off =>
    cases cellsA n (x.ev s) with
    | none => rfl
    | some v =>
      simp only
      cases s.loc[id]? with
      | none => rfl
      | some k => cases k <;> rfl
  | _ => rfl
theorem stG_loc {id off n : Nat} {c : List AV} {K : AS → Prop} : stG (.loc id off) (some c) lst n rd d s K = stGB lst id off n s.loc[id]? c rd d s K := rfl
theorem stGB_cells {id off n : Nat} {cs c : List AV} {K : AS → Prop} : stGB lst id off n (some (.cells cs)) c rd d s K = ((lst = true ∨ id ∉ rd) ∧ off + n ≤ cs.length ∧ K (({ s with loc := s.loc.set id (.cells (putCells cs off c)) } : AS).put d (.p .und))) := rfl
end
theorem newX (b : DBook) : ∃ l e, newR b = .tup [pis l, pi e] := by
  unfold newR
  split
  · split
    · exact ⟨_, _, rfl⟩
    · exact ⟨_, _, rfl⟩
  · exact ⟨_, _, rfl⟩
theorem kind_any {b : DBook} {i q : Nat} (hq : q < b.horses.length) : iadrS' 1 (.p (pis (kindR b i b.horses.length))) (.p (pi q)) = some (.p (.ptr [pi (kindJ b i q)] 0)) := by
  have hl : q < (kindR b i b.horses.length).length := by rw [kindR_len]; exact hq
  rw [iadr_pis hl]
  simp [kindR]
set_option maxRecDepth 100000 in
set_option maxHeartbeats 16000000 in
theorem More_law (k : SK) (b : DBook) (n1 n2 n3 : Int) (bits : List Int) : Sem1 14 [.agg (bookC k b), .agg [pi n1, pi n2, pi n3], pis bits] (pb true) := by
  refine semC_of_exec' mixed Try.func14 (by kernel_rfl) (by kernel_rfl) ac14_ok 3 rfl (by decide) [(.tmp 6)] (by kernel_rfl) ?_
  intro hr C hC hI
  unfold ac14
  simp only [go_sem, Nat.reduceBEq, Nat.reduceAdd]
  refine call_pure2 hC (sound_sem k b) rfl (PVleL_refl _) ?_
  rintro r rfl
  simp only [go_sem, Nat.reduceBEq, List.length_map]
  refine ⟨fun ho => ?_, fun ho => ?_⟩
  · refine call_pure2 hC (pressed_sem) rfl (PVleL_refl _) ?_
    rintro r rfl
    simp only [go_sem, Nat.reduceBEq]
    exact retQ_one rfl rfl
  obtain ⟨h1, h8, hn⟩ := okR ho
  have h6 := ho.2.1
  obtain ⟨h, eh, hh⟩ : ∃ h : Nat, rndI n1 b.horses.length = h ∧ h < b.horses.length := by
    have := rndI_range (n := n1) (m := b.horses.length) (by omega)
    exact ⟨(rndI n1 b.horses.length).toNat, by omega, by omega⟩
  obtain ⟨p, ep, hp⟩ := rnd_turn ho n2
  obtain ⟨s, es, hs, hin⟩ := take_known ho hh hp n3
  have ehh := iadr_map (f := fun h => [pis h]) (kd := k) (sz := 1) hh
  obtain ⟨hl1, hv1⟩ := hs_get ho hh hp
  refine call_pure2 hC (Round_sem n1 b.horses.length) rfl (PVleL_refl _) ?_
  rintro r rfl
  simp only [go_sem, Nat.reduceBEq, eh]
  refine call_pure2 hC (Round_sem n2 b.round) rfl (PVleL_refl _) ?_
  rintro r rfl
  simp only [go_sem, Nat.reduceBEq, Nat.reduceAdd, ep, ehh, iadr_pis hl1, hv1]
  have hx := knowB_ok ho h p hs
  have hxl := know_len b h p s
  have hkl : (kindsL b b.horses.length).length = b.horses.length := kindsL_len ..
  have hkx : (kindsL (knowB b h p s) (knowB b h p s).horses.length).length = b.horses.length := by rw [kindsL_len, hxl]
  have hks := kinds_sem k ho
  have hw := Whose_ok k ho (sizesJ_mem (nR b) bits)
  have hwx := Whose_ok .sh hx (r := sizesJ (nR b) bits) (sizesJ_mem (nR b) bits)
  have hsz : Sem1 49 [pi b.round, pis bits] (pis (sizesJ (nR b) bits)) := by
    rw [hn]
    exact sizes2_sem (nR b) (by omega) bits
  have hsub : ∀ y ∈ natL (whoseI (knowB b h p s) (knownN (sizesJ (nR b) bits))), y ∈ natL (whoseI b (knownN (sizesJ (nR b) bits))) := fun y hy => by
    obtain ⟨i, hi, rfl⟩ := List.mem_map.1 hy
    exact mem_natL.2 (know_whose ho hh hp hs hin (sizesJ_mem (nR b) bits) hi)
  have hwl : (natL (whoseI (knowB b h p s) (knownN (sizesJ (nR b) bits)))).length ≤ 6 := by
    have := filt_len (whoseP (knowB b h p s) (knownN (sizesJ (nR b) bits))) (knowB b h p s).horses.length
    unfold whoseI
    omega
  have hD := Drop_ok k ho
  have hDx := Drop_ok .sh hx
  have hdl : ((dropI (knowB b h p s)).length : Int) ≤ (dropI b).length := by
    have := know_drop ho hh hp hs hin
    omega
  obtain ⟨fr, g, so, g', hN, hNx, hg⟩ : ∃ (fr : List Int) (g : Int) (so : List Int) (g' : Int), Sem1 28 [.agg (bookC k b)] (.tup [pis fr, pi g]) ∧ Sem1 28 [.agg (bookC .sh (knowB b h p s))] (.tup [pis so, pi g']) ∧ (g = 4 ∨ (g = 0 ∧ g' = 0 ∧ fr.length = so.length ∧ lexB fr so = false)) := by
    obtain ⟨so, g', hso⟩ := newX (knowB b h p s)
    have hNx := New_sem .sh (knowB b h p s)
    cases hf : freeL b with
    | nil =>
      rw [hso] at hNx
      exact ⟨_, _, _, _, New_none k ho hf, hNx, .inl rfl⟩
    | cons z zs =>
      obtain ⟨y, ys, hy, hlt⟩ := know_new ho hh hp hs hin hf
      have e1 := (mem_sufs.1 (free_first ho hf).1).1
      have e2 := (mem_sufs.1 (free_first hx hy).1).1
      exact ⟨_, _, _, _, New_some k ho hf, New_some .sh hx hy, .inr ⟨rfl, rfl, e1.trans e2.symm, hlt⟩⟩
  have hkr : ∀ (c : DBook), okBook c → ∀ i j, 0 ≤ kindJ c i j ∧ kindJ c i j ≤ 2 := fun c hc i j => by
    unfold kindJ
    split
    · omega
    · exact same_range hc i j
  have hkind : ∀ i j, i < b.horses.length → j < b.horses.length → (kindJ b i j = 0 → kindJ (knowB b h p s) i j = 0) ∧ (kindJ b i j = 2 → kindJ (knowB b h p s) i j = 2) := fun i j hi hj => by
    unfold kindJ
    split
    · exact ⟨fun _ => rfl, fun e => e⟩
    · exact ⟨know_zero ho hh hp hs hin hi hj, know_two ho hh hp hs hin hi hj⟩
  have hksx := kinds_sem .sh hx
  refine ⟨?_, ?_⟩
  refine call_pure2 hC (List_sem (hsI b h p) 4 (by omega)) rfl (PVleL_refl _) ?_
  rintro r rfl
  simp only [go_sem, Nat.reduceBEq, Nat.reduceAdd, gs_newA, gs_stA, List.map_cons, List.map_nil]
  refine ⟨?_, ?_⟩
  refine call_pure2 hC (Take_sem (listI (hsI b h p) 4) n3) rfl (PVleL_refl _) ?_
  rintro r rfl
  simp only [go_sem, Nat.reduceBEq, Nat.reduceAdd, es]
  refine ⟨?_, ?_⟩
  refine call_pure2 hC (known2_sem k ho hh hp hs) rfl (PVleL_refl _) ?_
  rintro r rfl
  simp only [go_sem, Nat.reduceBEq, Nat.reduceAdd, stG_loc, stGB_cells, putCells, List.map_cons, List.map_nil, true_or, true_and]
  rotate_left
  refine call_pure2 hC (known2_sem k ho hh hp hs) rfl (PVleL_refl _) ?_
  rintro r rfl
  simp only [go_sem, Nat.reduceBEq, Nat.reduceAdd, stG_loc, stGB_cells, putCells, List.map_cons, List.map_nil, true_or, true_and]
  rotate_left
  refine call_pure2 hC (Take_sem (listI (hsI b h p) 4) n3) rfl (PVleL_refl _) ?_
  rintro r rfl
  simp only [go_sem, Nat.reduceBEq, es]
  refine call_pure2 hC (known2_sem k ho hh hp hs) rfl (PVleL_refl _) ?_
  rintro r rfl
  simp only [go_sem, Nat.reduceBEq, Nat.reduceAdd, stG_loc, stGB_cells, putCells, List.map_cons, List.map_nil, true_or, true_and]
  rotate_left
  simp only [go_sem, Nat.reduceBEq, Nat.reduceAdd, gs_newA, gs_stA, List.map_cons, List.map_nil]
  refine call_pure2 hC (List_sem (hsI b h p) 4 (by omega)) rfl (PVleL_refl _) ?_
  rintro r rfl
  simp only [go_sem, Nat.reduceBEq]
  refine call_pure2 hC (Take_sem (listI (hsI b h p) 4) n3) rfl (PVleL_refl _) ?_
  rintro r rfl
  simp only [go_sem, Nat.reduceBEq, es]
  refine call_pure2 hC (known2_sem k ho hh hp hs) rfl (PVleL_refl _) ?_
  rintro r rfl
  simp only [go_sem, Nat.reduceBEq, Nat.reduceAdd, stG_loc, stGB_cells, putCells, List.map_cons, List.map_nil, true_or, true_and]
  all_goals (
    refine call_pure2 hC (hks) rfl (PVleL_refl _) ?_
    rintro r rfl
    simp only [go_sem, Nat.reduceBEq]
    refine call_pure2 hC (hksx) rfl (PVleL_refl _) ?_
    rintro r rfl
    simp only [go_sem, Nat.reduceBEq, List.length_map, hkl, hkx, decide_false, not_true_eq_false]
    refine loop_k b.horses.length (fun _ => True) [2, 3, 9, 10, 11] (fun i => [(12, .p (pi i))]) trivial rfl ⟨rfl, by simp, by simp⟩ (by simp [wkT, look, AV.lo]) ?_
    rintro i ⟨hi, -⟩
    simp only [go_sem, Nat.reduceBEq, List.length_map, hkl]
    refine ⟨fun h5 => ?_, fun h5 => ?_⟩
    · have hi2 : i < b.horses.length := by omega
      refine loop_k b.horses.length (fun _ => True) [2, 3, 9, 10, 11, 12] (fun j => [(13, .p (pi j))]) trivial rfl ⟨rfl, by simp, by simp⟩ (by simp [wkT, look, AV.lo]) ?_
      rintro j ⟨hj, -⟩
      simp only [go_sem, Nat.reduceBEq, List.length_map, hkl]
      refine ⟨fun h7 => ?_, fun h7 => ?_⟩
      · have hj2 : j < b.horses.length := by omega
        obtain ⟨hz, ht⟩ := hkind i j hi2 hj2
        have hr1 := hkr b ho i j
        have hr2 := hkr (knowB b h p s) hx i j
        simp only [go_sem, Nat.reduceBEq, kinds_at hi2, kind_any hj2, kinds_at (b := knowB b h p s) (show i < (knowB b h p s).horses.length by omega), kind_any (b := knowB b h p s) (show j < (knowB b h p s).horses.length by omega), wrap_succ (k := j) (by omega)]
        repeat' (first | (exfalso; omega) | (guard_target =~ _ ∧ _; refine ⟨fun _ => ?_, fun _ => ?_⟩))
        all_goals exact ⟨⟨j + 1, hj2, trivial⟩, by simp only; omega, by simp [Wk, wkT, wkL, look, AV.lo, AV.lo.loL, ABlk.toZ]⟩
      · simp only [go_sem, wrap_succ (k := i) (by omega)]
        exact ⟨⟨i + 1, hi2, trivial⟩, by simp only; omega, by simp [Wk, wkT, wkL, look, AV.lo, AV.lo.loL, ABlk.toZ]⟩
    · refine call_pure2 hC (hsz) rfl (PVleL_refl _) ?_
      rintro r rfl
      simp only [go_sem, Nat.reduceBEq, Nat.reduceAdd]
      refine call_pure2 hC (hw) rfl (PVleL_refl _) ?_
      rintro r rfl
      simp only [go_sem, Nat.reduceBEq, Nat.reduceAdd]
      refine call_pure2 hC (hwx) rfl (PVleL_refl _) ?_
      rintro r rfl
      simp only [go_sem, Nat.reduceBEq, decide_false, not_true_eq_false]
      refine loop_k (natL (whoseI (knowB b h p s) (knownN (sizesJ (nR b) bits)))).length (fun _ => True) [3, 9, 15, 17] (fun j => [(19, .p (pi j))]) trivial rfl ⟨rfl, by simp, by simp⟩ (by simp [wkT, look, AV.lo]) ?_
      rintro j ⟨hj, -⟩
      simp only [go_sem, Nat.reduceBEq, Nat.reduceAdd, List.length_map]
      refine ⟨fun h7 => ?_, fun h7 => ?_⟩
      · have hj2 : j < (natL (whoseI (knowB b h p s) (knownN (sizesJ (nR b) bits)))).length := by omega
        have hmem := hsub _ (List.getElem_mem hj2)
        simp only [go_sem, Nat.reduceBEq, iadr_pis hj2]
        refine call_pure2 hC (Find_sem (natL (whoseI b (knownN (sizesJ (nR b) bits)))) (natL (whoseI (knowB b h p s) (knownN (sizesJ (nR b) bits))))[j]) rfl (PVleL_refl _) ?_
        rintro r ⟨i1, rfl, hi1⟩
        have hi1n : (i1 < 0) = False := eq_false fun h => hi1.1 h hmem
        simp only [go_sem, Nat.reduceBEq, hi1n, decide_false, wrap_succ (k := j) (by omega)]
        exact ⟨⟨j + 1, hj2, trivial⟩, by simp only; omega, by simp [Wk, wkT, wkL, look, AV.lo, AV.lo.loL, ABlk.toZ]⟩
      · refine call_pure2 hC (hN) rfl (PVleL_refl _) ?_
        rintro r rfl
        simp only [go_sem, Nat.reduceBEq, Nat.reduceAdd]
        refine call_pure2 hC (hNx) rfl (PVleL_refl _) ?_
        rintro r rfl
        simp only [go_sem, Nat.reduceBEq, Nat.reduceAdd]
        refine call_pure2 hC (hD) rfl (PVleL_refl _) ?_
        rintro r rfl
        simp only [go_sem, Nat.reduceBEq, Nat.reduceAdd]
        refine call_pure2 hC (hDx) rfl (PVleL_refl _) ?_
        rintro r rfl
        simp only [go_sem, Nat.reduceBEq, List.length_map]
        rcases hg with rfl | ⟨rfl, rfl, hlen, hlt⟩
        · simp only [go_sem, decide_true, not_true_eq_false, not_false_eq_true, false_implies, true_implies, Int.reduceEq, eq_true hdl, Int.reduceEq]
          refine call_pure2 hC (pressed_sem) rfl (PVleL_refl _) ?_
          rintro r rfl
          simp only [go_sem, Nat.reduceBEq]
          exact retQ_one rfl rfl
        · simp only [go_sem, decide_true, decide_false, not_true_eq_false, false_implies, true_implies]
          refine call_pure2 hC (Less_sem fr so hlen) rfl (PVleL_refl _) ?_
          rintro r rfl
          simp only [go_sem, Nat.reduceBEq, hlt, decide_true, List.length_map, eq_true hdl]
          refine call_pure2 hC (pressed_sem) rfl (PVleL_refl _) ?_
          rintro r rfl
          simp only [go_sem, Nat.reduceBEq]
          exact retQ_one rfl rfl
  )
set_option maxRecDepth 100000 in
theorem More_row {l0 l1 l2 : List PV} (T0 : Ty Try.prog 10 24 l0) (T1 : Ty Try.prog 10 51 l1) (T2 : Ty Try.prog 10 26 l2) : SemC Try.prog 14 [argPV Try.prog 24 l0, argPV Try.prog 51 l1, argPV Try.prog 26 l2] (fun r => r = pb true) := by
  obtain ⟨b, rfl⟩ := ty_book T0
  obtain ⟨n0, n1, n2, rfl⟩ := ty_three T1
  obtain ⟨l, rfl⟩ := ty_ints T2
  rw [argStruct Try.underlying24, argArray Try.underlying51, argSlice Try.underlying26]
  exact More_law .sh b n0 n1 n2 l
end Go.Proofs.Ytlghbmancjjdjaa
namespace Go.Proofs.Ytlghbmancjjdjaa
open Go.Proofs.Ytlghbmancjjdjaa Go.ChangeShapes Go.WideShapes Go.ChangeAt Go.RowKit Go.Deep

set_option maxRecDepth 100000 in
theorem dappleMore_lifted (os : Os) (started : os.Started) (H : Type) (enc : TypeId × Value → H) :
    ReturnsInHanded {} Try.checked os 14 .any (Rows.dappleMoreSpec.pre6 enc Try.prog Try.f14 Rows.dappleMoreRow.domain false) (Rows.dappleMoreSpec.post enc Try.prog Try.f14 false true false false) := by
  refine returnsInHanded_of_change_sized (C := Try.checked) ownKnobs started (by kernel_rfl) Try.func14
    (ChangeSpec.witness6 (enc := enc) (C := Try.checked) false ⟨#[], #[.agg #[.int .i64 0, .slice none 0 0], .agg #[.int .i64 0, .int .i64 0, .int .i64 0], .slice none 0 0], []⟩ 8 (by kernel_rfl) (by kernel_rfl) (by kernel_rfl) (by kernel_rfl)) ?_
  intro W base args ds gs before hval0 hW hcnd hsz0 _
  have hval : ∀ (j : Nat) t v, Try.f14.params[j]? = some t → args[j]? = some v → Value.okWide Try.prog W .any base t v := hval0
  have hsz : (DataW.weightsEach Try.prog (Try.f14.params.toList ++ Rows.dappleMoreSpec.plain.varTypes Try.prog) (ds ++ gs)).all (· ≤ reachBytes) = true := hsz0
  have hW' := hW
  obtain ⟨p, q, hA0, hV, rfl, hfz, hnd⟩ := hW
  have hA : DataW.TrodAll enc Try.prog W 0 (fun _ => true) true Try.f14.params.toList args.toList ds p := hA0
  rw [Try.params14] at hA hval hsz
  obtain ⟨v0, vs0, d0, ds0, p0, q0, hargs, rfl, rfl, h0, r0⟩ := trodAll_cons hA
  obtain ⟨v1, vs1, d1, ds1, p1, q1, rfl, rfl, rfl, h1, r1⟩ := trodAll_cons r0
  obtain ⟨v2, vs2, d2, ds2, p2, q2, rfl, rfl, rfl, h2, r2⟩ := trodAll_cons r1
  obtain ⟨rfl, rfl, rfl⟩ := trodAll_nil r2
  obtain rfl : args = #[v0, v1, v2] := by cases args; simp_all
  obtain ⟨rfl, rfl⟩ := trodVars_none hV
  have lt0 : ∀ x ∈ p0, x.block < W.heap.size := by obtain ⟨m, hm⟩ := h0; exact DataW.trod_lt m _ _ _ hm
  have lt1 : ∀ x ∈ p1, x.block < W.heap.size := by obtain ⟨m, hm⟩ := h1; exact DataW.trod_lt m _ _ _ hm
  have lt2 : ∀ x ∈ p2, x.block < W.heap.size := by obtain ⟨m, hm⟩ := h2; exact DataW.trod_lt m _ _ _ hm
  have z0 : SizedP Try.prog 24 d0 := sizedP_each hsz (j := 0) rfl rfl
  obtain ⟨l0, T0, R0⟩ := rd_arg 10 (by kernel_rfl) (hval 0 24 v0 rfl rfl) h0 z0
  have z1 : SizedP Try.prog 51 d1 := sizedP_each hsz (j := 1) rfl rfl
  obtain ⟨l1, T1, R1⟩ := rd_arg 10 (by kernel_rfl) (hval 1 51 v1 rfl rfl) h1 z1
  have z2 : SizedP Try.prog 26 d2 := sizedP_each hsz (j := 2) rfl rfl
  obtain ⟨l2, T2, R2⟩ := rd_arg 10 (by kernel_rfl) (hval 2 26 v2 rfl rfl) h2 z2
  clear hA0 hval0 hsz0
  refine (law_calls (More_row T0 T1 T2) (argsP_cons R0 (argsP_cons R1 (argsP_cons R2 argsP_nil)))).mono fun e W' ⟨he, bel⟩ => ?_
  subst he
  exact ⟨_, rfl, _, _, _, [], _, [], hW', trodAll_mk1 (shut_bool Try.underlying4 _), (trodAll_cons_mk (Below.trod laidOut (by kernel_rfl) (of_decide_eq_true (by kernel_rfl)) h0 bel lt0) (trodAll_cons_mk (Below.trod laidOut (by kernel_rfl) (of_decide_eq_true (by kernel_rfl)) h1 bel lt1) (trodAll_cons_mk (Below.trod laidOut (by kernel_rfl) (of_decide_eq_true (by kernel_rfl)) h2 bel lt2) trodAll_mk0))), rfl, bel.frame _, fun h => by cases h⟩

theorem dappleMore_holds : Rows.DappleMoreSaid :=
  OpenClaim.holds_of_wide 14 Try.f14 rfl rfl rfl rfl rfl rfl rfl ⟨rfl, rfl, rfl, rfl, rfl⟩ rfl rfl rfl rfl rfl (by kernel_rfl) Try.func14 (by kernel_rfl)
    (of_decide_eq_true (by kernel_rfl)) (by unfold Func.isWrapper; first | (rw [if_pos (by decide +kernel)]; kernel_rfl) | (rw [if_neg (by decide +kernel)]; exact ⟨rfl, rfl⟩))
    (fun os started H enc _ => dappleMore_lifted os started H enc)
end Go.Proofs.Ytlghbmancjjdjaa
