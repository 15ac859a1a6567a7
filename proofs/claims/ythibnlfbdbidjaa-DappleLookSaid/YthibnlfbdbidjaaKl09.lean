/- Contracts of dapple's statements: the worst once a size is known. Law: DappleBack. Law: DappleLook. -/
import Derived.Test.YthibnlfbdbidjaaKl07
import Derived.Test.YthibnlfbdbidjaaKl08
import Derived.Test.YthibnlfbdbidjaaKl06
namespace Go.Proofs.Ythibnlfbdbidjaa
open Go.RowKit
def ac54 : AC := (AC.seq (AC.ops [(AOp.mk (some 3) (AK.box 2 (AX.t 0)) none 0 false true), (AOp.mk (some 6) (AK.mv (AX.c (PV.val (Value.int IntKind.i64 0)))) none 1 false true)]) (AC.seq (AC.ops [(AOp.mk (some 14) (AK.fadr 1 (AX.t 3)) none 0 false true), (AOp.mk (some 15) (AK.ld none (AX.t 14)) none 1 false true), (AOp.mk (some 16) (AK.mv (AX.t 1)) none 2 false true), (AOp.mk (some 17) (AK.iadrS 1 (AX.t 15) (AX.t 16)) none 3 false true), (AOp.mk (some 18) (AK.ld none (AX.t 17)) none 4 false true), (AOp.mk (some 19) (AK.mv (AX.t 2)) none 5 false true), (AOp.mk (some 20) (AK.iadrS 1 (AX.t 18) (AX.t 19)) none 6 false true), (AOp.mk (some 21) (AK.ld none (AX.t 20)) none 7 false true), (AOp.mk (some 22) (AK.call 48 [(AX.t 21), (AX.c (PV.val (Value.int IntKind.i64 4)))]) none 8 false true), (AOp.mk (some 7) (AK.mv (AX.t 22)) none 9 false true), (AOp.mk (some 8) (AK.mv (AX.c (PV.val (Value.int IntKind.i64 0)))) none 10 false true)]) (AC.seq (AC.seq (AC.ops [(AOp.mk (some 9) (AK.mv (AX.c (PV.val (Value.int IntKind.i64 0)))) none 0 false true)]) (AC.block 0 (AC.loop (AC.seq (AC.seq (AC.ops [(AOp.mk (some 23) (AK.mv (AX.t 9)) none 0 false true), (AOp.mk (some 24) (AK.mv (AX.t 7)) none 1 false true), (AOp.mk (some 25) (AK.len (AX.t 24)) none 2 false true), (AOp.mk (some 26) (AK.bin false BinOp.lss (AX.t 23) (AX.t 25)) none 3 false true)]) (AC.cond (AX.t 26) AC.skip (AC.exit 0))) (AC.seq (AC.block 1 (AC.seq (AC.ops [(AOp.mk (some 29) (AK.ld (some 2) (AX.t 3)) none 0 true false), (AOp.mk (some 30) (AK.mv (AX.t 1)) none 1 true false), (AOp.mk (some 31) (AK.mv (AX.t 2)) none 2 true false), (AOp.mk (some 32) (AK.mv (AX.t 7)) none 3 true false), (AOp.mk (some 33) (AK.mv (AX.t 9)) none 4 true false), (AOp.mk (some 34) (AK.iadrS 1 (AX.t 32) (AX.t 33)) none 5 true false), (AOp.mk (some 35) (AK.ld none (AX.t 34)) none 6 true false), (AOp.mk (some 36) (AK.call 55 [(AX.t 29), (AX.t 30), (AX.t 31), (AX.t 35)]) none 7 false true), (AOp.mk (some 37) (AK.call 47 [(AX.t 36)]) none 8 false true), (AOp.mk (some 10) (AK.mv (AX.t 37)) none 9 true true), (AOp.mk (some 11) (AK.mv (AX.c (PV.val (Value.int IntKind.i64 0)))) none 10 true true)]) (AC.seq (AC.seq (AC.ops [(AOp.mk (some 38) (AK.mv (AX.t 10)) none 0 false true), (AOp.mk (some 39) (AK.len (AX.t 38)) none 1 false true), (AOp.mk (some 40) (AK.fadr 1 (AX.t 3)) none 2 false true), (AOp.mk (some 41) (AK.ld none (AX.t 40)) none 3 false true), (AOp.mk (some 42) (AK.len (AX.t 41)) none 4 false true), (AOp.mk (some 43) (AK.bin false BinOp.neq (AX.t 39) (AX.t 42)) none 5 false true)]) (AC.cond (AX.t 43) (AC.seq (AC.ops [(AOp.mk (some 6) (AK.mv (AX.c (PV.val (Value.int IntKind.i64 (-1))))) none 0 false true)]) AC.ret) AC.skip)) (AC.seq (AC.seq (AC.ops [(AOp.mk (some 12) (AK.mv (AX.c (PV.val (Value.int IntKind.i64 0)))) none 0 false true)]) (AC.block 2 (AC.loop (AC.seq (AC.seq (AC.ops [(AOp.mk (some 44) (AK.mv (AX.t 12)) none 0 false true), (AOp.mk (some 45) (AK.mv (AX.t 10)) none 1 false true), (AOp.mk (some 46) (AK.len (AX.t 45)) none 2 false true), (AOp.mk (some 47) (AK.bin false BinOp.lss (AX.t 44) (AX.t 46)) none 3 false true)]) (AC.cond (AX.t 47) AC.skip (AC.exit 2))) (AC.seq (AC.block 3 (AC.seq (AC.ops [(AOp.mk (some 50) (AK.mv (AX.t 12)) none 0 false true), (AOp.mk (some 51) (AK.bin false BinOp.add (AX.t 50) (AX.c (PV.val (Value.int IntKind.i64 1)))) none 1 false true), (AOp.mk (some 13) (AK.mv (AX.t 51)) none 2 false true)]) (AC.block 4 (AC.loop (AC.seq (AC.seq (AC.ops [(AOp.mk (some 52) (AK.mv (AX.t 13)) none 0 false true), (AOp.mk (some 53) (AK.mv (AX.t 10)) none 1 false true), (AOp.mk (some 54) (AK.len (AX.t 53)) none 2 false true), (AOp.mk (some 55) (AK.bin false BinOp.lss (AX.t 52) (AX.t 54)) none 3 false true)]) (AC.cond (AX.t 55) AC.skip (AC.exit 4))) (AC.seq (AC.block 5 (AC.seq (AC.ops [(AOp.mk (some 58) (AK.mv (AX.t 10)) none 0 false true), (AOp.mk (some 59) (AK.mv (AX.t 12)) none 1 false true), (AOp.mk (some 60) (AK.iadrS 1 (AX.t 58) (AX.t 59)) none 2 false true), (AOp.mk (some 61) (AK.ld none (AX.t 60)) none 3 false true), (AOp.mk (some 62) (AK.mv (AX.t 13)) none 4 false true), (AOp.mk (some 63) (AK.iadrS 1 (AX.t 61) (AX.t 62)) none 5 false true), (AOp.mk (some 64) (AK.ld none (AX.t 63)) none 6 false true), (AOp.mk (some 65) (AK.bin false BinOp.gtr (AX.t 64) (AX.c (PV.val (Value.int IntKind.i64 0)))) none 7 false true)]) (AC.cond (AX.t 65) (AC.ops [(AOp.mk (some 66) (AK.mv (AX.t 11)) none 0 false true), (AOp.mk (some 67) (AK.bin false BinOp.add (AX.t 66) (AX.c (PV.val (Value.int IntKind.i64 1)))) none 1 false true), (AOp.mk (some 11) (AK.mv (AX.t 67)) none 2 false true)]) AC.skip))) (AC.ops [(AOp.mk (some 56) (AK.mv (AX.t 13)) none 0 false true), (AOp.mk (some 57) (AK.bin false BinOp.add (AX.t 56) (AX.c (PV.val (Value.int IntKind.i64 1)))) none 1 false true), (AOp.mk (some 13) (AK.mv (AX.t 57)) none 2 false true)]))))))) (AC.ops [(AOp.mk (some 48) (AK.mv (AX.t 12)) none 0 false true), (AOp.mk (some 49) (AK.bin false BinOp.add (AX.t 48) (AX.c (PV.val (Value.int IntKind.i64 1)))) none 1 false true), (AOp.mk (some 12) (AK.mv (AX.t 49)) none 2 false true)])))))) (AC.ops [(AOp.mk (some 68) (AK.mv (AX.t 8)) none 0 false true), (AOp.mk (some 69) (AK.mv (AX.t 11)) none 1 false true), (AOp.mk (some 70) (AK.mx true [(AX.t 68), (AX.t 69)]) none 2 false true), (AOp.mk (some 8) (AK.mv (AX.t 70)) none 3 false true)]))))) (AC.ops [(AOp.mk (some 27) (AK.mv (AX.t 9)) none 0 false true), (AOp.mk (some 28) (AK.bin false BinOp.add (AX.t 27) (AX.c (PV.val (Value.int IntKind.i64 1)))) none 1 false true), (AOp.mk (some 9) (AK.mv (AX.t 28)) none 2 false true)])))))) (AC.seq (AC.ops [(AOp.mk (some 71) (AK.mv (AX.t 8)) none 0 false true), (AOp.mk (some 6) (AK.mv (AX.t 71)) none 1 false true)]) AC.ret))))
theorem ac54_ok : cCode Try.prog (fun _ => false) Try.f54.ntmps (Try.f54.body.getD .skip) = some ac54 := by kernel_rfl
theorem natL_lenw {l : List Nat} : (natL l).length = l.length := by unfold natL; rw [List.length_map]
theorem kind_anyw {b : DBook} {i q : Nat} (hq : q < b.horses.length) : iadrS' 1 (.p (pis (kindR b i b.horses.length))) (.p (pi q)) = some (.p (.ptr [pi (kindJ b i q)] 0)) := by
  have hl : q < (kindR b i b.horses.length).length := by rw [kindR_len]; exact hq
  rw [iadr_pis hl]
  simp [kindR]
set_option maxRecDepth 100000 in
set_option maxHeartbeats 2000000 in
theorem worst2_sem (k : SK) {b : DBook} (ho : okBook b) {h p : Nat} (hh : h < b.horses.length) (hp : p < nR b) : Sem1 54 [.agg (bookC k b), pi h, pi p] (pi (worstI b h p)) := by
  obtain ⟨h1, h8, hn⟩ := okR ho
  have h6 := ho.2.1
  have ehh := iadr_map (f := fun h => [pis h]) (kd := k) (sz := 1) hh
  obtain ⟨hl1, hv1⟩ := hs_get ho hh hp
  have hL := List_sem (hsI b h p) 4 (by omega)
  rw [list_sizes ho hh hp] at hL
  have hwI : worstI b h p = worstF b h p (sizesL (hsI b h p)) := by unfold worstI; rw [worst_row ho hp]
  rw [hwI]
  refine semC_of_exec' mixed Try.func54 (by kernel_rfl) (by kernel_rfl) ac54_ok 3 rfl (by decide) [(.tmp 6)] (by kernel_rfl) ?_
  intro hr C hC hI
  unfold ac54
  simp only [go_sem, Nat.reduceBEq, Nat.reduceAdd, ehh, iadr_pis hl1, hv1]
  refine call_pure2 hC (hL) rfl (PVleL_refl _) ?_
  rintro r rfl
  simp only [go_sem, Nat.reduceBEq]
  refine loop_k (sizesL (hsI b h p)).length (fun _ => True) [1, 2, 3, 7] (fun j => [(8, .p (pi (worstF b h p ((sizesL (hsI b h p)).take j)))), (9, .p (pi j))]) trivial rfl ⟨rfl, by simp, by simp⟩ ⟨⟨rfl, rfl⟩, ⟨rfl, rfl⟩, trivial⟩ ?_
  rintro j ⟨hj, -⟩
  simp only [go_sem, Nat.reduceBEq, Nat.reduceAdd, List.length_map, natL_lenw]
  refine ⟨fun h5 => ?_, fun h5 => ?_⟩
  · have hj2 : j < (sizesL (hsI b h p)).length := by omega
    obtain ⟨s, hse⟩ : ∃ s, (sizesL (hsI b h p))[j] = s := ⟨_, rfl⟩
    obtain ⟨hs4, hsx⟩ := mem_sizes.1 (List.getElem_mem hj2)
    rw [hse] at hs4 hsx
    have hx := knowB_ok ho h p hs4
    have hxl := know_len b h p s
    have hkx : (kindsL (knowB b h p s) (knowB b h p s).horses.length).length = b.horses.length := by rw [kindsL_len, hxl]
    have hnl : j < (natL (sizesL (hsI b h p))).length := by rw [natL_lenw]; exact hj2
    have hnv : (natL (sizesL (hsI b h p)))[j] = (s : Int) := by simp [natL, hse]
    have hwn : worstF b h p ((sizesL (hsI b h p)).take (j + 1)) = maxI true (worstF b h p ((sizesL (hsI b h p)).take j)) (clashI (knowB b h p s)) := by
      unfold worstF
      rw [List.take_succ_eq_append_getElem hj2, List.foldl_append, hse]
      rfl
    have hsl : (sizesL (hsI b h p)).length ≤ 4 := Nat.le_trans (List.length_filter_le ..) (by simp)
    rw [clash_tot hx, hxl] at hwn
    obtain ⟨c, hc⟩ : ∃ c, knowB b h p s = c := ⟨_, rfl⟩
    have hk2 := known2_sem k ho hh hp hs4
    have hks := kinds_sem .sh hx
    rw [hc] at hx hxl hkx hwn hk2 hks
    have hkr : ∀ i q, 0 ≤ kindJ c i q ∧ kindJ c i q ≤ 2 := fun i q => by
      unfold kindJ
      split
      · omega
      · exact same_range hx i q
    simp only [go_sem, Nat.reduceBEq, iadr_pis hnl, hnv]
    refine call_pure2 hC (hk2) rfl (PVleL_refl _) ?_
    rintro r rfl
    simp only [go_sem, Nat.reduceBEq]
    refine call_pure2 hC (hks) rfl (PVleL_refl _) ?_
    rintro r rfl
    simp only [go_sem, Nat.reduceBEq, List.length_map, hkx, decide_false, not_true_eq_false, Int.reduceNeg]
    refine loop_k b.horses.length (fun _ => True) [1, 2, 3, 7, 8, 9, 10] (fun i => [(11, .p (pi (totC c i : Nat))), (12, .p (pi i))]) trivial rfl ⟨rfl, by simp, by simp⟩ ⟨⟨rfl, rfl⟩, ⟨rfl, rfl⟩, trivial⟩ ?_
    rintro i ⟨hi, -⟩
    simp only [go_sem, Nat.reduceBEq, List.length_map, hkx]
    refine ⟨fun h7 => ?_, fun h7 => ?_⟩
    · have hi2 : i < b.horses.length := by omega
      have htl := totC_le (b := c) (by omega) i (by omega)
      have htn := totC_next c i
      rw [hxl] at htn
      simp only [go_sem, wrap_succ (k := i) (by omega)]
      refine loop_k (b.horses.length - (i + 1)) (fun _ => True) [1, 2, 3, 7, 8, 9, 10, 12] (fun q => [(11, .p (pi ((totC c i + rowC c i q : Nat) : Int))), (13, .p (pi ((i + 1 + q : Nat) : Int)))]) trivial rfl ⟨rfl, by simp, by simp⟩ ⟨⟨rfl, rfl⟩, ⟨rfl, rfl⟩, trivial⟩ ?_
      rintro q ⟨hq, -⟩
      simp only [go_sem, Nat.reduceBEq, List.length_map, hkx]
      refine ⟨fun h9 => ?_, fun h9 => ?_⟩
      · have hq2 : i + 1 + q < b.horses.length := by omega
        have hrn := rowC_next c i q
        have hrl := rowC_le c i q
        have hnx : IntKind.i64.wrap (((i + 1 + q : Nat) : Int) + 1) = ((i + 1 + (q + 1) : Nat) : Int) := wrap_succ (by omega)
        simp only [go_sem, Nat.reduceBEq, kinds_at (b := c) (show i < c.horses.length by omega), kind_anyw (b := c) (show i + 1 + q < c.horses.length by omega)]
        refine ⟨fun h11 => ?_, fun h11 => ?_⟩
        · rw [if_pos h11] at hrn
          simp only [go_sem, hnx, wrap_succ (k := totC c i + rowC c i q) (by omega)]
          refine ⟨⟨q + 1, by omega, trivial⟩, by simp only; omega, ?_⟩
          simp only [hrn, ← Nat.add_assoc]
          exact by simp [Wk, wkT, wkL, look, AV.lo, AV.lo.loL, ABlk.toZ]
        · rw [if_neg h11, Nat.add_zero] at hrn
          simp only [go_sem, hnx]
          refine ⟨⟨q + 1, by omega, trivial⟩, by simp only; omega, ?_⟩
          simp only [hrn]
          exact by simp [Wk, wkT, wkL, look, AV.lo, AV.lo.loL, ABlk.toZ]
      · have hqn : q = b.horses.length - (i + 1) := by omega
        subst hqn
        simp only [go_sem, wrap_succ (k := i) (by omega)]
        refine ⟨⟨i + 1, hi2, trivial⟩, by simp only; omega, ?_⟩
        simp only [htn]
        exact by simp [Wk, wkT, wkL, look, AV.lo, AV.lo.loL, ABlk.toZ]
    · have hin : i = b.horses.length := by omega
      subst hin
      simp only [go_sem, wrap_succ (k := j) (by omega)]
      refine ⟨⟨j + 1, hj2, trivial⟩, by simp only; omega, ?_⟩
      simp only [hwn]
      exact by simp [Wk, wkT, wkL, look, AV.lo, AV.lo.loL, ABlk.toZ]
  · have hjn : j = (sizesL (hsI b h p)).length := by omega
    subst hjn
    rw [List.take_length]
    exact retQ_one rfl rfl
end Go.Proofs.Ythibnlfbdbidjaa
namespace Go.Proofs.Ythibnlfbdbidjaa
open Go.RowKit
def ac7 : AC := (AC.seq (AC.ops [(AOp.mk (some 2) (AK.box 2 (AX.t 0)) none 0 false true), (AOp.mk (some 3) (AK.box 3 (AX.t 1)) none 1 false true), (AOp.mk (some 4) (AK.mv (AX.c (PV.val (Value.bool false)))) none 2 false true)]) (AC.seq (AC.seq (AC.ops [(AOp.mk (some 18) (AK.ld (some 2) (AX.t 2)) none 0 false true), (AOp.mk (some 19) (AK.call 38 [(AX.t 18)]) none 1 false true), (AOp.mk (some 20) (AK.un UnOp.not (AX.t 19)) none 2 false true), (AOp.mk (some 21) (AK.mv (AX.t 20)) none 3 false true), (AOp.mk (some 22) (AK.fadr 1 (AX.t 2)) (some (21, false)) 4 false true), (AOp.mk (some 23) (AK.ld none (AX.t 22)) (some (21, false)) 5 false true), (AOp.mk (some 24) (AK.len (AX.t 23)) (some (21, false)) 6 false true), (AOp.mk (some 25) (AK.bin false BinOp.lss (AX.t 24) (AX.c (PV.val (Value.int IntKind.i64 2)))) (some (21, false)) 7 false true), (AOp.mk (some 26) (AK.pick (AX.t 21) (AX.c (PV.val (Value.bool true))) (AX.t 25)) none 8 false true)]) (AC.cond (AX.t 26) (AC.seq (AC.ops [(AOp.mk (some 27) (AK.call 25 []) none 0 false true), (AOp.mk (some 4) (AK.mv (AX.t 27)) none 1 false true)]) AC.ret) AC.skip)) (AC.seq (AC.ops [(AOp.mk (some 29) (AK.ld (some 2) (AX.t 2)) none 0 false true), (AOp.mk (some 30) (AK.iadrA 1 3 (AX.t 3) (AX.c (PV.val (Value.int IntKind.i64 0)))) none 1 false true), (AOp.mk (some 31) (AK.ld none (AX.t 30)) none 2 false true), (AOp.mk (some 32) (AK.iadrA 1 3 (AX.t 3) (AX.c (PV.val (Value.int IntKind.i64 1)))) none 3 false true), (AOp.mk (some 33) (AK.ld none (AX.t 32)) none 4 false true), (AOp.mk (some 34) (AK.call 44 [(AX.t 29), (AX.t 31), (AX.t 33)]) none 5 false true), (AOp.mk (some 28) (AK.mv (AX.t 34)) none 6 false true), (AOp.mk (some 35) (AK.ext (AX.t 28) 0) none 7 false true), (AOp.mk (some 36) (AK.ext (AX.t 28) 1) none 8 false true), (AOp.mk (some 5) (AK.mv (AX.t 35)) none 9 false true), (AOp.mk (some 6) (AK.mv (AX.t 36)) none 10 false true)]) (AC.seq (AC.ops [(AOp.mk (some 37) (AK.iadrA 1 3 (AX.t 3) (AX.c (PV.val (Value.int IntKind.i64 2)))) none 0 false true), (AOp.mk (some 38) (AK.ld none (AX.t 37)) none 1 false true), (AOp.mk (some 39) (AK.fadr 0 (AX.t 2)) none 2 false true), (AOp.mk (some 40) (AK.ld none (AX.t 39)) none 3 false true), (AOp.mk (some 41) (AK.call 46 [(AX.t 38), (AX.t 40)]) none 4 false true), (AOp.mk (some 7) (AK.mv (AX.t 41)) none 5 false true)]) (AC.seq (AC.ops [(AOp.mk (some 43) (AK.ld (some 2) (AX.t 2)) none 0 false true), (AOp.mk (some 44) (AK.mv (AX.t 5)) none 1 false true), (AOp.mk (some 45) (AK.mv (AX.t 6)) none 2 false true), (AOp.mk (some 46) (AK.call 18 [(AX.t 43), (AX.t 44), (AX.t 45)]) none 3 false true), (AOp.mk (some 42) (AK.mv (AX.t 46)) none 4 false true), (AOp.mk (some 47) (AK.ext (AX.t 42) 0) none 5 false true), (AOp.mk (some 48) (AK.ext (AX.t 42) 1) none 6 false true), (AOp.mk (some 8) (AK.mv (AX.t 47)) none 7 false true), (AOp.mk (some 9) (AK.mv (AX.t 48)) none 8 false true)]) (AC.seq (AC.ops [(AOp.mk (some 50) (AK.ld (some 2) (AX.t 2)) none 0 false true), (AOp.mk (some 51) (AK.mv (AX.t 6)) none 1 false true), (AOp.mk (some 52) (AK.mv (AX.t 5)) none 2 false true), (AOp.mk (some 53) (AK.call 18 [(AX.t 50), (AX.t 51), (AX.t 52)]) none 3 false true), (AOp.mk (some 49) (AK.mv (AX.t 53)) none 4 false true), (AOp.mk (some 54) (AK.ext (AX.t 49) 0) none 5 false true), (AOp.mk (some 55) (AK.ext (AX.t 49) 1) none 6 false true), (AOp.mk (some 10) (AK.mv (AX.t 54)) none 7 false true), (AOp.mk (some 11) (AK.mv (AX.t 55)) none 8 false true)]) (AC.seq (AC.ops [(AOp.mk (some 57) (AK.ld (some 2) (AX.t 2)) none 0 false true), (AOp.mk (some 58) (AK.mv (AX.t 5)) none 1 false true), (AOp.mk (some 59) (AK.mv (AX.t 6)) none 2 false true), (AOp.mk (some 60) (AK.call 23 [(AX.t 57), (AX.t 58), (AX.t 59)]) none 3 false true), (AOp.mk (some 56) (AK.mv (AX.t 60)) none 4 false true), (AOp.mk (some 61) (AK.ext (AX.t 56) 0) none 5 false true), (AOp.mk (some 62) (AK.ext (AX.t 56) 1) none 6 false true), (AOp.mk (some 12) (AK.mv (AX.t 61)) none 7 false true), (AOp.mk (some 13) (AK.mv (AX.t 62)) none 8 false true)]) (AC.seq (AC.ops [(AOp.mk (some 64) (AK.ld (some 2) (AX.t 2)) none 0 false true), (AOp.mk (some 65) (AK.mv (AX.t 6)) none 1 false true), (AOp.mk (some 66) (AK.mv (AX.t 5)) none 2 false true), (AOp.mk (some 67) (AK.call 23 [(AX.t 64), (AX.t 65), (AX.t 66)]) none 3 false true), (AOp.mk (some 63) (AK.mv (AX.t 67)) none 4 false true), (AOp.mk (some 68) (AK.ext (AX.t 63) 0) none 5 false true), (AOp.mk (some 69) (AK.ext (AX.t 63) 1) none 6 false true), (AOp.mk (some 14) (AK.mv (AX.t 68)) none 7 false true), (AOp.mk (some 15) (AK.mv (AX.t 69)) none 8 false true)]) (AC.seq (AC.ops [(AOp.mk (some 16) (AK.mv (AX.c (PV.val (Value.bool true)))) none 0 false true)]) (AC.seq (AC.seq (AC.ops [(AOp.mk (some 17) (AK.mv (AX.c (PV.val (Value.int IntKind.i64 0)))) none 0 false true)]) (AC.block 0 (AC.loop (AC.seq (AC.seq (AC.ops [(AOp.mk (some 70) (AK.mv (AX.t 17)) none 0 false true), (AOp.mk (some 71) (AK.fadr 0 (AX.t 2)) none 1 false true), (AOp.mk (some 72) (AK.ld none (AX.t 71)) none 2 false true), (AOp.mk (some 73) (AK.bin false BinOp.lss (AX.t 70) (AX.t 72)) none 3 false true)]) (AC.cond (AX.t 73) AC.skip (AC.exit 0))) (AC.seq (AC.block 1 (AC.ops [(AOp.mk (some 76) (AK.mv (AX.t 16)) none 0 true true), (AOp.mk (some 77) (AK.mv (AX.t 76)) none 1 true true), (AOp.mk (some 78) (AK.fadr 1 (AX.t 2)) (some (77, true)) 2 true false), (AOp.mk (some 79) (AK.ld none (AX.t 78)) (some (77, true)) 3 true false), (AOp.mk (some 80) (AK.mv (AX.t 5)) (some (77, true)) 4 true false), (AOp.mk (some 81) (AK.iadrS 1 (AX.t 79) (AX.t 80)) (some (77, true)) 5 true false), (AOp.mk (some 82) (AK.ld none (AX.t 81)) (some (77, true)) 6 true false), (AOp.mk (some 83) (AK.mv (AX.t 17)) (some (77, true)) 7 true false), (AOp.mk (some 84) (AK.mv (AX.t 7)) (some (77, true)) 8 true false), (AOp.mk (some 85) (AK.bin false BinOp.add (AX.t 83) (AX.t 84)) (some (77, true)) 9 true false), (AOp.mk (some 86) (AK.fadr 0 (AX.t 2)) (some (77, true)) 10 true false), (AOp.mk (some 87) (AK.ld none (AX.t 86)) (some (77, true)) 11 true false), (AOp.mk (some 91) (AK.fadr 1 (AX.t 2)) (some (77, true)) 15 true false), (AOp.mk (some 92) (AK.ld none (AX.t 91)) (some (77, true)) 16 true false), (AOp.mk (some 93) (AK.mv (AX.t 6)) (some (77, true)) 17 true false), (AOp.mk (some 94) (AK.iadrS 1 (AX.t 92) (AX.t 93)) (some (77, true)) 18 true false), (AOp.mk (some 95) (AK.ld none (AX.t 94)) (some (77, true)) 19 true false), (AOp.mk (some 96) (AK.mv (AX.t 17)) (some (77, true)) 20 true false), (AOp.mk (some 97) (AK.iadrS 1 (AX.t 95) (AX.t 96)) (some (77, true)) 21 true false), (AOp.mk (some 98) (AK.ld none (AX.t 97)) (some (77, true)) 22 true false), (AOp.mk (some 88) (AK.call 46 [(AX.t 85), (AX.t 87)]) (some (77, true)) 12 false false), (AOp.mk (some 89) (AK.iadrS 1 (AX.t 82) (AX.t 88)) (some (77, true)) 13 true false), (AOp.mk (some 90) (AK.ld none (AX.t 89)) (some (77, true)) 14 true false), (AOp.mk (some 99) (AK.bin false BinOp.and (AX.t 90) (AX.t 98)) (some (77, true)) 23 true true), (AOp.mk (some 100) (AK.bin false BinOp.neq (AX.t 99) (AX.c (PV.val (Value.int IntKind.i64 0)))) (some (77, true)) 24 true true), (AOp.mk (some 101) (AK.pick (AX.t 77) (AX.t 100) (AX.c (PV.val (Value.bool false)))) none 25 true true), (AOp.mk (some 16) (AK.mv (AX.t 101)) none 26 true true)])) (AC.ops [(AOp.mk (some 74) (AK.mv (AX.t 17)) none 0 false true), (AOp.mk (some 75) (AK.bin false BinOp.add (AX.t 74) (AX.c (PV.val (Value.int IntKind.i64 1)))) none 1 false true), (AOp.mk (some 17) (AK.mv (AX.t 75)) none 2 false true)])))))) (AC.seq (AC.ops [(AOp.mk (some 102) (AK.mv (AX.t 9)) none 0 false true), (AOp.mk (some 103) (AK.bin false BinOp.eql (AX.t 102) (AX.c (PV.val (Value.int IntKind.i64 0)))) none 1 false true), (AOp.mk (some 104) (AK.mv (AX.t 103)) none 2 false true), (AOp.mk (some 105) (AK.mv (AX.t 11)) (some (104, true)) 3 false true), (AOp.mk (some 106) (AK.bin false BinOp.eql (AX.t 105) (AX.c (PV.val (Value.int IntKind.i64 0)))) (some (104, true)) 4 false true), (AOp.mk (some 107) (AK.pick (AX.t 104) (AX.t 106) (AX.c (PV.val (Value.bool false)))) none 5 false true), (AOp.mk (some 108) (AK.mv (AX.t 107)) none 6 false true), (AOp.mk (some 109) (AK.mv (AX.t 13)) (some (108, true)) 7 false true), (AOp.mk (some 110) (AK.bin false BinOp.eql (AX.t 109) (AX.c (PV.val (Value.int IntKind.i64 0)))) (some (108, true)) 8 false true), (AOp.mk (some 111) (AK.pick (AX.t 108) (AX.t 110) (AX.c (PV.val (Value.bool false)))) none 9 false true), (AOp.mk (some 112) (AK.mv (AX.t 111)) none 10 false true), (AOp.mk (some 113) (AK.mv (AX.t 15)) (some (112, true)) 11 false true), (AOp.mk (some 114) (AK.bin false BinOp.eql (AX.t 113) (AX.c (PV.val (Value.int IntKind.i64 0)))) (some (112, true)) 12 false true), (AOp.mk (some 115) (AK.pick (AX.t 112) (AX.t 114) (AX.c (PV.val (Value.bool false)))) none 13 false true), (AOp.mk (some 116) (AK.mv (AX.t 115)) none 14 false true), (AOp.mk (some 117) (AK.mv (AX.t 12)) (some (116, true)) 15 false true), (AOp.mk (some 118) (AK.mv (AX.t 14)) (some (116, true)) 16 false true), (AOp.mk (some 119) (AK.bin false BinOp.eql (AX.t 117) (AX.t 118)) (some (116, true)) 17 false true), (AOp.mk (some 120) (AK.pick (AX.t 116) (AX.t 119) (AX.c (PV.val (Value.bool false)))) none 18 false true), (AOp.mk (some 121) (AK.mv (AX.t 120)) none 19 false true), (AOp.mk (some 122) (AK.mv (AX.t 12)) (some (121, true)) 20 false true), (AOp.mk (some 123) (AK.bin false BinOp.gtr (AX.t 122) (AX.c (PV.val (Value.int IntKind.i64 0)))) (some (121, true)) 21 false true), (AOp.mk (some 124) (AK.mv (AX.t 8)) (some (121, true)) 22 false true), (AOp.mk (some 125) (AK.len (AX.t 124)) (some (121, true)) 23 false true), (AOp.mk (some 126) (AK.bin false BinOp.gtr (AX.t 125) (AX.c (PV.val (Value.int IntKind.i64 0)))) (some (121, true)) 24 false true), (AOp.mk (some 127) (AK.bin true BinOp.eql (AX.t 123) (AX.t 126)) (some (121, true)) 25 false true), (AOp.mk (some 128) (AK.pick (AX.t 121) (AX.t 127) (AX.c (PV.val (Value.bool false)))) none 26 false true), (AOp.mk (some 129) (AK.mv (AX.t 128)) none 27 false true), (AOp.mk (some 130) (AK.mv (AX.t 8)) (some (129, true)) 28 false true), (AOp.mk (some 131) (AK.len (AX.t 130)) (some (129, true)) 29 false true), (AOp.mk (some 132) (AK.mv (AX.t 10)) (some (129, true)) 30 false true), (AOp.mk (some 133) (AK.len (AX.t 132)) (some (129, true)) 31 false true), (AOp.mk (some 134) (AK.bin false BinOp.eql (AX.t 131) (AX.t 133)) (some (129, true)) 32 false true), (AOp.mk (some 135) (AK.pick (AX.t 129) (AX.t 134) (AX.c (PV.val (Value.bool false)))) none 33 false true), (AOp.mk (some 136) (AK.mv (AX.t 135)) none 34 false true), (AOp.mk (some 137) (AK.mv (AX.t 8)) (some (136, true)) 35 false true), (AOp.mk (some 138) (AK.mv (AX.t 7)) (some (136, true)) 36 false true), (AOp.mk (some 139) (AK.call 42 [(AX.t 137), (AX.t 138)]) (some (136, true)) 37 false true), (AOp.mk (some 140) (AK.bin false BinOp.geq (AX.t 139) (AX.c (PV.val (Value.int IntKind.i64 0)))) (some (136, true)) 38 false true), (AOp.mk (some 141) (AK.mv (AX.t 16)) (some (136, true)) 39 false true), (AOp.mk (some 142) (AK.bin true BinOp.eql (AX.t 140) (AX.t 141)) (some (136, true)) 40 false true), (AOp.mk (some 143) (AK.pick (AX.t 136) (AX.t 142) (AX.c (PV.val (Value.bool false)))) none 41 false true), (AOp.mk (some 144) (AK.mv (AX.t 143)) none 42 false true), (AOp.mk (some 145) (AK.mv (AX.t 10)) (some (144, true)) 43 false true), (AOp.mk (some 146) (AK.mv (AX.t 7)) (some (144, true)) 44 false true), (AOp.mk (some 147) (AK.un UnOp.neg (AX.t 146)) (some (144, true)) 45 false true), (AOp.mk (some 148) (AK.fadr 0 (AX.t 2)) (some (144, true)) 46 false true), (AOp.mk (some 149) (AK.ld none (AX.t 148)) (some (144, true)) 47 false true), (AOp.mk (some 150) (AK.call 46 [(AX.t 147), (AX.t 149)]) (some (144, true)) 48 false true), (AOp.mk (some 151) (AK.call 42 [(AX.t 145), (AX.t 150)]) (some (144, true)) 49 false true), (AOp.mk (some 152) (AK.bin false BinOp.geq (AX.t 151) (AX.c (PV.val (Value.int IntKind.i64 0)))) (some (144, true)) 50 false true), (AOp.mk (some 153) (AK.mv (AX.t 16)) (some (144, true)) 51 false true), (AOp.mk (some 154) (AK.bin true BinOp.eql (AX.t 152) (AX.t 153)) (some (144, true)) 52 false true), (AOp.mk (some 155) (AK.pick (AX.t 144) (AX.t 154) (AX.c (PV.val (Value.bool false)))) none 53 false true), (AOp.mk (some 156) (AK.mv (AX.t 155)) none 54 false true), (AOp.mk (some 157) (AK.call 25 []) (some (156, true)) 55 false true), (AOp.mk (some 158) (AK.pick (AX.t 156) (AX.t 157) (AX.c (PV.val (Value.bool false)))) none 56 false true), (AOp.mk (some 4) (AK.mv (AX.t 158)) none 57 false true)]) AC.ret)))))))))))
theorem ac7_ok : cCode Try.prog (fun _ => false) Try.f7.ntmps (Try.f7.body.getD .skip) = some ac7 := by kernel_rfl
theorem mem_natL {l : List Nat} {t : Nat} : (t : Int) ∈ natL l ↔ t ∈ l := by
  unfold natL
  rw [List.mem_map]
  constructor
  · rintro ⟨x, hx, e⟩
    have : x = t := by omega
    exact this ▸ hx
  · exact fun h => ⟨t, h, rfl⟩
theorem rnd_nat {b : DBook} (ho : okBook b) (x : Nat) : rndI (x : Int) b.round = ((x % nR b : Nat) : Int) := by
  obtain ⟨h1, h8, hn⟩ := okR ho
  unfold rndI
  rw [if_neg (by omega), hn]
  rfl
theorem rnd_turn {b : DBook} (ho : okBook b) (n : Int) : ∃ t : Nat, rndI n b.round = t ∧ t < nR b := by
  obtain ⟨h1, h8, hn⟩ := okR ho
  have := rndI_range (n := n) (m := b.round) (by omega)
  exact ⟨(rndI n b.round).toNat, by omega, by omega⟩
theorem rnd_back {b : DBook} (ho : okBook b) {t : Nat} (ht : t < nR b) : rndI (0 - (t : Int)) b.round = (backT (nR b) t : Nat) := by
  obtain ⟨h1, h8, hn⟩ := okR ho
  unfold rndI backT
  rw [if_neg (by omega), hn]
  rw [← Int.add_emod_right, show 0 - (t : Int) + (nR b : Int) = ((nR b - t : Nat) : Int) by omega]
  rfl
def canF (b : DBook) (h o t j : Nat) : Bool := (List.range j).all fun q => meetB (hsI b h ((q + t) % nR b)) (hsI b o q)
theorem bin_meet {x y : Int} : binS false .and (.p (pi x)) (.p (pi y)) = some (.p (pi (andI x y))) := by rw [bin_and]; rfl
theorem canF_next (b : DBook) (h o t j : Nat) : canF b h o t (j + 1) = (canF b h o t j && meetB (hsI b h ((j + t) % nR b)) (hsI b o j)) := by
  unfold canF
  rw [List.range_succ, List.all_append, List.all_cons, List.all_nil, Bool.and_true]
theorem canF_iff {b : DBook} (ho : okBook b) {h o t : Nat} (ht : t < nR b) : canF b h o t (nR b) = true ↔ t ∈ turnsI b h o := by
  rw [show turnsI b h o = turnsP b meetB h (rowL b o 0) from rfl, mem_turns ho]
  unfold canF fit2
  rw [List.all_eq_true]
  exact ⟨fun H => ⟨ht, fun q hq => H q (List.mem_range.2 hq)⟩, fun H q hq => H.2 q (List.mem_range.1 hq)⟩
set_option maxRecDepth 100000 in
theorem Back_law (k : SK) (b : DBook) (n m p : Int) : Sem1 7 [.agg (bookC k b), .agg [pi n, pi m, pi p]] (pb true) := by
  refine semC_of_exec' mixed Try.func7 (by kernel_rfl) (by kernel_rfl) ac7_ok 2 rfl (by decide) [(.tmp 4)] (by kernel_rfl) ?_
  intro hr C hC hI
  unfold ac7
  simp only [go_sem, Nat.reduceBEq, Nat.reduceAdd]
  refine call_pure2 hC (sound_sem k b) rfl (PVleL_refl _) ?_
  rintro r rfl
  simp only [go_sem, Nat.reduceBEq, Nat.reduceAdd, List.length_map]
  refine ⟨fun ho => ⟨fun h2 => ?_, fun h2 => ?_⟩, fun ho => ?_⟩
  · refine call_pure2 hC (pressed_sem) rfl (PVleL_refl _) ?_
    rintro r rfl
    simp only [go_sem, Nat.reduceBEq]
    exact retQ_one rfl rfl
  rotate_left
  · refine call_pure2 hC (pressed_sem) rfl (PVleL_refl _) ?_
    rintro r rfl
    simp only [go_sem, Nat.reduceBEq]
    exact retQ_one rfl rfl
  obtain ⟨h1, h8, hn⟩ := okR ho
  have h6 := ho.2.1
  obtain ⟨h, o, e1, e2, hh, hoo, hne⟩ := two_range (b := b) (by omega) n m
  obtain ⟨t, et, ht⟩ := rnd_turn ho p
  refine call_pure2 hC (two_sem k ho (by omega) n m) rfl (PVleL_refl _) ?_
  rintro r rfl
  simp only [go_sem, Nat.reduceBEq, e1, e2, iadr3_2]
  refine call_pure2 hC (Round_sem p b.round) rfl (PVleL_refl _) ?_
  rintro r rfl
  simp only [go_sem, Nat.reduceBEq, Nat.reduceAdd, et]
  refine call_pure2 hC (Turns_ok k ho hh hoo hne) rfl (PVleL_refl _) ?_
  rintro r rfl
  simp only [go_sem, Nat.reduceBEq, Nat.reduceAdd]
  refine call_pure2 hC (Turns_ok k ho hoo hh (fun e => hne e.symm)) rfl (PVleL_refl _) ?_
  rintro r rfl
  simp only [go_sem, Nat.reduceBEq, Nat.reduceAdd]
  refine call_pure2 hC (Same_ok k ho hh hoo hne) rfl (PVleL_refl _) ?_
  rintro r rfl
  simp only [go_sem, Nat.reduceBEq, Nat.reduceAdd]
  refine call_pure2 hC (Same_ok k ho hoo hh (fun e => hne e.symm)) rfl (PVleL_refl _) ?_
  rintro r rfl
  simp only [go_sem, Nat.reduceBEq, same_comm ho o h]
  have ehh := iadr_map (f := fun h => [pis h]) (kd := k) (sz := 1) hh
  have eoo := iadr_map (f := fun h => [pis h]) (kd := k) (sz := 1) hoo
  have hc0 : canF b h o t 0 = true := rfl
  refine loop_k (nR b) (fun _ => True) [2, 5, 6, 7, 8, 9, 10, 11, 12, 13, 14, 15] (fun j => [(16, .p (pb (canF b h o t j))), (17, .p (pi j))]) trivial rfl ⟨rfl, by simp, by simp⟩ (by show wkT _ _ [(16, .p (pb (canF b h o t 0))), _]; rw [hc0]; exact by simp [wkT, look, AV.lo]) ?_
  rintro j ⟨hj, -⟩
  have hSj := canF_next b h o t j
  simp only [go_sem, Nat.reduceBEq]
  refine ⟨fun h5 => ?_, fun h5 => ?_⟩
  · have hj2 : j < nR b := by omega
    obtain ⟨hl1, hv1⟩ := hs_get ho hh (Nat.mod_lt (j + t) h1)
    obtain ⟨hl2, hv2⟩ := hs_get ho hoo hj2
    cases hs : canF b h o t j
    · rw [hs, Bool.false_and] at hSj
      simp only [go_sem, Nat.reduceBEq, wrap_succ (k := j) (by omega)]
      refine ⟨⟨j + 1, hj2, trivial⟩, by simp only; omega, ?_⟩
      simp only [hSj]
      exact by simp [Wk, wkT, wkL, look, AV.lo, AV.lo.loL, ABlk.toZ]
    · rw [hs, Bool.true_and] at hSj
      have ern := rnd_nat ho (j + t)
      have hmt : meetB (hsI b h ((j + t) % nR b)) (hsI b o j) = decide (¬ andI (hsI b h ((j + t) % nR b)) (hsI b o j) = 0) := rfl
      rw [hmt] at hSj
      simp only [go_sem, Nat.reduceBEq, ehh, eoo, iadr_pis hl2, hv2, wrap_id (n := (j : Int) + t) (by omega) (by omega)]
      refine call_pure2 hC (Round_sem ((j : Int) + t) b.round) rfl (PVleL_refl _) ?_
      rintro r rfl
      simp only [go_sem, Nat.reduceBEq, show rndI ((j : Int) + t) b.round = _ from ern, iadr_pis hl1, hv1, bin_meet, wrap_succ (k := j) (by omega)]
      refine ⟨⟨j + 1, hj2, trivial⟩, by simp only; omega, ?_⟩
      simp only [hSj]
      exact by simp [Wk, wkT, wkL, look, AV.lo, AV.lo.loL, ABlk.toZ]
  · have hjn : j = nR b := by omega
    subst hjn
    have hci := canF_iff ho (h := h) (o := o) ht
    have hlen : (natL (turnsI b h o)).length = (natL (turnsI b o h)).length := by
      unfold natL
      rw [List.length_map, List.length_map]
      exact turns_len ho meet_comm h o
    have hpos : decide (0 < sameI b h o) = decide (0 < ((natL (turnsI b h o)).length : Int)) := by
      have e1 := same_pos ho hh hoo
      have e2 := same_range ho h o
      refine decide_eq_decide.2 ?_
      unfold natL
      rw [List.length_map]
      rw [show (0 < sameI b h o) ↔ sameI b h o ≠ 0 by omega, e1, ← List.length_pos_iff]
      omega
    have hbk : (backT (nR b) t : Int) ∈ natL (turnsI b o h) ↔ t ∈ turnsI b h o := by
      rw [mem_natL, show turnsI b o h = turnsP b meetB o (rowL b h 0) from rfl, show turnsI b h o = turnsP b meetB h (rowL b o 0) from rfl, mem_turns ho, mem_turns ho, fit_iff meet_comm ht]
      exact ⟨fun H => ⟨ht, H.2⟩, fun H => ⟨back_lt h1, H.2⟩⟩
    have hfw : (t : Int) ∈ natL (turnsI b h o) ↔ t ∈ turnsI b h o := mem_natL
    obtain ⟨T1, hT1⟩ : ∃ T, natL (turnsI b h o) = T := ⟨_, rfl⟩
    obtain ⟨T2, hT2⟩ : ∃ T, natL (turnsI b o h) = T := ⟨_, rfl⟩
    obtain ⟨K, hK⟩ : ∃ K, sameI b h o = K := ⟨_, rfl⟩
    obtain ⟨F, hF⟩ : ∃ F, canF b h o t (nR b) = F := ⟨_, rfl⟩
    rw [hT1] at hlen hpos hfw
    rw [hT2] at hlen hbk
    rw [hK] at hpos
    rw [hF] at hci
    rw [hT1, hT2, hK, hF]
    simp only [go_sem, List.length_map, hlen, hpos, decide_true, not_true_eq_false, false_implies, true_implies]
    refine call_pure2 hC (Find_sem T1 t) rfl (PVleL_refl _) ?_
    rintro r ⟨i1, rfl, hi1⟩
    have hF1 : decide (0 ≤ i1) = F := by
      rw [Bool.eq_iff_iff, decide_eq_true_eq, hci, ← hfw]
      have := Decidable.not_iff_not.2 hi1
      rw [Decidable.not_not] at this
      rw [← this]; omega
    simp only [go_sem, Nat.reduceBEq, hF1, decide_true, wrap_id (n := 0 - (t : Int)) (by omega) (by omega)]
    refine call_pure2 hC (Round_sem (0 - (t : Int)) b.round) rfl (PVleL_refl _) ?_
    rintro r rfl
    simp only [go_sem, Nat.reduceBEq, rnd_back ho ht]
    refine call_pure2 hC (Find_sem T2 (backT (nR b) t)) rfl (PVleL_refl _) ?_
    rintro r ⟨i2, rfl, hi2⟩
    have hF2 : decide (0 ≤ i2) = F := by
      rw [Bool.eq_iff_iff, decide_eq_true_eq, hci, ← hbk]
      have := Decidable.not_iff_not.2 hi2
      rw [Decidable.not_not] at this
      rw [← this]; omega
    simp only [go_sem, Nat.reduceBEq, hF2, decide_true]
    refine call_pure2 hC (pressed_sem) rfl (PVleL_refl _) ?_
    rintro r rfl
    simp only [go_sem, Nat.reduceBEq]
    exact retQ_one rfl rfl
set_option maxRecDepth 100000 in
theorem Back_row {l0 l1 : List PV} (T0 : Ty Try.prog 10 24 l0) (T1 : Ty Try.prog 10 51 l1) : SemC Try.prog 7 [argPV Try.prog 24 l0, argPV Try.prog 51 l1] (fun r => r = pb true) := by
  obtain ⟨b, rfl⟩ := ty_book T0
  obtain ⟨n0, n1, n2, rfl⟩ := ty_three T1
  rw [argStruct Try.underlying24, argArray Try.underlying51]
  exact Back_law .sh b n0 n1 n2
end Go.Proofs.Ythibnlfbdbidjaa
namespace Go.Proofs.Ythibnlfbdbidjaa
open Go.RowKit
def ac13 : AC := (AC.seq (AC.ops [(AOp.mk (some 2) (AK.box 2 (AX.t 0)) none 0 false true), (AOp.mk (some 3) (AK.box 2 (AX.t 1)) none 1 false true), (AOp.mk (some 4) (AK.mv (AX.c (PV.val (Value.bool false)))) none 2 false true)]) (AC.seq (AC.ops [(AOp.mk (some 16) (AK.ld (some 2) (AX.t 2)) none 0 false true), (AOp.mk (some 17) (AK.call 36 [(AX.t 16)]) none 1 false true), (AOp.mk (some 15) (AK.mv (AX.t 17)) none 2 false true), (AOp.mk (some 18) (AK.ext (AX.t 15) 0) none 3 false true), (AOp.mk (some 19) (AK.ext (AX.t 15) 1) none 4 false true), (AOp.mk (some 20) (AK.ext (AX.t 15) 2) none 5 false true), (AOp.mk (some 5) (AK.mv (AX.t 18)) none 6 false true), (AOp.mk (some 6) (AK.mv (AX.t 19)) none 7 false true), (AOp.mk (some 7) (AK.mv (AX.t 20)) none 8 false true)]) (AC.seq (AC.seq (AC.ops [(AOp.mk (some 21) (AK.ld (some 2) (AX.t 2)) none 0 false true), (AOp.mk (some 22) (AK.call 38 [(AX.t 21)]) none 1 false true), (AOp.mk (some 23) (AK.un UnOp.not (AX.t 22)) none 2 false true)]) (AC.cond (AX.t 23) (AC.seq (AC.ops [(AOp.mk (some 24) (AK.mv (AX.t 7)) none 0 false true), (AOp.mk (some 25) (AK.bin false BinOp.eql (AX.t 24) (AX.c (PV.val (Value.int IntKind.i64 70)))) none 1 false true), (AOp.mk (some 26) (AK.mv (AX.t 25)) none 2 false true), (AOp.mk (some 27) (AK.mv (AX.t 5)) (some (26, true)) 3 false true), (AOp.mk (some 28) (AK.mv (AX.t 6)) (some (26, true)) 4 false true), (AOp.mk (some 29) (AK.bin false BinOp.add (AX.t 27) (AX.t 28)) (some (26, true)) 5 false true), (AOp.mk (some 30) (AK.bin false BinOp.eql (AX.t 29) (AX.c (PV.val (Value.int IntKind.i64 0)))) (some (26, true)) 6 false true), (AOp.mk (some 31) (AK.pick (AX.t 26) (AX.t 30) (AX.c (PV.val (Value.bool false)))) none 7 false true), (AOp.mk (some 32) (AK.mv (AX.t 31)) none 8 false true), (AOp.mk (some 33) (AK.call 25 []) (some (32, true)) 9 false true), (AOp.mk (some 34) (AK.pick (AX.t 32) (AX.t 33) (AX.c (PV.val (Value.bool false)))) none 10 false true), (AOp.mk (some 4) (AK.mv (AX.t 34)) none 11 false true)]) AC.ret) AC.skip)) (AC.seq (AC.ops [(AOp.mk (some 8) (AK.mv (AX.c (PV.val (Value.bool false)))) none 0 false true)]) (AC.seq (AC.seq (AC.ops [(AOp.mk (some 9) (AK.mv (AX.c (PV.val (Value.int IntKind.i64 0)))) none 0 false true)]) (AC.block 0 (AC.loop (AC.seq (AC.seq (AC.ops [(AOp.mk (some 35) (AK.mv (AX.t 9)) none 0 false true), (AOp.mk (some 36) (AK.fadr 1 (AX.t 2)) none 1 false true), (AOp.mk (some 37) (AK.ld none (AX.t 36)) none 2 false true), (AOp.mk (some 38) (AK.len (AX.t 37)) none 3 false true), (AOp.mk (some 39) (AK.bin false BinOp.lss (AX.t 35) (AX.t 38)) none 4 false true)]) (AC.cond (AX.t 39) AC.skip (AC.exit 0))) (AC.seq (AC.block 1 (AC.seq (AC.ops [(AOp.mk (some 10) (AK.mv (AX.c (PV.val (Value.int IntKind.i64 0)))) none 0 false true)]) (AC.block 2 (AC.loop (AC.seq (AC.seq (AC.ops [(AOp.mk (some 42) (AK.mv (AX.t 10)) none 0 false true), (AOp.mk (some 43) (AK.fadr 0 (AX.t 2)) none 1 false true), (AOp.mk (some 44) (AK.ld none (AX.t 43)) none 2 false true), (AOp.mk (some 45) (AK.bin false BinOp.lss (AX.t 42) (AX.t 44)) none 3 false true)]) (AC.cond (AX.t 45) AC.skip (AC.exit 2))) (AC.seq (AC.block 3 (AC.ops [(AOp.mk (some 48) (AK.mv (AX.t 8)) none 0 false true), (AOp.mk (some 49) (AK.mv (AX.t 48)) none 1 false true), (AOp.mk (some 50) (AK.fadr 1 (AX.t 2)) (some (49, false)) 2 false true), (AOp.mk (some 51) (AK.ld none (AX.t 50)) (some (49, false)) 3 false true), (AOp.mk (some 52) (AK.mv (AX.t 9)) (some (49, false)) 4 false true), (AOp.mk (some 53) (AK.iadrS 1 (AX.t 51) (AX.t 52)) (some (49, false)) 5 false true), (AOp.mk (some 54) (AK.ld none (AX.t 53)) (some (49, false)) 6 false true), (AOp.mk (some 55) (AK.mv (AX.t 10)) (some (49, false)) 7 false true), (AOp.mk (some 56) (AK.iadrS 1 (AX.t 54) (AX.t 55)) (some (49, false)) 8 false true), (AOp.mk (some 57) (AK.ld none (AX.t 56)) (some (49, false)) 9 false true), (AOp.mk (some 58) (AK.call 48 [(AX.t 57), (AX.c (PV.val (Value.int IntKind.i64 4)))]) (some (49, false)) 10 false true), (AOp.mk (some 59) (AK.len (AX.t 58)) (some (49, false)) 11 false true), (AOp.mk (some 60) (AK.bin false BinOp.gtr (AX.t 59) (AX.c (PV.val (Value.int IntKind.i64 1)))) (some (49, false)) 12 false true), (AOp.mk (some 61) (AK.pick (AX.t 49) (AX.c (PV.val (Value.bool true))) (AX.t 60)) none 13 false true), (AOp.mk (some 8) (AK.mv (AX.t 61)) none 14 false true)])) (AC.ops [(AOp.mk (some 46) (AK.mv (AX.t 10)) none 0 false true), (AOp.mk (some 47) (AK.bin false BinOp.add (AX.t 46) (AX.c (PV.val (Value.int IntKind.i64 1)))) none 1 false true), (AOp.mk (some 10) (AK.mv (AX.t 47)) none 2 false true)]))))))) (AC.ops [(AOp.mk (some 40) (AK.mv (AX.t 9)) none 0 false true), (AOp.mk (some 41) (AK.bin false BinOp.add (AX.t 40) (AX.c (PV.val (Value.int IntKind.i64 1)))) none 1 false true), (AOp.mk (some 9) (AK.mv (AX.t 41)) none 2 false true)])))))) (AC.seq (AC.seq (AC.ops [(AOp.mk (some 62) (AK.mv (AX.t 7)) none 0 false true), (AOp.mk (some 63) (AK.bin false BinOp.eql (AX.t 62) (AX.c (PV.val (Value.int IntKind.i64 0)))) none 1 false true), (AOp.mk (some 64) (AK.mv (AX.t 8)) none 2 false true), (AOp.mk (some 65) (AK.bin true BinOp.neq (AX.t 63) (AX.t 64)) none 3 false true), (AOp.mk (some 66) (AK.mv (AX.t 65)) none 4 false true), (AOp.mk (some 67) (AK.mv (AX.t 7)) (some (66, false)) 5 false true), (AOp.mk (some 68) (AK.bin false BinOp.neq (AX.t 67) (AX.c (PV.val (Value.int IntKind.i64 0)))) (some (66, false)) 6 false true), (AOp.mk (some 69) (AK.mv (AX.t 68)) (some (66, false)) 7 false true), (AOp.mk (some 70) (AK.mv (AX.t 7)) (some (69, true)) 8 false true), (AOp.mk (some 71) (AK.bin false BinOp.neq (AX.t 70) (AX.c (PV.val (Value.int IntKind.i64 4)))) (some (69, true)) 9 false true), (AOp.mk (some 72) (AK.mv (AX.t 71)) (some (69, true)) 10 false true), (AOp.mk (some 73) (AK.mv (AX.t 5)) (some (72, false)) 11 false true), (AOp.mk (some 74) (AK.mv (AX.t 6)) (some (72, false)) 12 false true), (AOp.mk (some 75) (AK.bin false BinOp.add (AX.t 73) (AX.t 74)) (some (72, false)) 13 false true), (AOp.mk (some 76) (AK.bin false BinOp.neq (AX.t 75) (AX.c (PV.val (Value.int IntKind.i64 0)))) (some (72, false)) 14 false true), (AOp.mk (some 77) (AK.pick (AX.t 72) (AX.c (PV.val (Value.bool true))) (AX.t 76)) (some (69, true)) 15 false true), (AOp.mk (some 78) (AK.pick (AX.t 69) (AX.t 77) (AX.c (PV.val (Value.bool false)))) (some (66, false)) 16 false true), (AOp.mk (some 79) (AK.pick (AX.t 66) (AX.c (PV.val (Value.bool true))) (AX.t 78)) none 17 false true), (AOp.mk (some 80) (AK.mv (AX.t 79)) none 18 false true), (AOp.mk (some 81) (AK.mv (AX.t 5)) (some (80, false)) 19 false true), (AOp.mk (some 82) (AK.fadr 1 (AX.t 2)) (some (80, false)) 20 false true), (AOp.mk (some 83) (AK.ld none (AX.t 82)) (some (80, false)) 21 false true), (AOp.mk (some 84) (AK.len (AX.t 83)) (some (80, false)) 22 false true), (AOp.mk (some 85) (AK.bin false BinOp.sub (AX.t 84) (AX.c (PV.val (Value.int IntKind.i64 1)))) (some (80, false)) 23 false true), (AOp.mk (some 86) (AK.call 45 [(AX.t 81), (AX.c (PV.val (Value.int IntKind.i64 0))), (AX.t 85)]) (some (80, false)) 24 false true), (AOp.mk (some 87) (AK.un UnOp.not (AX.t 86)) (some (80, false)) 25 false true), (AOp.mk (some 88) (AK.pick (AX.t 80) (AX.c (PV.val (Value.bool true))) (AX.t 87)) none 26 false true), (AOp.mk (some 89) (AK.mv (AX.t 88)) none 27 false true), (AOp.mk (some 90) (AK.mv (AX.t 6)) (some (89, false)) 28 false true), (AOp.mk (some 91) (AK.fadr 0 (AX.t 2)) (some (89, false)) 29 false true), (AOp.mk (some 92) (AK.ld none (AX.t 91)) (some (89, false)) 30 false true), (AOp.mk (some 93) (AK.bin false BinOp.sub (AX.t 92) (AX.c (PV.val (Value.int IntKind.i64 1)))) (some (89, false)) 31 false true), (AOp.mk (some 94) (AK.call 45 [(AX.t 90), (AX.c (PV.val (Value.int IntKind.i64 0))), (AX.t 93)]) (some (89, false)) 32 false true), (AOp.mk (some 95) (AK.un UnOp.not (AX.t 94)) (some (89, false)) 33 false true), (AOp.mk (some 96) (AK.pick (AX.t 89) (AX.c (PV.val (Value.bool true))) (AX.t 95)) none 34 false true)]) (AC.cond (AX.t 96) (AC.seq (AC.ops [(AOp.mk (some 4) (AK.mv (AX.c (PV.val (Value.bool false)))) none 0 false true)]) AC.ret) AC.skip)) (AC.seq (AC.ops [(AOp.mk (some 97) (AK.iadrA 1 2 (AX.t 3) (AX.c (PV.val (Value.int IntKind.i64 0)))) none 0 true false), (AOp.mk (some 98) (AK.ld none (AX.t 97)) none 1 true false), (AOp.mk (some 99) (AK.fadr 1 (AX.t 2)) none 2 true false), (AOp.mk (some 100) (AK.ld none (AX.t 99)) none 3 true false), (AOp.mk (some 101) (AK.len (AX.t 100)) none 4 true false), (AOp.mk (some 103) (AK.iadrA 1 2 (AX.t 3) (AX.c (PV.val (Value.int IntKind.i64 1)))) none 6 true false), (AOp.mk (some 104) (AK.ld none (AX.t 103)) none 7 true false), (AOp.mk (some 105) (AK.fadr 0 (AX.t 2)) none 8 true false), (AOp.mk (some 106) (AK.ld none (AX.t 105)) none 9 true false), (AOp.mk (some 102) (AK.call 46 [(AX.t 98), (AX.t 101)]) none 5 false false), (AOp.mk (some 107) (AK.call 46 [(AX.t 104), (AX.t 106)]) none 10 false true), (AOp.mk (some 11) (AK.mv (AX.t 102)) none 11 true true), (AOp.mk (some 12) (AK.mv (AX.t 107)) none 12 true true)]) (AC.seq (AC.seq (AC.ops [(AOp.mk (some 108) (AK.mv (AX.t 7)) none 0 false true), (AOp.mk (some 109) (AK.bin false BinOp.neq (AX.t 108) (AX.c (PV.val (Value.int IntKind.i64 0)))) none 1 false true), (AOp.mk (some 110) (AK.mv (AX.t 109)) none 2 false true), (AOp.mk (some 111) (AK.fadr 1 (AX.t 2)) (some (110, false)) 3 false true), (AOp.mk (some 112) (AK.ld none (AX.t 111)) (some (110, false)) 4 false true), (AOp.mk (some 113) (AK.mv (AX.t 11)) (some (110, false)) 5 false true), (AOp.mk (some 114) (AK.iadrS 1 (AX.t 112) (AX.t 113)) (some (110, false)) 6 false true), (AOp.mk (some 115) (AK.ld none (AX.t 114)) (some (110, false)) 7 false true), (AOp.mk (some 116) (AK.mv (AX.t 12)) (some (110, false)) 8 false true), (AOp.mk (some 117) (AK.iadrS 1 (AX.t 115) (AX.t 116)) (some (110, false)) 9 false true), (AOp.mk (some 118) (AK.ld none (AX.t 117)) (some (110, false)) 10 false true), (AOp.mk (some 119) (AK.call 48 [(AX.t 118), (AX.c (PV.val (Value.int IntKind.i64 4)))]) (some (110, false)) 11 false true), (AOp.mk (some 120) (AK.len (AX.t 119)) (some (110, false)) 12 false true), (AOp.mk (some 121) (AK.bin false BinOp.eql (AX.t 120) (AX.c (PV.val (Value.int IntKind.i64 1)))) (some (110, false)) 13 false true), (AOp.mk (some 122) (AK.pick (AX.t 110) (AX.c (PV.val (Value.bool true))) (AX.t 121)) none 14 false true)]) (AC.cond (AX.t 122) (AC.seq (AC.ops [(AOp.mk (some 123) (AK.call 25 []) none 0 false true), (AOp.mk (some 4) (AK.mv (AX.t 123)) none 1 false true)]) AC.ret) AC.skip)) (AC.seq (AC.ops [(AOp.mk (some 124) (AK.ld (some 2) (AX.t 2)) none 0 true false), (AOp.mk (some 125) (AK.mv (AX.t 5)) none 1 true false), (AOp.mk (some 126) (AK.mv (AX.t 6)) none 2 true false), (AOp.mk (some 128) (AK.ld (some 2) (AX.t 2)) none 4 true false), (AOp.mk (some 129) (AK.mv (AX.t 11)) none 5 true false), (AOp.mk (some 130) (AK.mv (AX.t 12)) none 6 true false), (AOp.mk (some 127) (AK.call 54 [(AX.t 124), (AX.t 125), (AX.t 126)]) none 3 false false), (AOp.mk (some 131) (AK.call 54 [(AX.t 128), (AX.t 129), (AX.t 130)]) none 7 false true), (AOp.mk (some 13) (AK.mv (AX.t 127)) none 8 true true), (AOp.mk (some 14) (AK.mv (AX.t 131)) none 9 true true)]) (AC.seq (AC.ops [(AOp.mk (some 132) (AK.fadr 1 (AX.t 2)) none 0 false true), (AOp.mk (some 133) (AK.ld none (AX.t 132)) none 1 false true), (AOp.mk (some 134) (AK.mv (AX.t 5)) none 2 false true), (AOp.mk (some 135) (AK.iadrS 1 (AX.t 133) (AX.t 134)) none 3 false true), (AOp.mk (some 136) (AK.ld none (AX.t 135)) none 4 false true), (AOp.mk (some 137) (AK.mv (AX.t 6)) none 5 false true), (AOp.mk (some 138) (AK.iadrS 1 (AX.t 136) (AX.t 137)) none 6 false true), (AOp.mk (some 139) (AK.ld none (AX.t 138)) none 7 false true), (AOp.mk (some 140) (AK.call 48 [(AX.t 139), (AX.c (PV.val (Value.int IntKind.i64 4)))]) none 8 false true), (AOp.mk (some 141) (AK.len (AX.t 140)) none 9 false true), (AOp.mk (some 142) (AK.bin false BinOp.gtr (AX.t 141) (AX.c (PV.val (Value.int IntKind.i64 1)))) none 10 false true), (AOp.mk (some 143) (AK.mv (AX.t 142)) none 11 false true), (AOp.mk (some 144) (AK.mv (AX.t 13)) (some (143, true)) 12 false true), (AOp.mk (some 145) (AK.bin false BinOp.geq (AX.t 144) (AX.c (PV.val (Value.int IntKind.i64 0)))) (some (143, true)) 13 false true), (AOp.mk (some 146) (AK.pick (AX.t 143) (AX.t 145) (AX.c (PV.val (Value.bool false)))) none 14 false true), (AOp.mk (some 147) (AK.mv (AX.t 146)) none 15 false true), (AOp.mk (some 148) (AK.mv (AX.t 14)) (some (147, true)) 16 false true), (AOp.mk (some 149) (AK.bin false BinOp.geq (AX.t 148) (AX.c (PV.val (Value.int IntKind.i64 0)))) (some (147, true)) 17 false true), (AOp.mk (some 150) (AK.pick (AX.t 147) (AX.t 149) (AX.c (PV.val (Value.bool false)))) none 18 false true), (AOp.mk (some 151) (AK.mv (AX.t 150)) none 19 false true), (AOp.mk (some 152) (AK.mv (AX.t 13)) (some (151, true)) 20 false true), (AOp.mk (some 153) (AK.mv (AX.t 14)) (some (151, true)) 21 false true), (AOp.mk (some 154) (AK.bin false BinOp.lss (AX.t 152) (AX.t 153)) (some (151, true)) 22 false true), (AOp.mk (some 155) (AK.mv (AX.t 154)) (some (151, true)) 23 false true), (AOp.mk (some 156) (AK.mv (AX.t 13)) (some (155, false)) 24 false true), (AOp.mk (some 157) (AK.mv (AX.t 14)) (some (155, false)) 25 false true), (AOp.mk (some 158) (AK.bin false BinOp.eql (AX.t 156) (AX.t 157)) (some (155, false)) 26 false true), (AOp.mk (some 159) (AK.mv (AX.t 158)) (some (155, false)) 27 false true), (AOp.mk (some 160) (AK.mv (AX.t 5)) (some (159, true)) 28 false true), (AOp.mk (some 161) (AK.mv (AX.t 11)) (some (159, true)) 29 false true), (AOp.mk (some 162) (AK.bin false BinOp.lss (AX.t 160) (AX.t 161)) (some (159, true)) 30 false true), (AOp.mk (some 163) (AK.mv (AX.t 162)) (some (159, true)) 31 false true), (AOp.mk (some 164) (AK.mv (AX.t 5)) (some (163, false)) 32 false true), (AOp.mk (some 165) (AK.mv (AX.t 11)) (some (163, false)) 33 false true), (AOp.mk (some 166) (AK.bin false BinOp.eql (AX.t 164) (AX.t 165)) (some (163, false)) 34 false true), (AOp.mk (some 167) (AK.mv (AX.t 166)) (some (163, false)) 35 false true), (AOp.mk (some 168) (AK.mv (AX.t 6)) (some (167, true)) 36 false true), (AOp.mk (some 169) (AK.mv (AX.t 12)) (some (167, true)) 37 false true), (AOp.mk (some 170) (AK.bin false BinOp.leq (AX.t 168) (AX.t 169)) (some (167, true)) 38 false true), (AOp.mk (some 171) (AK.pick (AX.t 167) (AX.t 170) (AX.c (PV.val (Value.bool false)))) (some (163, false)) 39 false true), (AOp.mk (some 172) (AK.pick (AX.t 163) (AX.c (PV.val (Value.bool true))) (AX.t 171)) (some (159, true)) 40 false true), (AOp.mk (some 173) (AK.pick (AX.t 159) (AX.t 172) (AX.c (PV.val (Value.bool false)))) (some (155, false)) 41 false true), (AOp.mk (some 174) (AK.pick (AX.t 155) (AX.c (PV.val (Value.bool true))) (AX.t 173)) (some (151, true)) 42 false true), (AOp.mk (some 175) (AK.pick (AX.t 151) (AX.t 174) (AX.c (PV.val (Value.bool false)))) none 43 false true), (AOp.mk (some 176) (AK.mv (AX.t 175)) none 44 false true), (AOp.mk (some 177) (AK.call 25 []) (some (176, true)) 45 false true), (AOp.mk (some 178) (AK.pick (AX.t 176) (AX.t 177) (AX.c (PV.val (Value.bool false)))) none 46 false true), (AOp.mk (some 4) (AK.mv (AX.t 178)) none 47 false true)]) AC.ret))))))))))
theorem ac13_ok : cCode Try.prog (fun _ => false) Try.f13.ntmps (Try.f13.body.getD .skip) = some ac13 := by kernel_rfl
theorem more_tab : ∀ i : Fin 15, openB ((i.val : Int) + 1) = decide (1 < (listI ((i.val : Int) + 1) 4).length) := by decide
theorem open_more {b : DBook} (ho : okBook b) {h p : Nat} (hh : h < b.horses.length) (hp : p < nR b) : decide (1 < ((listI (hsI b h p) 4).length : Int)) = openB (hsI b h p) := by
  obtain ⟨i, hi⟩ := setB_cases (hs_set ho hh hp)
  rw [hi, more_tab, decide_eq_decide]
  omega
theorem worst_fold (b : DBook) (h p : Nat) : ∀ (l : List Nat) (m : Int), 0 ≤ m → 0 ≤ l.foldl (fun m s => maxI true m (clashI (knowB b h p s))) m
  | [], _, hm => hm
  | s :: l, m, hm => by
    refine worst_fold b h p l _ ?_
    unfold maxI
    simp only [if_true]
    split <;> omega
theorem worst_nn (b : DBook) (h p : Nat) : 0 ≤ worstI b h p := worst_fold b h p _ 0 (by omega)
set_option maxRecDepth 100000 in
set_option maxHeartbeats 2000000 in
theorem Look_law (k : SK) (b : DBook) (n m : Int) : Sem1 13 [.agg (bookC k b), .agg [pi n, pi m]] (pb true) := by
  by_cases ho : okBook b
  rotate_left
  · have hL : Sem1 36 [.agg (bookC k b)] (.tup [pi 0, pi 0, pi 70]) := (Look_sem k b).mono fun _ e => e.trans (by unfold lookR; rw [if_neg ho])
    refine semC_of_exec' mixed Try.func13 (by kernel_rfl) (by kernel_rfl) ac13_ok 2 rfl (by decide) [(.tmp 4)] (by kernel_rfl) ?_
    intro hr C hC hI
    unfold ac13
    simp only [go_sem, Nat.reduceBEq, Nat.reduceAdd]
    refine call_pure2 hC (hL) rfl (PVleL_refl _) ?_
    rintro r rfl
    simp only [go_sem, Nat.reduceBEq, Nat.reduceAdd]
    refine call_pure2 hC (sound_sem k b) rfl (PVleL_refl _) ?_
    rintro r rfl
    simp only [go_sem, Nat.reduceBEq, decide_true, show IntKind.i64.wrap (0 + 0) = 0 from rfl]
    refine ⟨fun _ => ?_, fun h => absurd h ho⟩
    refine call_pure2 hC (pressed_sem) rfl (PVleL_refl _) ?_
    rintro r rfl
    simp only [go_sem, Nat.reduceBEq]
    exact retQ_one rfl rfl
  obtain ⟨h1, h8, hn⟩ := okR ho
  have h6 := ho.2.1
  have hAk := anyO_known ho
  obtain ⟨h, p, e, hL, hh, hp, hcase⟩ : ∃ (h p : Nat) (e : Int), Sem1 36 [.agg (bookC k b)] (.tup [pi h, pi p, pi e]) ∧ h < b.horses.length ∧ p < nR b ∧ ((e = 4 ∧ h = 0 ∧ p = 0 ∧ anyO b b.horses.length = false) ∨
      (e = 0 ∧ anyO b b.horses.length = true ∧ openB (hsI b h p) = true ∧ ∀ i k, i < b.horses.length → k < nR b → openB (hsI b i k) = true → worstI b h p < worstI b i k ∨ worstI b h p = worstI b i k ∧ (h < i ∨ h = i ∧ p ≤ k))) := by
    have hL := Look_sem k b
    unfold lookR at hL
    rw [if_pos ho] at hL
    cases hk : knownB b
    · rw [hk] at hL hAk
      obtain ⟨h, p, el, hh, hp, hop, hmin⟩ := look_facts ho hk
      rw [el, if_neg (by decide)] at hL
      exact ⟨h, p, 0, hL, hh, hp, .inr ⟨rfl, hAk, hop, hmin⟩⟩
    · rw [hk, if_pos rfl] at hL
      rw [hk] at hAk
      exact ⟨0, 0, 4, hL, by omega, by omega, .inl ⟨rfl, rfl, rfl, hAk⟩⟩
  obtain ⟨i, ei, hi⟩ : ∃ i : Nat, rndI n b.horses.length = i ∧ i < b.horses.length := by
    have := rndI_range (n := n) (m := b.horses.length) (by omega)
    exact ⟨(rndI n b.horses.length).toNat, by omega, by omega⟩
  obtain ⟨j, ej, hj⟩ := rnd_turn ho m
  have w1 : IntKind.i64.wrap ((b.horses.length : Int) - 1) = (b.horses.length : Int) - 1 := wrap_id (by omega) (by omega)
  have w2 : IntKind.i64.wrap (b.round - 1) = b.round - 1 := wrap_id (by omega) (by omega)
  have eh := iadr_map (f := fun h => [pis h]) (kd := k) (sz := 1) hh
  obtain ⟨hl1, hv1⟩ := hs_get ho hh hp
  have eii := iadr_map (f := fun h => [pis h]) (kd := k) (sz := 1) hi
  obtain ⟨hl2, hv2⟩ := hs_get ho hi hj
  have hm1 := open_more ho hh hp
  have hk2 := known_one ho hi hj
  refine semC_of_exec' mixed Try.func13 (by kernel_rfl) (by kernel_rfl) ac13_ok 2 rfl (by decide) [(.tmp 4)] (by kernel_rfl) ?_
  intro hr C hC hI
  unfold ac13
  simp only [go_sem, Nat.reduceBEq, Nat.reduceAdd]
  refine call_pure2 hC (hL) rfl (PVleL_refl _) ?_
  rintro r rfl
  simp only [go_sem, Nat.reduceBEq, Nat.reduceAdd]
  refine call_pure2 hC (sound_sem k b) rfl (PVleL_refl _) ?_
  rintro r rfl
  simp only [go_sem, Nat.reduceBEq]
  refine ⟨fun h => absurd ho h, fun _ => ?_⟩
  refine loop_k b.horses.length (fun _ => True) [2, 3, 5, 6, 7] (fun i => [(8, .p (pb (anyO b i))), (9, .p (pi i))]) trivial rfl ⟨rfl, by simp, by simp⟩ (by simp [anyO, wkT, look, AV.lo]) ?_
  rintro x ⟨hx, -⟩
  simp only [go_sem, Nat.reduceBEq, List.length_map]
  refine ⟨fun h5 => ?_, fun h5 => ?_⟩
  · have hx2 : x < b.horses.length := by omega
    have hnx := anyO_next b x
    refine loop_k (nR b) (fun _ => True) [2, 3, 5, 6, 7, 9] (fun q => [(8, .p (pb (anyO b x || rowO b x q))), (10, .p (pi q))]) trivial rfl ⟨rfl, by simp, by simp⟩ (by simp [rowO, wkT, look, AV.lo]) ?_
    rintro q ⟨hq, -⟩
    simp only [go_sem, Nat.reduceBEq, List.length_map]
    refine ⟨fun h7 => ?_, fun h7 => ?_⟩
    · have hq2 : q < nR b := by omega
      have hrn := rowO_next b x q
      have hmx := open_more ho hx2 hq2
      have exx := iadr_map (f := fun h => [pis h]) (kd := k) (sz := 1) hx2
      obtain ⟨hl3, hv3⟩ := hs_get ho hx2 hq2
      cases hS : (anyO b x || rowO b x q)
      · simp only [go_sem, Nat.reduceBEq, exx, iadr_pis hl3, hv3]
        refine call_pure2 hC (List_sem (hsI b x q) 4 (by omega)) rfl (PVleL_refl _) ?_
        rintro r rfl
        simp only [go_sem, Nat.reduceBEq, List.length_map, hmx, wrap_succ (k := q) (by omega)]
        refine ⟨⟨q + 1, hq2, trivial⟩, by simp only; omega, ?_⟩
        simp only [hrn, ← Bool.or_assoc, hS, Bool.false_or]
        exact by simp [Wk, wkT, wkL, look, AV.lo, AV.lo.loL, ABlk.toZ]
      · simp only [go_sem, Nat.reduceBEq, wrap_succ (k := q) (by omega)]
        refine ⟨⟨q + 1, hq2, trivial⟩, by simp only; omega, ?_⟩
        simp only [hrn, ← Bool.or_assoc, hS, Bool.true_or]
        exact by simp [Wk, wkT, wkL, look, AV.lo, AV.lo.loL, ABlk.toZ]
    · have hqn : q = nR b := by omega
      subst hqn
      simp only [go_sem, wrap_succ (k := x) (by omega)]
      refine ⟨⟨x + 1, hx2, trivial⟩, by simp only; omega, ?_⟩
      simp only [hnx]
      exact by simp [Wk, wkT, wkL, look, AV.lo, AV.lo.loL, ABlk.toZ]
  · have hxn : x = b.horses.length := by omega
    subst hxn
    have hin1 : decide ((0 : Int) ≤ h ∧ (h : Int) ≤ (b.horses.length : Int) - 1) = true := decide_eq_true (by omega)
    have hin2 : decide ((0 : Int) ≤ p ∧ (p : Int) ≤ b.round - 1) = true := decide_eq_true (by omega)
    rcases hcase with ⟨rfl, rfl, rfl, hA⟩ | ⟨rfl, hA, hop, hmin⟩
    · simp only [go_sem, hA, decide_true, decide_false, not_true_eq_false, not_false_eq_true, false_implies, true_implies, Int.reduceEq, show IntKind.i64.wrap (((0 : Nat) : Int) + ((0 : Nat) : Int)) = 0 from rfl, w1]
      refine call_pure2 hC (In_sem ..) rfl (PVleL_refl _) ?_
      rintro r rfl
      simp only [go_sem, Nat.reduceBEq, hin1, w2]
      refine call_pure2 hC (In_sem ..) rfl (PVleL_refl _) ?_
      rintro r rfl
      simp only [go_sem, Nat.reduceBEq, hin2, Bool.false_eq_true, List.length_map]
      refine call_pure2 hC (Round_sem n b.horses.length) rfl (PVleL_refl _) ?_
      rintro r rfl
      simp only [go_sem, Nat.reduceBEq, ei]
      refine call_pure2 hC (Round_sem m b.round) rfl (PVleL_refl _) ?_
      rintro r rfl
      simp only [go_sem, Nat.reduceBEq, ej, decide_true, not_false_eq_true, Int.reduceEq]
      refine call_pure2 hC (pressed_sem) rfl (PVleL_refl _) ?_
      rintro r rfl
      simp only [go_sem, Nat.reduceBEq]
      exact retQ_one rfl rfl
    · simp only [go_sem, hA, decide_true, decide_false, not_true_eq_false, not_false_eq_true, false_implies, true_implies, Int.reduceEq, w1]
      refine call_pure2 hC (In_sem ..) rfl (PVleL_refl _) ?_
      rintro r rfl
      simp only [go_sem, Nat.reduceBEq, hin1, w2]
      refine call_pure2 hC (In_sem ..) rfl (PVleL_refl _) ?_
      rintro r rfl
      simp only [go_sem, Nat.reduceBEq, hin2, Bool.false_eq_true, List.length_map]
      refine call_pure2 hC (Round_sem n b.horses.length) rfl (PVleL_refl _) ?_
      rintro r rfl
      simp only [go_sem, Nat.reduceBEq, ei]
      refine call_pure2 hC (Round_sem m b.round) rfl (PVleL_refl _) ?_
      rintro r rfl
      simp only [go_sem, Nat.reduceBEq, ej, eii, iadr_pis hl2, hv2, decide_false, not_true_eq_false]
      refine call_pure2 hC (List_sem (hsI b i j) 4 (by omega)) rfl (PVleL_refl _) ?_
      rintro r rfl
      simp only [go_sem, Nat.reduceBEq, List.length_map, hk2]
      cases hij : openB (hsI b i j)
      · simp only [go_sem, Bool.not_false]
        refine call_pure2 hC (pressed_sem) rfl (PVleL_refl _) ?_
        rintro r rfl
        simp only [go_sem, Nat.reduceBEq]
        exact retQ_one rfl rfl
      · have hmn := hmin i j hi hj hij
        simp only [go_sem, Nat.reduceBEq, Nat.reduceAdd, Bool.not_true, Bool.false_eq_true]
        refine call_pure2 hC (worst2_sem k ho hh hp) rfl (PVleL_refl _) ?_
        rintro r rfl
        simp only [go_sem, Nat.reduceBEq]
        refine call_pure2 hC (worst2_sem k ho hi hj) rfl (PVleL_refl _) ?_
        rintro r rfl
        simp only [go_sem, Nat.reduceBEq, eh, iadr_pis hl1, hv1]
        refine call_pure2 hC (List_sem (hsI b h p) 4 (by omega)) rfl (PVleL_refl _) ?_
        rintro r rfl
        simp only [go_sem, Nat.reduceBEq, List.length_map, hm1, hop]
        have hx1 := worst_nn b h p
        have hx2 := worst_nn b i j
        repeat' (first | (exfalso; omega) | (guard_target =~ _ ∧ _; refine ⟨fun _ => ?_, fun _ => ?_⟩))
        all_goals (
          refine call_pure2 hC (pressed_sem) rfl (PVleL_refl _) ?_
          rintro r rfl
          simp only [go_sem, Nat.reduceBEq]
          exact retQ_one rfl rfl
        )
set_option maxRecDepth 100000 in
theorem Look_row {l0 l1 : List PV} (T0 : Ty Try.prog 10 24 l0) (T1 : Ty Try.prog 10 25 l1) : SemC Try.prog 13 [argPV Try.prog 24 l0, argPV Try.prog 25 l1] (fun r => r = pb true) := by
  obtain ⟨b, rfl⟩ := ty_book T0
  obtain ⟨n0, n1, rfl⟩ := ty_two T1
  rw [argStruct Try.underlying24, argArray Try.underlying25]
  exact Look_law .sh b n0 n1
end Go.Proofs.Ythibnlfbdbidjaa
