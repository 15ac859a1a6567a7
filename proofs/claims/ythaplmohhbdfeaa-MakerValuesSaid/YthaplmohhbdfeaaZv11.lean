/- MakerValues Values and Told return what the reference says; for every book and all numbers; no condition. Law: MakerValues. Contracts of the reference of maker: two makers. -/
import Derived.Test.YthaplmohhbdfeaaZv10
import Derived.Test.YthaplmohhbdfeaaGa16
namespace Go.Proofs.Ythaplmohhbdfeaa.Mk
open Go.RowKit Ls
def ac123 : AC := (AC.seq (AC.ops [(AOp.mk (some 2) (AK.box 4 (AX.t 0)) none 0 false true), (AOp.mk (some 4) (AK.new (PV.agg [(PV.sl SK.full 0 []), (PV.sl SK.full 0 []), (PV.val (Value.int IntKind.i64 0)), (PV.val (Value.int IntKind.i64 0))])) none 1 false true)]) (AC.seq (AC.ops [(AOp.mk (some 7) (AK.ld (some 4) (AX.t 2)) none 0 false true), (AOp.mk (some 5) (AK.new (PV.agg [(PV.sl SK.full 0 []), (PV.sl SK.full 0 []), (PV.val (Value.int IntKind.i64 0)), (PV.val (Value.int IntKind.i64 0))])) none 1 false true), (AOp.mk none (AK.st 4 (AX.t 5) (AX.t 7)) none 2 false true)]) (AC.seq (AC.ops [(AOp.mk (some 8) (AK.fadr 1 (AX.t 5)) none 0 false true), (AOp.mk none (AK.st 1 (AX.t 8) (AX.c (PV.sl SK.full 0 []))) none 1 false true)]) (AC.seq (AC.seq (AC.ops [(AOp.mk (some 6) (AK.mv (AX.c (PV.val (Value.int IntKind.i64 0)))) none 0 false true)]) (AC.block 0 (AC.loop (AC.seq (AC.seq (AC.ops [(AOp.mk (some 9) (AK.mv (AX.t 6)) none 0 false true), (AOp.mk (some 10) (AK.mv (AX.t 1)) none 1 false true), (AOp.mk (some 11) (AK.len (AX.t 10)) none 2 false true), (AOp.mk (some 12) (AK.bin false BinOp.lss (AX.t 9) (AX.t 11)) none 3 false true)]) (AC.cond (AX.t 12) AC.skip (AC.exit 0))) (AC.seq (AC.block 1 (AC.ops [(AOp.mk (some 15) (AK.fadr 1 (AX.t 5)) none 0 true false), (AOp.mk (some 16) (AK.ld none (AX.t 15)) none 1 true false), (AOp.mk (some 17) (AK.mv (AX.t 6)) none 2 true false), (AOp.mk (some 18) (AK.mv (AX.t 1)) none 3 true false), (AOp.mk (some 19) (AK.mv (AX.t 6)) none 4 true false), (AOp.mk (some 20) (AK.iadrS 1 (AX.t 18) (AX.t 19)) none 5 true false), (AOp.mk (some 21) (AK.ld none (AX.t 20)) none 6 true false), (AOp.mk (some 22) (AK.bin false BinOp.shl (AX.c (PV.val (Value.int IntKind.i64 1))) (AX.t 21)) none 7 true false), (AOp.mk (some 23) (AK.build [(PV.val (Value.int IntKind.i64 0)), (PV.val (Value.int IntKind.i64 0))] [(0, (1, (AX.t 17))), (1, (1, (AX.t 22)))]) none 8 true false), (AOp.mk (some 24) (AK.bslice false 59 2 1 [(PV.val (Value.int IntKind.i64 0)), (PV.val (Value.int IntKind.i64 0))] [(0, (2, (AX.t 23)))]) none 9 false false), (AOp.mk (some 25) (AK.app false 59 2 16 [(PV.val (Value.int IntKind.i64 0)), (PV.val (Value.int IntKind.i64 0))] (AX.t 16) (AX.t 24)) none 10 false true), (AOp.mk (some 26) (AK.fadr 1 (AX.t 5)) none 11 true true), (AOp.mk none (AK.st 1 (AX.t 26) (AX.t 25)) none 12 false true)])) (AC.ops [(AOp.mk (some 13) (AK.mv (AX.t 6)) none 0 false true), (AOp.mk (some 14) (AK.bin false BinOp.add (AX.t 13) (AX.c (PV.val (Value.int IntKind.i64 1)))) none 1 false true), (AOp.mk (some 6) (AK.mv (AX.t 14)) none 2 false true)])))))) (AC.seq (AC.ops [(AOp.mk (some 27) (AK.ld (some 4) (AX.t 5)) none 0 false true), (AOp.mk none (AK.st 4 (AX.t 4) (AX.t 27)) none 1 false true)]) AC.ret)))))
theorem ac123_ok : cCode Try.prog (fun _ => false) Try.f123.ntmps (Try.f123.body.getD .skip) = some ac123 := by kernel_rfl
def ac84 : AC := (AC.seq (AC.ops [(AOp.mk (some 4) (AK.box 4 (AX.t 0)) none 0 false true), (AOp.mk (some 8) (AK.mv (AX.c (PV.val (Value.bool false)))) none 1 false true)]) (AC.seq (AC.seq (AC.ops [(AOp.mk (some 12) (AK.mv (AX.t 3)) none 0 false true), (AOp.mk (some 13) (AK.len (AX.t 12)) none 1 false true), (AOp.mk (some 14) (AK.ld (some 4) (AX.t 4)) none 2 false true), (AOp.mk (some 15) (AK.call 67 [(AX.t 14)]) none 3 false true), (AOp.mk (some 16) (AK.bin false BinOp.eql (AX.t 13) (AX.t 15)) none 4 false true)]) (AC.cond (AX.t 16) (AC.seq (AC.ops [(AOp.mk (some 17) (AK.ld (some 4) (AX.t 4)) none 0 false true), (AOp.mk (some 18) (AK.mv (AX.t 3)) none 1 false true), (AOp.mk (some 19) (AK.call 123 [(AX.t 17), (AX.t 18)]) none 2 false true), (AOp.mk (some 9) (AK.new (PV.agg [(PV.sl SK.full 0 []), (PV.sl SK.full 0 []), (PV.val (Value.int IntKind.i64 0)), (PV.val (Value.int IntKind.i64 0))])) none 3 false true), (AOp.mk none (AK.st 4 (AX.t 9) (AX.t 19)) none 4 false true)]) (AC.seq (AC.ops [(AOp.mk (some 20) (AK.ld (some 4) (AX.t 9)) none 0 false true), (AOp.mk (some 21) (AK.mv (AX.t 1)) none 1 false true), (AOp.mk (some 22) (AK.call 76 [(AX.t 20), (AX.t 21)]) none 2 false true), (AOp.mk (some 23) (AK.mv (AX.t 22)) none 3 false true), (AOp.mk (some 24) (AK.ld (some 4) (AX.t 9)) (some (23, true)) 4 false true), (AOp.mk (some 25) (AK.mv (AX.t 2)) (some (23, true)) 5 false true), (AOp.mk (some 26) (AK.call 76 [(AX.t 24), (AX.t 25)]) (some (23, true)) 6 false true), (AOp.mk (some 27) (AK.pick (AX.t 23) (AX.t 26) (AX.c (PV.val (Value.bool false)))) none 7 false true), (AOp.mk (some 8) (AK.mv (AX.t 27)) none 8 false true)]) AC.ret)) AC.skip)) (AC.seq (AC.seq (AC.ops [(AOp.mk (some 10) (AK.mv (AX.c (PV.val (Value.int IntKind.i64 0)))) none 0 false true)]) (AC.block 0 (AC.loop (AC.seq (AC.seq (AC.ops [(AOp.mk (some 28) (AK.mv (AX.t 10)) none 0 false true), (AOp.mk (some 29) (AK.bin false BinOp.lss (AX.t 28) (AX.c (PV.val (Value.int IntKind.i64 5)))) none 1 false true)]) (AC.cond (AX.t 29) AC.skip (AC.exit 0))) (AC.seq (AC.block 1 (AC.seq (AC.ops [(AOp.mk (some 32) (AK.fadr 0 (AX.t 4)) none 0 true false), (AOp.mk (some 33) (AK.ld none (AX.t 32)) none 1 true false), (AOp.mk (some 34) (AK.mv (AX.t 1)) none 2 true false), (AOp.mk (some 35) (AK.iadrS 1 (AX.t 33) (AX.t 34)) none 3 true false), (AOp.mk (some 36) (AK.ld none (AX.t 35)) none 4 true false), (AOp.mk (some 37) (AK.mv (AX.t 3)) none 5 true false), (AOp.mk (some 38) (AK.len (AX.t 37)) none 6 true false), (AOp.mk (some 39) (AK.iadrS 1 (AX.t 36) (AX.t 38)) none 7 true false), (AOp.mk (some 40) (AK.ld none (AX.t 39)) none 8 true false), (AOp.mk (some 41) (AK.fadr 0 (AX.t 4)) none 9 true false), (AOp.mk (some 42) (AK.ld none (AX.t 41)) none 10 true false), (AOp.mk (some 43) (AK.mv (AX.t 2)) none 11 true false), (AOp.mk (some 44) (AK.iadrS 1 (AX.t 42) (AX.t 43)) none 12 true false), (AOp.mk (some 45) (AK.ld none (AX.t 44)) none 13 true false), (AOp.mk (some 46) (AK.mv (AX.t 3)) none 14 true false), (AOp.mk (some 47) (AK.len (AX.t 46)) none 15 true false), (AOp.mk (some 48) (AK.iadrS 1 (AX.t 45) (AX.t 47)) none 16 true false), (AOp.mk (some 49) (AK.ld none (AX.t 48)) none 17 true false), (AOp.mk (some 50) (AK.bin false BinOp.or (AX.t 40) (AX.t 49)) none 18 true true), (AOp.mk (some 11) (AK.mv (AX.t 50)) none 19 true true)]) (AC.seq (AC.ops [(AOp.mk (some 51) (AK.mv (AX.t 11)) none 0 true true), (AOp.mk (some 52) (AK.mv (AX.t 10)) none 1 true true), (AOp.mk (some 53) (AK.call 44 [(AX.t 51), (AX.t 52)]) none 2 false true), (AOp.mk (some 54) (AK.mv (AX.t 53)) none 3 true true), (AOp.mk (some 55) (AK.ld (some 4) (AX.t 4)) (some (54, true)) 4 true false), (AOp.mk (some 56) (AK.mv (AX.t 1)) (some (54, true)) 5 true false), (AOp.mk (some 57) (AK.mv (AX.t 2)) (some (54, true)) 6 true false), (AOp.mk (some 58) (AK.mv (AX.t 3)) (some (54, true)) 7 true false), (AOp.mk (some 59) (AK.mv (AX.t 10)) (some (54, true)) 8 true false), (AOp.mk (some 60) (AK.call 124 [(AX.t 58), (AX.t 59)]) (some (54, true)) 9 false false), (AOp.mk (some 61) (AK.call 84 [(AX.t 55), (AX.t 56), (AX.t 57), (AX.t 60)]) (some (54, true)) 10 false true), (AOp.mk (some 62) (AK.pick (AX.t 54) (AX.t 61) (AX.c (PV.val (Value.bool false)))) none 11 true true)]) (AC.cond (AX.t 62) (AC.seq (AC.ops [(AOp.mk (some 8) (AK.mv (AX.c (PV.val (Value.bool true)))) none 0 false true)]) AC.ret) AC.skip)))) (AC.ops [(AOp.mk (some 30) (AK.mv (AX.t 10)) none 0 false true), (AOp.mk (some 31) (AK.bin false BinOp.add (AX.t 30) (AX.c (PV.val (Value.int IntKind.i64 1)))) none 1 false true), (AOp.mk (some 10) (AK.mv (AX.t 31)) none 2 false true)])))))) (AC.seq (AC.ops [(AOp.mk (some 8) (AK.mv (AX.c (PV.val (Value.bool false)))) none 0 false true)]) AC.ret))))
theorem ac84_ok : cCode Try.prog (fun _ => false) Try.f84.ntmps (Try.f84.body.getD .skip) = some ac84 := by kernel_rfl
def ac31 : AC := (AC.seq (AC.ops [(AOp.mk (some 3) (AK.box 4 (AX.t 0)) none 0 false true), (AOp.mk (some 6) (AK.mv (AX.c (PV.val (Value.bool false)))) none 1 false true), (AOp.mk (some 7) (AK.mv (AX.c (PV.val (Value.int IntKind.i64 0)))) none 2 false true)]) (AC.seq (AC.seq (AC.ops [(AOp.mk (some 9) (AK.ld (some 4) (AX.t 3)) none 0 false true), (AOp.mk (some 10) (AK.call 19 [(AX.t 9)]) none 1 false true), (AOp.mk (some 8) (AK.mv (AX.t 10)) none 2 false true)]) (AC.seq (AC.ops [(AOp.mk (some 11) (AK.mv (AX.t 8)) none 0 false true), (AOp.mk (some 12) (AK.bin false BinOp.neq (AX.t 11) (AX.c (PV.val (Value.int IntKind.i64 0)))) none 1 false true)]) (AC.cond (AX.t 12) (AC.seq (AC.ops [(AOp.mk (some 13) (AK.mv (AX.t 8)) none 0 false true), (AOp.mk (some 6) (AK.mv (AX.c (PV.val (Value.bool false)))) none 1 false true), (AOp.mk (some 7) (AK.mv (AX.t 13)) none 2 false true)]) AC.ret) AC.skip))) (AC.seq (AC.seq (AC.ops [(AOp.mk (some 14) (AK.ld (some 4) (AX.t 3)) none 0 false true), (AOp.mk (some 15) (AK.mv (AX.t 1)) none 1 false true), (AOp.mk (some 16) (AK.call 75 [(AX.t 14), (AX.t 15)]) none 2 false true), (AOp.mk (some 17) (AK.un UnOp.not (AX.t 16)) none 3 false true), (AOp.mk (some 18) (AK.mv (AX.t 17)) none 4 false true), (AOp.mk (some 19) (AK.ld (some 4) (AX.t 3)) (some (18, false)) 5 false true), (AOp.mk (some 20) (AK.mv (AX.t 2)) (some (18, false)) 6 false true), (AOp.mk (some 21) (AK.call 75 [(AX.t 19), (AX.t 20)]) (some (18, false)) 7 false true), (AOp.mk (some 22) (AK.un UnOp.not (AX.t 21)) (some (18, false)) 8 false true), (AOp.mk (some 23) (AK.pick (AX.t 18) (AX.c (PV.val (Value.bool true))) (AX.t 22)) none 9 false true), (AOp.mk (some 24) (AK.mv (AX.t 23)) none 10 false true), (AOp.mk (some 25) (AK.mv (AX.t 1)) (some (24, false)) 11 false true), (AOp.mk (some 26) (AK.mv (AX.t 2)) (some (24, false)) 12 false true), (AOp.mk (some 27) (AK.bin false BinOp.eql (AX.t 25) (AX.t 26)) (some (24, false)) 13 false true), (AOp.mk (some 28) (AK.pick (AX.t 24) (AX.c (PV.val (Value.bool true))) (AX.t 27)) none 14 false true)]) (AC.cond (AX.t 28) (AC.seq (AC.ops [(AOp.mk (some 6) (AK.mv (AX.c (PV.val (Value.bool false)))) none 0 false true), (AOp.mk (some 7) (AK.mv (AX.c (PV.val (Value.int IntKind.i64 51)))) none 1 false true)]) AC.ret) AC.skip)) (AC.seq (AC.ops [(AOp.mk (some 29) (AK.ld (some 4) (AX.t 3)) none 0 false true), (AOp.mk (some 30) (AK.mv (AX.t 1)) none 1 false true), (AOp.mk (some 31) (AK.mv (AX.t 2)) none 2 false true), (AOp.mk (some 32) (AK.bslice false 3 1 0 [(PV.val (Value.int IntKind.i64 0))] []) none 3 false true), (AOp.mk (some 33) (AK.call 84 [(AX.t 29), (AX.t 30), (AX.t 31), (AX.t 32)]) none 4 false true), (AOp.mk (some 34) (AK.un UnOp.not (AX.t 33)) none 5 false true), (AOp.mk (some 6) (AK.mv (AX.t 34)) none 6 false true), (AOp.mk (some 7) (AK.mv (AX.c (PV.val (Value.int IntKind.i64 0)))) none 7 false true)]) AC.ret))))
theorem ac31_ok : cCode Try.prog (fun _ => false) Try.f31.ntmps (Try.f31.body.getD .skip) = some ac31 := by kernel_rfl
theorem rexact_sem (k k2 : SK) (b : MBook) {l : List Int} (hf : fiveL l) (hl : l.length ≤ 1000) : Sem1 123 [.agg (bookC k k2 b), pis l] (.agg (bookC k .sh (exactB b l))) := by
  refine semC_of_exec' mixed Try.func123 (by kernel_rfl) (by kernel_rfl) ac123_ok 2 rfl (by decide) [(.cell 4 25)] (by kernel_rfl) ?_
  intro hr C hC hI
  unfold ac123
  simp only [go_sem, Nat.reduceBEq, Nat.reduceAdd, Nat.reduceLeDiff, putCells]
  refine loop_g (α := Nat × Option Nat) (fun a => a.1 ≤ l.length ∧ (a.2 = none → seenC (exL l a.1) = [])) (fun a => l.length - a.1) [1, 4, 5] (fun a => [(6, .p (pi a.1))]) (fun a => [.cells ((bookC k k2 b).map .p), .cells [.p (.sl .full 0 []), .p (.sl .full 0 []), .p (pi 0), .p (pi 0)], .cells [.p (.sl k 1 (rowsC b.makers)), .p (slZ 59 2 a.2 (seenC (exL l a.1))), .p (pi b.repairs), .p (pi b.fixed)]]) (fun a => a.2.toList) (0, none) ⟨by omega, fun _ => by simp [exL]⟩ (by simp [Wk, wkT, wkL, look, AV.lo, AV.lo.loL, upS_eq, keepS_nil, keepS_cons, slZ]) ?_
  rintro ⟨j, o⟩ ⟨hj, h0⟩
  replace hj : j ≤ l.length := hj
  replace h0 : o = none → seenC (exL l j) = [] := h0
  simp only [go_sem, Nat.reduceBEq, Nat.reduceAdd, List.length_map]
  refine ⟨fun h5 => ?_, fun h5 => ?_⟩
  · have hj2 : j < l.length := by omega
    have h9 := ex_five hf j
    have hnx2 : seenC (exL l (j + 1)) = seenC (exL l j) ++ [[pi j, pi ((2 ^ exV l j : Nat) : Int)]] := by
      rw [exL_next]
      have : (2 : Int) ^ exV l j = ((2 ^ exV l j : Nat) : Int) := by norm_cast
      rw [this]
      simp [seenC]
    have hel := exL_len l j
    simp only [go_sem, Nat.reduceBEq, Nat.reduceAdd, Nat.reduceLeDiff, iadr_pis hj2, exV_get hf hj2, bin_shl (show ¬ (exV l j : Int) < 0 by omega), shl6 (m := exV l j) (by omega), putCells]
    refine app_slZ h0 (by rw [List.length_map]; omega) (by simp) fun tk htk => ?_
    simp only [go_sem, Nat.reduceBEq]
    refine ⟨.inl rfl, by simp, ?_⟩
    simp only [go_sem, Nat.reduceBEq, Nat.reduceAdd, putCells, wrap_succ (k := j) (by omega)]
    refine ⟨⟨(j + 1, some tk), hj2, (fun h => by cases h)⟩, by simp only; omega, ?_⟩
    simp only [hnx2]
    refine ⟨by simp [wkT, look, AV.lo], by simp [wkL, AV.lo, AV.lo.loL, ABlk.toZ], by simp, by simp, rfl, rfl, by simp⟩
  · have hjn : j = l.length := by omega
    subst hjn
    refine retQ_cell_le (n := some 4) (by kernel_rfl) rfl ?_ rfl
    exact PVle.agg (show PVleL [_, _, _, _] [_, _, _, _] from ⟨PVle.refl _, slZ_le h0, PVle.refl _, PVle.refl _, trivial⟩)
def orN (b : MBook) (o u k : Nat) : Nat := mkN b o k ||| mkN b u k
def bothR (b : MBook) (o u : Nat) : Nat → List Int → Bool
  | 0, l => possB (exactB b l) o && possB (exactB b l) u
  | n + 1, l => (List.range 5).any fun v => (orN b o u l.length).testBit v && bothR b o u n (l ++ [(v : Int)])
theorem five_app {l : List Int} (h : fiveL l) {v : Nat} (hv : v < 5) : fiveL (l ++ [(v : Int)]) := fun x hx => by
  rcases List.mem_append.1 hx with h1 | h1
  · exact h x h1
  · have := List.mem_singleton.1 h1
    omega
theorem rboth_sem (k k2 : SK) {b : MBook} (ho : okBook b) {o u : Nat} (hoo : o < b.makers.length) (hu : u < b.makers.length) : ∀ (n : Nat) (l : List Int), fiveL l → l.length + n = nK b → Sem1 84 [.agg (bookC k k2 b), pi o, pi u, pis l] (pb (bothR b o u n l))
  | 0, l, hf, hl => by
    have h2 := ho.1.2.1
    have hx := (exact_ok ho hf (by omega)).1
    have P1 := rpossible_sem k .sh hx (m := o) hoo
    have P2 := rpossible_sem k .sh hx (m := u) hu
    have he : bothR b o u 0 l = (possB (exactB b l) o && possB (exactB b l) u) := rfl
    rw [he]
    have hd : (l.length : Int) = (nK b : Int) := by omega
    refine semC_of_exec' mixed Try.func84 (by kernel_rfl) (by kernel_rfl) ac84_ok 4 rfl (by decide) [(.tmp 8)] (by kernel_rfl) ?_
    intro hr C hC hI
    unfold ac84
    simp only [go_sem, Nat.reduceBEq, Nat.reduceAdd]
    refine call_pure2 hC (rkinds_sem k k2 ho.1) rfl (PVleL_refl _) ?_
    rintro r rfl
    simp only [go_sem, Nat.reduceBEq, Nat.reduceAdd, List.length_map, eq_true hd, decide_true]
    refine call_pure2 hC (rexact_sem k k2 b hf (by omega)) rfl (PVleL_refl _) ?_
    rintro r rfl
    simp only [go_sem, Nat.reduceBEq, Nat.reduceAdd, putCells]
    refine call_pure2 hC (P1) rfl (PVleL_refl _) ?_
    rintro r rfl
    simp only [go_sem, Nat.reduceBEq]
    cases possB (exactB b l) o
    · simp only [go_sem, Nat.reduceBEq]
      exact retQ_one rfl rfl
    · simp only [go_sem, Nat.reduceBEq, Nat.reduceAdd]
      refine call_pure2 hC (P2) rfl (PVleL_refl _) ?_
      rintro r rfl
      simp only [go_sem, Nat.reduceBEq]
      exact retQ_one rfl rfl
  | n + 1, l, hf, hl => by
    have h2 := ho.1.2.1
    have ih : ∀ v : Nat, v < 5 → Sem1 84 [.agg (bookC k k2 b), pi o, pi u, pis (l ++ [(v : Int)])] (pb (bothR b o u n (l ++ [(v : Int)]))) := fun v hv => rboth_sem k k2 ho hoo hu n (l ++ [(v : Int)]) (five_app hf hv) (by rw [List.length_append]; simp only [List.length_cons, List.length_nil]; omega)
    have hd : ¬ (l.length : Int) = (nK b : Int) := by omega
    have hlk : l.length < nK b := by omega
    have eo := iadr_map (f := fun h => [pis h]) (kd := k) (sz := 1) hoo
    have eu := iadr_map (f := fun h => [pis h]) (kd := k) (sz := 1) hu
    obtain ⟨ro, -⟩ := ho.1.row hoo
    obtain ⟨ru, -⟩ := ho.1.row hu
    have jo : l.length < b.makers[o].length := by omega
    have ju : l.length < b.makers[u].length := by omega
    obtain ⟨q1, q3, q4⟩ := ho.1.mk hoo hlk
    obtain ⟨w1, w3, w4⟩ := ho.1.mk hu hlk
    have vo := mk_get hoo jo
    rw [q4] at vo
    have vu := mk_get hu ju
    rw [w4] at vu
    have hor : binS false .or (.p (pi (mkN b o l.length : Nat))) (.p (pi (mkN b u l.length : Nat))) = some (.p (pi (orN b o u l.length : Nat))) := bin_orN (by omega) (by omega)
    obtain ⟨R, hR⟩ : ∃ R, bothR b o u (n + 1) l = R := ⟨_, rfl⟩
    have hR2 : ((List.range 5).any fun v => (orN b o u l.length).testBit v && bothR b o u n (l ++ [(v : Int)])) = R := hR
    rw [hR]
    refine semC_of_exec' mixed Try.func84 (by kernel_rfl) (by kernel_rfl) ac84_ok 4 rfl (by decide) [(.tmp 8)] (by kernel_rfl) ?_
    intro hr C hC hI
    unfold ac84
    simp only [go_sem, Nat.reduceBEq, Nat.reduceAdd]
    refine call_pure2 hC (rkinds_sem k k2 ho.1) rfl (PVleL_refl _) ?_
    rintro r rfl
    simp only [go_sem, Nat.reduceBEq, List.length_map, eq_false hd, decide_false]
    refine loop_k 5 (fun v => ∀ x, x < v → ((orN b o u l.length).testBit x && bothR b o u n (l ++ [(x : Int)])) = false) [1, 2, 3, 4] (fun v => [(10, .p (pi v))]) (fun x h => absurd h (by omega)) (by simp [loAll, look, AV.lo]) ⟨by simp [loBlk, AV.lo, AV.lo.loL], by simp, by simp⟩ (by simp [wkT, look, AV.lo]) ?_
    rintro v ⟨hv, hno⟩
    simp only [go_sem, Nat.reduceBEq]
    refine ⟨fun d5 => ?_, fun d5 => ?_⟩
    · have hv2 : v < 5 := by omega
      have hOf := Of_sem (orN b o u l.length : Nat) v (by omega)
      rw [of_bit (s := orN b o u l.length) (i := v) (by omega)] at hOf
      have step : ((orN b o u l.length).testBit v && bothR b o u n (l ++ [(v : Int)])) = false → ∀ x, x < v + 1 → ((orN b o u l.length).testBit x && bothR b o u n (l ++ [(x : Int)])) = false := fun h x hx => by
        by_cases e : x = v
        · rw [e]; exact h
        · exact hno x (by omega)
      simp only [go_sem, Nat.reduceBEq, eo, eu, List.length_map, iadr_pis jo, iadr_pis ju, vo, vu, hor]
      refine call_pure2 hC (hOf) rfl (PVleL_refl _) ?_
      rintro r rfl
      simp only [go_sem, Nat.reduceBEq]
      cases hb : (orN b o u l.length).testBit v
      · simp only [go_sem, Nat.reduceBEq, wrap_succ (k := v) (by omega)]
        exact ⟨⟨v + 1, hv2, step (by rw [hb]; rfl)⟩, by simp only; omega, by simp [Wk, wkT, wkL, look, AV.lo, AV.lo.loL, ABlk.toZ]⟩
      · simp only [go_sem, Nat.reduceBEq, Nat.reduceAdd, Bool.false_eq_true]
        refine call_pure2 hC (Add_sem l v (by omega)) rfl (PVleL_refl _) ?_
        rintro r rfl
        simp only [go_sem, Nat.reduceBEq]
        refine call_pure2 hC (ih v hv2) rfl (PVleL_refl _) ?_
        rintro r rfl
        simp only [go_sem, Nat.reduceBEq]
        cases hr9 : bothR b o u n (l ++ [(v : Int)])
        · simp only [go_sem, Nat.reduceBEq, wrap_succ (k := v) (by omega)]
          exact ⟨⟨v + 1, hv2, step (by rw [hr9, Bool.and_false])⟩, by simp only; omega, by simp [Wk, wkT, wkL, look, AV.lo, AV.lo.loL, ABlk.toZ]⟩
        · have : R = true := by
            rw [← hR2]
            exact List.any_eq_true.2 ⟨v, List.mem_range.2 hv2, by rw [hb, hr9]; rfl⟩
          rw [this]
          simp only [go_sem]
          exact retQ_one rfl rfl
    · have : R = false := by
        rw [← hR2, Bool.eq_false_iff]
        intro h
        obtain ⟨x, hx, h9⟩ := List.any_eq_true.1 h
        rw [hno x (by have := List.mem_range.1 hx; omega)] at h9
        cases h9
      rw [this]
      exact retQ_one rfl rfl
end Go.Proofs.Ythaplmohhbdfeaa.Mk
namespace Go.Proofs.Ythaplmohhbdfeaa.Mk
open Go.RowKit Ls
def ac4 : AC := (AC.seq (AC.ops [(AOp.mk (some 2) (AK.box 4 (AX.t 0)) none 0 false true), (AOp.mk (some 3) (AK.box 3 (AX.t 1)) none 1 false true), (AOp.mk (some 4) (AK.mv (AX.c (PV.val (Value.bool false)))) none 2 false true)]) (AC.seq (AC.ops [(AOp.mk (some 12) (AK.ld (some 4) (AX.t 2)) none 0 false true), (AOp.mk (some 13) (AK.iadrA 1 3 (AX.t 3) (AX.c (PV.val (Value.int IntKind.i64 0)))) none 1 false true), (AOp.mk (some 14) (AK.ld none (AX.t 13)) none 2 false true), (AOp.mk (some 15) (AK.call 28 [(AX.t 12), (AX.t 14)]) none 3 false true), (AOp.mk (some 11) (AK.mv (AX.t 15)) none 4 false true), (AOp.mk (some 16) (AK.ext (AX.t 11) 0) none 5 false true), (AOp.mk (some 17) (AK.ext (AX.t 11) 1) none 6 false true), (AOp.mk (some 5) (AK.mv (AX.t 16)) none 7 false true), (AOp.mk (some 6) (AK.mv (AX.t 17)) none 8 false true)]) (AC.seq (AC.ops [(AOp.mk (some 19) (AK.ld (some 4) (AX.t 2)) none 0 false true), (AOp.mk (some 20) (AK.iadrA 1 3 (AX.t 3) (AX.c (PV.val (Value.int IntKind.i64 0)))) none 1 false true), (AOp.mk (some 21) (AK.ld none (AX.t 20)) none 2 false true), (AOp.mk (some 22) (AK.call 29 [(AX.t 19), (AX.t 21)]) none 3 false true), (AOp.mk (some 18) (AK.mv (AX.t 22)) none 4 false true), (AOp.mk (some 23) (AK.ext (AX.t 18) 0) none 5 false true), (AOp.mk (some 24) (AK.ext (AX.t 18) 1) none 6 false true), (AOp.mk (some 7) (AK.mv (AX.t 23)) none 7 false true), (AOp.mk (some 8) (AK.mv (AX.t 24)) none 8 false true)]) (AC.seq (AC.seq (AC.ops [(AOp.mk (some 25) (AK.mv (AX.t 5)) none 0 false true), (AOp.mk (some 26) (AK.mv (AX.t 7)) none 1 false true), (AOp.mk (some 27) (AK.call 22 [(AX.t 25), (AX.t 26)]) none 2 false true), (AOp.mk (some 28) (AK.un UnOp.not (AX.t 27)) none 3 false true), (AOp.mk (some 29) (AK.mv (AX.t 28)) none 4 false true), (AOp.mk (some 30) (AK.mv (AX.t 6)) (some (29, false)) 5 false true), (AOp.mk (some 31) (AK.mv (AX.t 8)) (some (29, false)) 6 false true), (AOp.mk (some 32) (AK.bin false BinOp.neq (AX.t 30) (AX.t 31)) (some (29, false)) 7 false true), (AOp.mk (some 33) (AK.pick (AX.t 29) (AX.c (PV.val (Value.bool true))) (AX.t 32)) none 8 false true)]) (AC.cond (AX.t 33) (AC.seq (AC.ops [(AOp.mk (some 4) (AK.mv (AX.c (PV.val (Value.bool false)))) none 0 false true)]) AC.ret) AC.skip)) (AC.seq (AC.ops [(AOp.mk (some 35) (AK.ld (some 4) (AX.t 2)) none 0 false true), (AOp.mk (some 36) (AK.iadrA 1 3 (AX.t 3) (AX.c (PV.val (Value.int IntKind.i64 1)))) none 1 false true), (AOp.mk (some 37) (AK.ld none (AX.t 36)) none 2 false true), (AOp.mk (some 38) (AK.iadrA 1 3 (AX.t 3) (AX.c (PV.val (Value.int IntKind.i64 2)))) none 3 false true), (AOp.mk (some 39) (AK.ld none (AX.t 38)) none 4 false true), (AOp.mk (some 40) (AK.call 30 [(AX.t 35), (AX.t 37), (AX.t 39)]) none 5 false true), (AOp.mk (some 34) (AK.mv (AX.t 40)) none 6 false true), (AOp.mk (some 41) (AK.ext (AX.t 34) 0) none 7 false true), (AOp.mk (some 42) (AK.ext (AX.t 34) 1) none 8 false true), (AOp.mk (some 9) (AK.mv (AX.t 41)) none 9 false true), (AOp.mk (some 6) (AK.mv (AX.t 42)) none 10 false true)]) (AC.seq (AC.ops [(AOp.mk (some 44) (AK.ld (some 4) (AX.t 2)) none 0 false true), (AOp.mk (some 45) (AK.iadrA 1 3 (AX.t 3) (AX.c (PV.val (Value.int IntKind.i64 1)))) none 1 false true), (AOp.mk (some 46) (AK.ld none (AX.t 45)) none 2 false true), (AOp.mk (some 47) (AK.iadrA 1 3 (AX.t 3) (AX.c (PV.val (Value.int IntKind.i64 2)))) none 3 false true), (AOp.mk (some 48) (AK.ld none (AX.t 47)) none 4 false true), (AOp.mk (some 49) (AK.call 31 [(AX.t 44), (AX.t 46), (AX.t 48)]) none 5 false true), (AOp.mk (some 43) (AK.mv (AX.t 49)) none 6 false true), (AOp.mk (some 50) (AK.ext (AX.t 43) 0) none 7 false true), (AOp.mk (some 51) (AK.ext (AX.t 43) 1) none 8 false true), (AOp.mk (some 10) (AK.mv (AX.t 50)) none 9 false true), (AOp.mk (some 8) (AK.mv (AX.t 51)) none 10 false true)]) (AC.seq (AC.ops [(AOp.mk (some 52) (AK.mv (AX.t 9)) none 0 false true), (AOp.mk (some 53) (AK.mv (AX.t 10)) none 1 false true), (AOp.mk (some 54) (AK.bin true BinOp.eql (AX.t 52) (AX.t 53)) none 2 false true), (AOp.mk (some 55) (AK.mv (AX.t 54)) none 3 false true), (AOp.mk (some 56) (AK.mv (AX.t 6)) (some (55, true)) 4 false true), (AOp.mk (some 57) (AK.mv (AX.t 8)) (some (55, true)) 5 false true), (AOp.mk (some 58) (AK.bin false BinOp.eql (AX.t 56) (AX.t 57)) (some (55, true)) 6 false true), (AOp.mk (some 59) (AK.pick (AX.t 55) (AX.t 58) (AX.c (PV.val (Value.bool false)))) none 7 false true), (AOp.mk (some 60) (AK.mv (AX.t 59)) none 8 false true), (AOp.mk (some 61) (AK.call 27 []) (some (60, true)) 9 false true), (AOp.mk (some 62) (AK.pick (AX.t 60) (AX.t 61) (AX.c (PV.val (Value.bool false)))) none 10 false true), (AOp.mk (some 4) (AK.mv (AX.t 62)) none 11 false true)]) AC.ret)))))))
theorem ac4_ok : cCode Try.prog (fun _ => false) Try.f4.ntmps (Try.f4.body.getD .skip) = some ac4 := by kernel_rfl
theorem bothR_out {b : MBook} {o u : Nat} : ∀ (n : Nat) (l : List Int), fiveL l → l.length + n = nK b → bothR b o u n l = true → ∃ L, fiveL L ∧ L.length = nK b ∧ possB (exactB b L) o = true ∧ possB (exactB b L) u = true
  | 0, l, hf, hl, h => by
    have h9 : (possB (exactB b l) o && possB (exactB b l) u) = true := h
    rw [Bool.and_eq_true] at h9
    exact ⟨l, hf, by omega, h9.1, h9.2⟩
  | n + 1, l, hf, hl, h => by
    obtain ⟨v, hv, h9⟩ := List.any_eq_true.1 (show ((List.range 5).any fun v => (orN b o u l.length).testBit v && bothR b o u n (l ++ [(v : Int)])) = true from h)
    rw [Bool.and_eq_true] at h9
    exact bothR_out n _ (five_app hf (List.mem_range.1 hv)) (by rw [List.length_append]; simp only [List.length_cons, List.length_nil]; omega) h9.2
theorem bothR_in {b : MBook} {o u : Nat} {L : List Int} (hf : fiveL L) (hl : L.length = nK b) (hb : ∀ k, k < nK b → (orN b o u k).testBit (exV L k) = true) (h1 : possB (exactB b L) o = true) (h2 : possB (exactB b L) u = true) : ∀ n, n ≤ nK b → bothR b o u n (L.take (nK b - n)) = true
  | 0, _ => by
    show (possB (exactB b (L.take (nK b - 0))) o && possB (exactB b (L.take (nK b - 0))) u) = true
    rw [Nat.sub_zero, ← hl, List.take_length, h1, h2]
    rfl
  | n + 1, hn => by
    have ih := bothR_in hf hl hb h1 h2 n (by omega)
    have hk : nK b - (n + 1) < L.length := by omega
    have e : L.take (nK b - n) = L.take (nK b - (n + 1)) ++ [((exV L (nK b - (n + 1)) : Nat) : Int)] := by
      rw [← exV_get hf hk, ← List.take_succ_eq_append_getElem hk, show nK b - (n + 1) + 1 = nK b - n by omega]
    rw [e] at ih
    have hlen : (L.take (nK b - (n + 1))).length = nK b - (n + 1) := by
      rw [List.length_take]
      omega
    show ((List.range 5).any fun v => (orN b o u (L.take (nK b - (n + 1))).length).testBit v && bothR b o u n (L.take (nK b - (n + 1)) ++ [(v : Int)])) = true
    refine List.any_eq_true.2 ⟨exV L (nK b - (n + 1)), List.mem_range.2 (ex_five hf _), ?_⟩
    rw [hlen, hb _ (by omega), ih]
    rfl
theorem both_R {b : MBook} (h : okC b) {o u : Nat} (ho : o < b.makers.length) (hu : u < b.makers.length) : bothR b o u (nK b) [] = bothB b o u := by
  rw [Bool.eq_iff_iff, both_iff h]
  constructor
  · intro hR
    obtain ⟨L, h1, h2, h3, h4⟩ := bothR_out (nK b) [] (fun _ h => by cases h) (by simp) hR
    exact exact_both h1 h2 h3 h4
  · intro hP
    have f2 := pickL_five h ho hu
    have l2 := pickL_len b o u (nK b)
    obtain ⟨g1, g2⟩ := share_exact (b := b) (l := pickL b o u (nK b)) h.2.2.2.2.1.1 (both_share hP) f2 l2 fun k hk => pickL_bit h ho hu hk
    have := bothR_in f2 l2 (fun k hk => by
      have hb := pickL_bit h ho hu hk
      unfold orN
      rw [Nat.testBit_or, Bool.or_eq_true]
      unfold pickN at hb
      split at hb
      · split at hb
        · exact .inr hb
        · exact .inl hb
      · rw [Nat.testBit_and, Bool.and_eq_true] at hb
        exact .inl hb.1) g1 g2 (nK b) (Nat.le_refl _)
    rw [Nat.sub_self, List.take_zero] at this
    exact this
theorem errA_yes {b : MBook} (ho : okBook b) (known : Bool) : errA b known = if known then 0 else 51 := by unfold errA; rw [if_pos ho]
theorem errA_no {b : MBook} (ho : ¬ okBook b) (known : Bool) : errA b known = 50 := by unfold errA; rw [if_neg ho]
theorem rTold_sem (k k2 : SK) (b : MBook) (n p : Int) : Sem1 31 [.agg (bookC k k2 b), pi n, pi p] (if errA b (okT b n p) = 0 then .tup [pb (!bothB b n.toNat p.toNat), pi 0] else .tup [pb false, pi (errA b (okT b n p))]) := by
  by_cases ho : okBook b
  rotate_left
  · rw [errA_no ho, if_neg (by decide)]
    refine semC_of_exec' mixed Try.func31 (by kernel_rfl) (by kernel_rfl) ac31_ok 3 rfl (by decide) [(.tmp 6), (.tmp 7)] (by kernel_rfl) ?_
    intro hr C hC hI
    unfold ac31
    simp only [go_sem, Nat.reduceBEq, Nat.reduceAdd]
    refine call_pure2 hC (rCheck_sem k k2 b) rfl (PVleL_refl _) ?_
    rintro r rfl
    simp only [go_sem, Nat.reduceBEq, if_neg ho, decide_true, not_false_eq_true, Int.reduceEq]
    exact retQ_two rfl rfl rfl
  rw [errA_yes ho]
  have hM := risMaker_sem k k2 ho.1 n
  have hP := risMaker_sem k k2 ho.1 p
  have hT : okT b n p = (okM b n && okM b p && decide (n ≠ p)) := rfl
  cases hm0 : okM b n
  · rw [hm0] at hM hT
    rw [hT, Bool.false_and, Bool.false_and, if_neg Bool.false_ne_true, if_neg (show ¬ (51 : Int) = 0 by decide)]
    refine semC_of_exec' mixed Try.func31 (by kernel_rfl) (by kernel_rfl) ac31_ok 3 rfl (by decide) [(.tmp 6), (.tmp 7)] (by kernel_rfl) ?_
    intro hr C hC hI
    unfold ac31
    simp only [go_sem, Nat.reduceBEq, Nat.reduceAdd]
    refine call_pure2 hC (rCheck_sem k k2 b) rfl (PVleL_refl _) ?_
    rintro r rfl
    simp only [go_sem, Nat.reduceBEq, Nat.reduceAdd, if_pos ho, decide_false, not_true_eq_false]
    refine call_pure2 hC (hM) rfl (PVleL_refl _) ?_
    rintro r rfl
    simp only [go_sem, Nat.reduceBEq]
    exact retQ_two rfl rfl rfl
  cases hp0 : okM b p
  · rw [hm0] at hM
    rw [hp0] at hP
    rw [hm0, hp0] at hT
    rw [hT, Bool.true_and, Bool.false_and, if_neg Bool.false_ne_true, if_neg (show ¬ (51 : Int) = 0 by decide)]
    refine semC_of_exec' mixed Try.func31 (by kernel_rfl) (by kernel_rfl) ac31_ok 3 rfl (by decide) [(.tmp 6), (.tmp 7)] (by kernel_rfl) ?_
    intro hr C hC hI
    unfold ac31
    simp only [go_sem, Nat.reduceBEq, Nat.reduceAdd]
    refine call_pure2 hC (rCheck_sem k k2 b) rfl (PVleL_refl _) ?_
    rintro r rfl
    simp only [go_sem, Nat.reduceBEq, Nat.reduceAdd, if_pos ho, decide_false, not_true_eq_false]
    refine call_pure2 hC (hM) rfl (PVleL_refl _) ?_
    rintro r rfl
    simp only [go_sem, Nat.reduceBEq, Nat.reduceAdd]
    refine call_pure2 hC (hP) rfl (PVleL_refl _) ?_
    rintro r rfl
    simp only [go_sem, Nat.reduceBEq]
    exact retQ_two rfl rfl rfl
  rw [hm0] at hM
  rw [hp0] at hP
  rw [hm0, hp0, Bool.true_and, Bool.true_and] at hT
  by_cases hnp : n = p
  · rw [hT, decide_eq_false (fun h => h hnp), if_neg Bool.false_ne_true, if_neg (show ¬ (51 : Int) = 0 by decide)]
    refine semC_of_exec' mixed Try.func31 (by kernel_rfl) (by kernel_rfl) ac31_ok 3 rfl (by decide) [(.tmp 6), (.tmp 7)] (by kernel_rfl) ?_
    intro hr C hC hI
    unfold ac31
    simp only [go_sem, Nat.reduceBEq, Nat.reduceAdd]
    refine call_pure2 hC (rCheck_sem k k2 b) rfl (PVleL_refl _) ?_
    rintro r rfl
    simp only [go_sem, Nat.reduceBEq, Nat.reduceAdd, if_pos ho, decide_false, not_true_eq_false]
    refine call_pure2 hC (hM) rfl (PVleL_refl _) ?_
    rintro r rfl
    simp only [go_sem, Nat.reduceBEq, Nat.reduceAdd]
    refine call_pure2 hC (hP) rfl (PVleL_refl _) ?_
    rintro r rfl
    simp only [go_sem, Nat.reduceBEq, eq_true hnp, decide_true]
    exact retQ_two rfl rfl rfl
  rw [hT, decide_eq_true (show n ≠ p from hnp), if_pos rfl, if_pos rfl]
  obtain ⟨o, rfl, hoo⟩ := okM_nat hm0
  obtain ⟨u, rfl, hu⟩ := okM_nat hp0
  rw [Int.toNat_natCast, Int.toNat_natCast]
  have hB := rboth_sem k k2 ho hoo hu (nK b) [] (fun _ h => by cases h) (by simp)
  rw [both_R ho.1 hoo hu] at hB
  have hlen : PVleL [.agg (bookC k k2 b), pi o, pi u, .sl .full 1 []] [.agg (bookC k k2 b), pi o, pi u, pis []] := ⟨PVle.refl _, PVle.refl _, PVle.refl _, PVle.nil _ _ _, trivial⟩
  refine semC_of_exec' mixed Try.func31 (by kernel_rfl) (by kernel_rfl) ac31_ok 3 rfl (by decide) [(.tmp 6), (.tmp 7)] (by kernel_rfl) ?_
  intro hr C hC hI
  unfold ac31
  simp only [go_sem, Nat.reduceBEq, Nat.reduceAdd]
  refine call_pure2 hC (rCheck_sem k k2 b) rfl (PVleL_refl _) ?_
  rintro r rfl
  simp only [go_sem, Nat.reduceBEq, Nat.reduceAdd, if_pos ho, decide_false, not_true_eq_false]
  refine call_pure2 hC (hM) rfl (PVleL_refl _) ?_
  rintro r rfl
  simp only [go_sem, Nat.reduceBEq, Nat.reduceAdd]
  refine call_pure2 hC (hP) rfl (PVleL_refl _) ?_
  rintro r rfl
  simp only [go_sem, Nat.reduceBEq, Nat.reduceAdd, eq_false hnp, decide_false]
  refine call_pure2 hC hB rfl hlen ?_
  rintro _ rfl
  simp only [go_sem, Nat.reduceBEq]
  cases bothB b o u
  · simp only [go_sem, Nat.reduceBEq, Bool.not_false]
    exact retQ_two rfl rfl rfl
  · simp only [go_sem, Nat.reduceBEq, Bool.not_true]
    exact retQ_two rfl rfl rfl
theorem valP_ex (b : MBook) (p : Int) : ∃ (l : List Int) (e : Int), (if errR b (okK b p) = 0 then PV.tup [pis (natL (valuesL b p.toNat)), pi 0] else .tup [pis [], pi (errR b (okK b p))]) = .tup [pis l, pi e] := by
  split
  · exact ⟨_, _, rfl⟩
  · exact ⟨_, _, rfl⟩
theorem toldP_ex (b : MBook) (n p : Int) : ∃ (l : Bool) (e : Int), (if errA b (okT b n p) = 0 then PV.tup [pb (!bothB b n.toNat p.toNat), pi 0] else .tup [pb false, pi (errA b (okT b n p))]) = .tup [pb l, pi e] := by
  split
  · exact ⟨_, _, rfl⟩
  · exact ⟨_, _, rfl⟩
set_option maxRecDepth 100000 in
set_option maxHeartbeats 2000000 in
theorem Values_law (k k2 : SK) (b : MBook) (n p q : Int) : Sem1 4 [.agg (bookC k k2 b), .agg [pi n, pi p, pi q]] (pb true) := by
  have A1 := Values_sem k k2 b n
  have A2 := rValues_sem k k2 b n
  have B1 := Told_sem k k2 b p q
  have B2 := rTold_sem k k2 b p q
  obtain ⟨l, le, el⟩ := valP_ex b n
  obtain ⟨u, ue, eu⟩ := toldP_ex b p q
  rw [el] at A1 A2
  rw [eu] at B1 B2
  refine semC_of_exec' mixed Try.func4 (by kernel_rfl) (by kernel_rfl) ac4_ok 2 rfl (by decide) [(.tmp 4)] (by kernel_rfl) ?_
  intro hr C hC hI
  unfold ac4
  simp only [go_sem, Nat.reduceBEq, Nat.reduceAdd, iadr3_0]
  refine call_pure2 hC (A1) rfl (PVleL_refl _) ?_
  rintro r rfl
  simp only [go_sem, Nat.reduceBEq, Nat.reduceAdd, iadr3_0]
  refine call_pure2 hC (A2) rfl (PVleL_refl _) ?_
  rintro r rfl
  simp only [go_sem, Nat.reduceBEq]
  refine call_pure2 hC (Equal_sem l l) rfl (PVleL_refl _) ?_
  rintro r rfl
  simp only [go_sem, Nat.reduceBEq, Nat.reduceAdd, iadr3_1, iadr3_2, decide_true, decide_false, not_true_eq_false]
  refine call_pure2 hC (B1) rfl (PVleL_refl _) ?_
  rintro r rfl
  simp only [go_sem, Nat.reduceBEq, Nat.reduceAdd, iadr3_1, iadr3_2]
  refine call_pure2 hC (B2) rfl (PVleL_refl _) ?_
  rintro r rfl
  simp only [go_sem, Nat.reduceBEq, beq_self_eq_true, decide_true]
  refine call_pure2 hC (marked_sem) rfl (PVleL_refl _) ?_
  rintro r rfl
  simp only [go_sem, Nat.reduceBEq]
  exact retQ_one rfl rfl
set_option maxRecDepth 100000 in
theorem Values_row {l0 l1 : List PV} (T0 : Ty Try.prog 10 25 l0) (T1 : Ty Try.prog 10 40 l1) : SemC Try.prog 4 [argPV Try.prog 25 l0, argPV Try.prog 40 l1] (fun r => r = pb true) := by
  obtain ⟨b, rfl⟩ := ty_book T0
  obtain ⟨n0, n1, n2, rfl⟩ := ty_three T1
  rw [argStruct Try.underlying25, argArray Try.underlying40]
  exact Values_law .sh .sh b n0 n1 n2
end Go.Proofs.Ythaplmohhbdfeaa.Mk
namespace Go.Proofs.Ythaplmohhbdfeaa
open Go.Proofs.Ythaplmohhbdfeaa Go.ChangeShapes Go.WideShapes Go.ChangeAt Go.RowKit Go.Deep

set_option maxRecDepth 100000 in
theorem makerValues_lifted (os : Os) (started : os.Started) (H : Type) (enc : TypeId × Value → H) :
    ReturnsInHanded {} Try.checked os 4 .any (Rows.makerValuesSpec.pre6 enc Try.prog Try.f4 Rows.makerValuesRow.domain false) (Rows.makerValuesSpec.post enc Try.prog Try.f4 false true false false) := by
  refine returnsInHanded_of_change_sized (C := Try.checked) ownKnobs started (by kernel_rfl) Try.func4
    (ChangeSpec.witness6 (enc := enc) (C := Try.checked) false ⟨#[], #[.agg #[.slice none 0 0, .slice none 0 0, .int .i64 0, .int .i64 0], .agg #[.int .i64 0, .int .i64 0, .int .i64 0]], []⟩ 8 (by kernel_rfl) (by kernel_rfl) (by kernel_rfl) (by kernel_rfl)) ?_
  intro W base args ds gs before hval0 hW hcnd hsz0 _
  have hval : ∀ (j : Nat) t v, Try.f4.params[j]? = some t → args[j]? = some v → Value.okWide Try.prog W .any base t v := hval0
  have hsz : (DataW.weightsEach Try.prog (Try.f4.params.toList ++ Rows.makerValuesSpec.plain.varTypes Try.prog) (ds ++ gs)).all (· ≤ reachBytes) = true := hsz0
  have hW' := hW
  obtain ⟨p, q, hA0, hV, rfl, hfz, hnd⟩ := hW
  have hA : DataW.TrodAll enc Try.prog W 0 (fun _ => true) true Try.f4.params.toList args.toList ds p := hA0
  rw [Try.params4] at hA hval hsz
  obtain ⟨v0, vs0, d0, ds0, p0, q0, hargs, rfl, rfl, h0, r0⟩ := trodAll_cons hA
  obtain ⟨v1, vs1, d1, ds1, p1, q1, rfl, rfl, rfl, h1, r1⟩ := trodAll_cons r0
  obtain ⟨rfl, rfl, rfl⟩ := trodAll_nil r1
  obtain rfl : args = #[v0, v1] := by cases args; simp_all
  obtain ⟨rfl, rfl⟩ := trodVars_none hV
  have lt0 : ∀ x ∈ p0, x.block < W.heap.size := by obtain ⟨m, hm⟩ := h0; exact DataW.trod_lt m _ _ _ hm
  have lt1 : ∀ x ∈ p1, x.block < W.heap.size := by obtain ⟨m, hm⟩ := h1; exact DataW.trod_lt m _ _ _ hm
  have z0 : SizedP Try.prog 25 d0 := sizedP_each hsz (j := 0) rfl rfl
  obtain ⟨l0, T0, R0⟩ := rd_arg 10 (by kernel_rfl) (hval 0 25 v0 rfl rfl) h0 z0
  have z1 : SizedP Try.prog 40 d1 := sizedP_each hsz (j := 1) rfl rfl
  obtain ⟨l1, T1, R1⟩ := rd_arg 10 (by kernel_rfl) (hval 1 40 v1 rfl rfl) h1 z1
  clear hA0 hval0 hsz0
  refine (law_calls (Mk.Values_row T0 T1) (argsP_cons R0 (argsP_cons R1 argsP_nil))).mono fun e W' ⟨he, bel⟩ => ?_
  subst he
  exact ⟨_, rfl, _, _, _, [], _, [], hW', trodAll_mk1 (shut_bool Try.underlying4 _), (trodAll_cons_mk (Below.trod laidOut (by kernel_rfl) (of_decide_eq_true (by kernel_rfl)) h0 bel lt0) (trodAll_cons_mk (Below.trod laidOut (by kernel_rfl) (of_decide_eq_true (by kernel_rfl)) h1 bel lt1) trodAll_mk0)), rfl, bel.frame _, fun h => by cases h⟩

theorem makerValues_holds : Rows.MakerValuesSaid :=
  OpenClaim.holds_of_wide 4 Try.f4 rfl rfl rfl rfl rfl rfl rfl ⟨rfl, rfl, rfl, rfl, rfl⟩ rfl rfl rfl rfl rfl (by kernel_rfl) Try.func4 (by kernel_rfl)
    (of_decide_eq_true (by kernel_rfl)) (by unfold Func.isWrapper; first | (rw [if_pos (by decide +kernel)]; kernel_rfl) | (rw [if_neg (by decide +kernel)]; exact ⟨rfl, rfl⟩))
    (fun os started H enc _ => makerValues_lifted os started H enc)
end Go.Proofs.Ythaplmohhbdfeaa
