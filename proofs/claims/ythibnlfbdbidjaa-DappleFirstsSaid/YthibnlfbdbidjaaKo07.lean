/- Contracts of dapple's statements: any row; what is told of all pairs. The specification of dapple: books, turns. The specification of dapple: turns, and how much two are the same. Mathematics of dapple: the first of lists. -/
import Derived.Test.YthibnlfbdbidjaaKo06
import Derived.Test.YthibnlfbdbidjaaKo05
namespace Go.Proofs.Ythibnlfbdbidjaa
open Go.RowKit
def ac49 : AC := (AC.seq (AC.ops [(AOp.mk (some 4) (AK.mv (AX.c (PV.sl SK.full 0 []))) none 0 false true)]) (AC.seq (AC.ops [(AOp.mk (some 7) (AK.bslice false 3 1 0 [(PV.val (Value.int IntKind.i64 0))] []) none 0 false true), (AOp.mk (some 5) (AK.mv (AX.t 7)) none 1 false true)]) (AC.seq (AC.seq (AC.ops [(AOp.mk (some 6) (AK.mv (AX.c (PV.val (Value.int IntKind.i64 0)))) none 0 false true)]) (AC.block 0 (AC.loop (AC.seq (AC.seq (AC.ops [(AOp.mk (some 8) (AK.mv (AX.t 6)) none 0 false true), (AOp.mk (some 9) (AK.mv (AX.t 0)) none 1 false true), (AOp.mk (some 10) (AK.bin false BinOp.lss (AX.t 8) (AX.t 9)) none 2 false true)]) (AC.cond (AX.t 10) AC.skip (AC.exit 0))) (AC.seq (AC.block 1 (AC.ops [(AOp.mk (some 13) (AK.mv (AX.t 5)) none 0 false true), (AOp.mk (some 14) (AK.mv (AX.t 1)) none 1 false true), (AOp.mk (some 15) (AK.mv (AX.t 6)) none 2 false true), (AOp.mk (some 16) (AK.call 56 [(AX.t 14), (AX.t 15)]) none 3 false true), (AOp.mk (some 17) (AK.mv (AX.t 6)) none 4 false true), (AOp.mk (some 18) (AK.mv (AX.t 1)) none 5 false true), (AOp.mk (some 19) (AK.call 56 [(AX.t 18), (AX.c (PV.val (Value.int IntKind.i64 2)))]) none 6 false true), (AOp.mk (some 20) (AK.bin false BinOp.mul (AX.t 17) (AX.t 19)) none 7 false true), (AOp.mk (some 21) (AK.bin false BinOp.add (AX.t 16) (AX.t 20)) none 8 false true), (AOp.mk (some 22) (AK.call 46 [(AX.t 21), (AX.c (PV.val (Value.int IntKind.i64 4)))]) none 9 false true), (AOp.mk (some 23) (AK.bslice false 3 1 1 [(PV.val (Value.int IntKind.i64 0))] [(0, (1, (AX.t 22)))]) none 10 false true), (AOp.mk (some 24) (AK.app false 3 1 8 [(PV.val (Value.int IntKind.i64 0))] (AX.t 13) (AX.t 23)) none 11 false true), (AOp.mk (some 5) (AK.mv (AX.t 24)) none 12 false true)])) (AC.ops [(AOp.mk (some 11) (AK.mv (AX.t 6)) none 0 false true), (AOp.mk (some 12) (AK.bin false BinOp.add (AX.t 11) (AX.c (PV.val (Value.int IntKind.i64 1)))) none 1 false true), (AOp.mk (some 6) (AK.mv (AX.t 12)) none 2 false true)])))))) (AC.seq (AC.ops [(AOp.mk (some 25) (AK.mv (AX.t 5)) none 0 false true), (AOp.mk (some 4) (AK.mv (AX.t 25)) none 1 false true)]) AC.ret))))
theorem ac49_ok : cCode Try.prog (fun _ => false) Try.f49.ntmps (Try.f49.body.getD .skip) = some ac49 := by kernel_rfl
def ac47 : AC := (AC.seq (AC.ops [(AOp.mk (some 1) (AK.box 2 (AX.t 0)) none 0 false true), (AOp.mk (some 2) (AK.mv (AX.c (PV.sl SK.full 0 []))) none 1 false true)]) (AC.seq (AC.ops [(AOp.mk (some 10) (AK.bslice false 26 1 0 [(PV.sl SK.full 0 [])] []) none 0 false true), (AOp.mk (some 3) (AK.mv (AX.t 10)) none 1 false true)]) (AC.seq (AC.seq (AC.ops [(AOp.mk (some 4) (AK.mv (AX.c (PV.val (Value.int IntKind.i64 0)))) none 0 false true)]) (AC.block 0 (AC.loop (AC.seq (AC.seq (AC.ops [(AOp.mk (some 11) (AK.mv (AX.t 4)) none 0 false true), (AOp.mk (some 12) (AK.fadr 1 (AX.t 1)) none 1 false true), (AOp.mk (some 13) (AK.ld none (AX.t 12)) none 2 false true), (AOp.mk (some 14) (AK.len (AX.t 13)) none 3 false true), (AOp.mk (some 15) (AK.bin false BinOp.lss (AX.t 11) (AX.t 14)) none 4 false true)]) (AC.cond (AX.t 15) AC.skip (AC.exit 0))) (AC.seq (AC.block 1 (AC.seq (AC.ops [(AOp.mk (some 18) (AK.bslice false 3 1 0 [(PV.val (Value.int IntKind.i64 0))] []) none 0 false true), (AOp.mk (some 5) (AK.mv (AX.t 18)) none 1 false true)]) (AC.seq (AC.seq (AC.ops [(AOp.mk (some 6) (AK.mv (AX.c (PV.val (Value.int IntKind.i64 0)))) none 0 false true)]) (AC.block 2 (AC.loop (AC.seq (AC.seq (AC.ops [(AOp.mk (some 19) (AK.mv (AX.t 6)) none 0 false true), (AOp.mk (some 20) (AK.fadr 1 (AX.t 1)) none 1 false true), (AOp.mk (some 21) (AK.ld none (AX.t 20)) none 2 false true), (AOp.mk (some 22) (AK.len (AX.t 21)) none 3 false true), (AOp.mk (some 23) (AK.bin false BinOp.lss (AX.t 19) (AX.t 22)) none 4 false true)]) (AC.cond (AX.t 23) AC.skip (AC.exit 2))) (AC.seq (AC.block 3 (AC.seq (AC.ops [(AOp.mk (some 7) (AK.mv (AX.c (PV.val (Value.int IntKind.i64 0)))) none 0 false true)]) (AC.seq (AC.seq (AC.ops [(AOp.mk (some 26) (AK.mv (AX.t 6)) none 0 false true), (AOp.mk (some 27) (AK.mv (AX.t 4)) none 1 false true), (AOp.mk (some 28) (AK.bin false BinOp.neq (AX.t 26) (AX.t 27)) none 2 false true)]) (AC.cond (AX.t 28) (AC.seq (AC.ops [(AOp.mk (some 30) (AK.ld (some 2) (AX.t 1)) none 0 false true), (AOp.mk (some 31) (AK.mv (AX.t 4)) none 1 false true), (AOp.mk (some 32) (AK.mv (AX.t 6)) none 2 false true), (AOp.mk (some 33) (AK.call 23 [(AX.t 30), (AX.t 31), (AX.t 32)]) none 3 false true), (AOp.mk (some 29) (AK.mv (AX.t 33)) none 4 false true), (AOp.mk (some 34) (AK.ext (AX.t 29) 0) none 5 false true), (AOp.mk (some 35) (AK.ext (AX.t 29) 1) none 6 false true), (AOp.mk (some 8) (AK.mv (AX.t 34)) none 7 false true), (AOp.mk (some 9) (AK.mv (AX.t 35)) none 8 false true)]) (AC.seq (AC.seq (AC.ops [(AOp.mk (some 36) (AK.mv (AX.t 9)) none 0 false true), (AOp.mk (some 37) (AK.bin false BinOp.neq (AX.t 36) (AX.c (PV.val (Value.int IntKind.i64 0)))) none 1 false true)]) (AC.cond (AX.t 37) (AC.seq (AC.ops [(AOp.mk (some 2) (AK.mv (AX.c (PV.sl SK.full 0 []))) none 0 false true)]) AC.ret) AC.skip)) (AC.ops [(AOp.mk (some 38) (AK.mv (AX.t 8)) none 0 false true), (AOp.mk (some 7) (AK.mv (AX.t 38)) none 1 false true)]))) AC.skip)) (AC.ops [(AOp.mk (some 39) (AK.mv (AX.t 5)) none 0 false true), (AOp.mk (some 40) (AK.mv (AX.t 7)) none 1 false true), (AOp.mk (some 41) (AK.bslice false 3 1 1 [(PV.val (Value.int IntKind.i64 0))] [(0, (1, (AX.t 40)))]) none 2 false true), (AOp.mk (some 42) (AK.app false 3 1 8 [(PV.val (Value.int IntKind.i64 0))] (AX.t 39) (AX.t 41)) none 3 false true), (AOp.mk (some 5) (AK.mv (AX.t 42)) none 4 false true)])))) (AC.ops [(AOp.mk (some 24) (AK.mv (AX.t 6)) none 0 false true), (AOp.mk (some 25) (AK.bin false BinOp.add (AX.t 24) (AX.c (PV.val (Value.int IntKind.i64 1)))) none 1 false true), (AOp.mk (some 6) (AK.mv (AX.t 25)) none 2 false true)])))))) (AC.ops [(AOp.mk (some 43) (AK.mv (AX.t 3)) none 0 false true), (AOp.mk (some 44) (AK.mv (AX.t 5)) none 1 false true), (AOp.mk (some 45) (AK.bslice false 26 1 1 [(PV.sl SK.full 0 [])] [(0, (1, (AX.t 44)))]) none 2 false true), (AOp.mk (some 46) (AK.app false 26 1 24 [(PV.sl SK.full 0 [])] (AX.t 43) (AX.t 45)) none 3 false true), (AOp.mk (some 3) (AK.mv (AX.t 46)) none 4 false true)])))) (AC.ops [(AOp.mk (some 16) (AK.mv (AX.t 4)) none 0 false true), (AOp.mk (some 17) (AK.bin false BinOp.add (AX.t 16) (AX.c (PV.val (Value.int IntKind.i64 1)))) none 1 false true), (AOp.mk (some 4) (AK.mv (AX.t 17)) none 2 false true)])))))) (AC.seq (AC.ops [(AOp.mk (some 47) (AK.mv (AX.t 3)) none 0 false true), (AOp.mk (some 2) (AK.mv (AX.t 47)) none 1 false true)]) AC.ret))))
theorem ac47_ok : cCode Try.prog (fun _ => false) Try.f47.ntmps (Try.f47.body.getD .skip) = some ac47 := by kernel_rfl
def sizeJ (bits : List Int) (p : Nat) : Int := rndI (IntKind.i64.wrap (takeL bits p + IntKind.i64.wrap ((p : Int) * takeL bits 2))) 4
def sizesJ (r : Nat) (bits : List Int) : List Int := (List.range r).map (sizeJ bits)
theorem sizesJ_len (r : Nat) (bits : List Int) : (sizesJ r bits).length = r := by simp [sizesJ]
theorem sizesJ_ok (r : Nat) (bits : List Int) : ∀ x ∈ sizesJ r bits, 0 ≤ x ∧ x ≤ 3 := by
  intro x hx
  obtain ⟨p, -, rfl⟩ := List.mem_map.1 hx
  have := rndI_range (n := IntKind.i64.wrap (takeL bits p + IntKind.i64.wrap ((p : Int) * takeL bits 2))) (m := 4) (by omega)
  unfold sizeJ
  omega
theorem sizesJ_next (r : Nat) (bits : List Int) : ((sizesJ (r + 1) bits).map fun x => [pi x]) = ((sizesJ r bits).map fun x => [pi x]) ++ [[pi (sizeJ bits r)]] := by
  unfold sizesJ
  rw [List.range_succ, List.map_append, List.map_append]
  rfl
theorem sizes2_sem (r : Nat) (hr8 : r ≤ 1000) (bits : List Int) : Sem1 49 [pi r, pis bits] (pis (sizesJ r bits)) := by
  refine semC_of_exec' mixed Try.func49 (by kernel_rfl) (by kernel_rfl) ac49_ok 2 rfl (by decide) [(.tmp 4)] (by kernel_rfl) ?_
  intro hr C hC hI
  unfold ac49
  simp only [go_sem, Nat.reduceBEq]
  refine loop_g (α := Nat × Option Nat) (fun a => a.1 ≤ r ∧ (a.2 = none → a.1 = 0)) (fun a => r - a.1) [0, 1] (fun a => [(5, .p (slG 3 a.2 ((sizesJ a.1 bits).map fun x => [pi x]))), (6, .p (pi a.1))]) (fun _ => []) (fun a => a.2.toList) (0, none) ⟨by omega, fun _ => rfl⟩ (by simp [Wk, wkT, wkL, look, AV.lo, upS_eq, keepS_nil, keepS_cons, slG]) ?_
  rintro ⟨j, o⟩ ⟨hj, hok⟩
  replace hj : j ≤ r := hj
  replace hok : o = none → j = 0 := hok
  have hnx := sizesJ_next j bits
  have h0 : o = none → ((sizesJ j bits).map fun x => [pi x]) = [] := fun e => by rw [hok e]; rfl
  simp only [go_sem, Nat.reduceBEq]
  refine ⟨fun h5 => ?_, fun h5 => ?_⟩
  · have hj2 : j < r := by omega
    refine call_pure2 hC (Take_sem bits j) rfl (PVleL_refl _) ?_
    rintro r rfl
    simp only [go_sem, Nat.reduceBEq]
    refine call_pure2 hC (Take_sem bits 2) rfl (PVleL_refl _) ?_
    rintro r rfl
    simp only [go_sem, Nat.reduceBEq]
    refine call_pure2 hC (Round_sem ..) rfl (PVleL_refl _) ?_
    rintro r rfl
    simp only [go_sem, Nat.reduceBEq]
    refine app_slG h0 (by rw [List.length_map, sizesJ_len]; omega) (by simp) fun tk htk => ?_
    simp only [go_sem, Nat.reduceBEq, wrap_succ (k := j) (by omega)]
    refine ⟨⟨(j + 1, some tk), hj2, (fun h => by cases h)⟩, by simp only; omega, ?_⟩
    simp only [hnx]
    refine ⟨by simp [wkT, look, AV.lo, sizeJ], trivial, by simp, by simp, rfl, rfl, by simp⟩
  · have hjn : j = r := by omega
    subst hjn
    exact retQ_slG h0 rfl rfl
def kindJ (b : DBook) (i q : Nat) : Int := if q = i then 0 else sameI b i q
def kindR (b : DBook) (i j : Nat) : List Int := (List.range j).map (kindJ b i)
def kindsL (b : DBook) (i : Nat) : List (List Int) := (List.range i).map fun x => kindR b x b.horses.length
theorem kindR_next (b : DBook) (i j : Nat) : ((kindR b i (j + 1)).map fun x => [pi x]) = ((kindR b i j).map fun x => [pi x]) ++ [[pi (kindJ b i j)]] := by
  unfold kindR
  rw [List.range_succ, List.map_append, List.map_append]
  rfl
theorem kindsL_next (b : DBook) (i : Nat) : kindsL b (i + 1) = kindsL b i ++ [kindR b i b.horses.length] := by
  unfold kindsL
  rw [List.range_succ, List.map_append]
  rfl
def rowsG (e : TypeId) (os : List (Option Nat)) (rows : List (List Int)) : List (List PV) := List.zipWith (fun o r => [slG e o (r.map fun x => [pi x])]) os rows
theorem kindR_len (b : DBook) (i j : Nat) : (kindR b i j).length = j := by simp [kindR]
theorem kindsL_len (b : DBook) (i : Nat) : (kindsL b i).length = i := by simp [kindsL]
theorem kindsL_end {b : DBook} {i : Nat} : kindsL b i = (List.range i).map fun x => kindR b x b.horses.length := rfl
end Go.Proofs.Ythibnlfbdbidjaa
namespace Go.Proofs.Ythibnlfbdbidjaa
open Go.RowKit
def ac22 : AC := (AC.seq (AC.ops [(AOp.mk (some 1) (AK.box 2 (AX.t 0)) none 0 false true), (AOp.mk (some 2) (AK.mv (AX.c (PV.val (Value.int IntKind.i64 0)))) none 1 false true)]) (AC.seq (AC.ops [(AOp.mk (some 6) (AK.fadr 0 (AX.t 1)) none 0 false true), (AOp.mk (some 7) (AK.ld none (AX.t 6)) none 1 false true), (AOp.mk (some 8) (AK.call 45 [(AX.t 7), (AX.c (PV.val (Value.int IntKind.i64 1))), (AX.c (PV.val (Value.int IntKind.i64 8)))]) none 2 false true), (AOp.mk (some 9) (AK.mv (AX.t 8)) none 3 false true), (AOp.mk (some 10) (AK.fadr 1 (AX.t 1)) (some (9, true)) 4 false true), (AOp.mk (some 11) (AK.ld none (AX.t 10)) (some (9, true)) 5 false true), (AOp.mk (some 12) (AK.len (AX.t 11)) (some (9, true)) 6 false true), (AOp.mk (some 13) (AK.call 45 [(AX.t 12), (AX.c (PV.val (Value.int IntKind.i64 1))), (AX.c (PV.val (Value.int IntKind.i64 6)))]) (some (9, true)) 7 false true), (AOp.mk (some 14) (AK.pick (AX.t 9) (AX.t 13) (AX.c (PV.val (Value.bool false)))) none 8 false true), (AOp.mk (some 3) (AK.mv (AX.t 14)) none 9 false true)]) (AC.seq (AC.seq (AC.ops [(AOp.mk (some 4) (AK.mv (AX.c (PV.val (Value.int IntKind.i64 0)))) none 0 false true)]) (AC.block 0 (AC.loop (AC.seq (AC.seq (AC.ops [(AOp.mk (some 15) (AK.mv (AX.t 3)) none 0 false true), (AOp.mk (some 16) (AK.mv (AX.t 15)) none 1 false true), (AOp.mk (some 17) (AK.mv (AX.t 4)) (some (16, true)) 2 false true), (AOp.mk (some 18) (AK.fadr 1 (AX.t 1)) (some (16, true)) 3 false true), (AOp.mk (some 19) (AK.ld none (AX.t 18)) (some (16, true)) 4 false true), (AOp.mk (some 20) (AK.len (AX.t 19)) (some (16, true)) 5 false true), (AOp.mk (some 21) (AK.bin false BinOp.lss (AX.t 17) (AX.t 20)) (some (16, true)) 6 false true), (AOp.mk (some 22) (AK.pick (AX.t 16) (AX.t 21) (AX.c (PV.val (Value.bool false)))) none 7 false true)]) (AC.cond (AX.t 22) AC.skip (AC.exit 0))) (AC.seq (AC.block 1 (AC.seq (AC.ops [(AOp.mk (some 25) (AK.fadr 1 (AX.t 1)) none 0 true false), (AOp.mk (some 26) (AK.ld none (AX.t 25)) none 1 true false), (AOp.mk (some 27) (AK.mv (AX.t 4)) none 2 true false), (AOp.mk (some 28) (AK.iadrS 1 (AX.t 26) (AX.t 27)) none 3 true false), (AOp.mk (some 29) (AK.ld none (AX.t 28)) none 4 true false), (AOp.mk (some 30) (AK.len (AX.t 29)) none 5 true false), (AOp.mk (some 31) (AK.fadr 0 (AX.t 1)) none 6 true false), (AOp.mk (some 32) (AK.ld none (AX.t 31)) none 7 true false), (AOp.mk (some 33) (AK.bin false BinOp.eql (AX.t 30) (AX.t 32)) none 8 true true), (AOp.mk (some 3) (AK.mv (AX.t 33)) none 9 true true)]) (AC.seq (AC.ops [(AOp.mk (some 5) (AK.mv (AX.c (PV.val (Value.int IntKind.i64 0)))) none 0 false true)]) (AC.block 2 (AC.loop (AC.seq (AC.seq (AC.ops [(AOp.mk (some 34) (AK.mv (AX.t 3)) none 0 false true), (AOp.mk (some 35) (AK.mv (AX.t 34)) none 1 false true), (AOp.mk (some 36) (AK.mv (AX.t 5)) (some (35, true)) 2 false true), (AOp.mk (some 37) (AK.fadr 0 (AX.t 1)) (some (35, true)) 3 false true), (AOp.mk (some 38) (AK.ld none (AX.t 37)) (some (35, true)) 4 false true), (AOp.mk (some 39) (AK.bin false BinOp.lss (AX.t 36) (AX.t 38)) (some (35, true)) 5 false true), (AOp.mk (some 40) (AK.pick (AX.t 35) (AX.t 39) (AX.c (PV.val (Value.bool false)))) none 6 false true)]) (AC.cond (AX.t 40) AC.skip (AC.exit 2))) (AC.seq (AC.block 3 (AC.ops [(AOp.mk (some 43) (AK.fadr 1 (AX.t 1)) none 0 false true), (AOp.mk (some 44) (AK.ld none (AX.t 43)) none 1 false true), (AOp.mk (some 45) (AK.mv (AX.t 4)) none 2 false true), (AOp.mk (some 46) (AK.iadrS 1 (AX.t 44) (AX.t 45)) none 3 false true), (AOp.mk (some 47) (AK.ld none (AX.t 46)) none 4 false true), (AOp.mk (some 48) (AK.mv (AX.t 5)) none 5 false true), (AOp.mk (some 49) (AK.iadrS 1 (AX.t 47) (AX.t 48)) none 6 false true), (AOp.mk (some 50) (AK.ld none (AX.t 49)) none 7 false true), (AOp.mk (some 51) (AK.call 45 [(AX.t 50), (AX.c (PV.val (Value.int IntKind.i64 1))), (AX.c (PV.val (Value.int IntKind.i64 15)))]) none 8 false true), (AOp.mk (some 3) (AK.mv (AX.t 51)) none 9 false true)])) (AC.ops [(AOp.mk (some 41) (AK.mv (AX.t 5)) none 0 false true), (AOp.mk (some 42) (AK.bin false BinOp.add (AX.t 41) (AX.c (PV.val (Value.int IntKind.i64 1)))) none 1 false true), (AOp.mk (some 5) (AK.mv (AX.t 42)) none 2 false true)])))))))) (AC.ops [(AOp.mk (some 23) (AK.mv (AX.t 4)) none 0 false true), (AOp.mk (some 24) (AK.bin false BinOp.add (AX.t 23) (AX.c (PV.val (Value.int IntKind.i64 1)))) none 1 false true), (AOp.mk (some 4) (AK.mv (AX.t 24)) none 2 false true)])))))) (AC.seq (AC.seq (AC.ops [(AOp.mk (some 52) (AK.mv (AX.t 3)) none 0 false true), (AOp.mk (some 53) (AK.un UnOp.not (AX.t 52)) none 1 false true)]) (AC.cond (AX.t 53) (AC.seq (AC.ops [(AOp.mk (some 2) (AK.mv (AX.c (PV.val (Value.int IntKind.i64 70)))) none 0 false true)]) AC.ret) AC.skip)) (AC.seq (AC.ops [(AOp.mk (some 2) (AK.mv (AX.c (PV.val (Value.int IntKind.i64 0)))) none 0 false true)]) AC.ret)))))
theorem ac22_ok : cCode Try.prog (fun _ => false) Try.f22.ntmps (Try.f22.body.getD .skip) = some ac22 := by kernel_rfl
def ac102 : AC := (AC.seq (AC.ops [(AOp.mk (some 2) (AK.box 2 (AX.t 0)) none 0 false true), (AOp.mk (some 4) (AK.mv (AX.c (PV.val (Value.bool false)))) none 1 false true)]) (AC.seq (AC.ops [(AOp.mk (some 5) (AK.mv (AX.t 1)) none 0 false true), (AOp.mk (some 6) (AK.fadr 1 (AX.t 2)) none 1 false true), (AOp.mk (some 7) (AK.ld none (AX.t 6)) none 2 false true), (AOp.mk (some 8) (AK.len (AX.t 7)) none 3 false true), (AOp.mk (some 9) (AK.bin false BinOp.sub (AX.t 8) (AX.c (PV.val (Value.int IntKind.i64 1)))) none 4 false true), (AOp.mk (some 10) (AK.call 45 [(AX.t 5), (AX.c (PV.val (Value.int IntKind.i64 0))), (AX.t 9)]) none 5 false true), (AOp.mk (some 4) (AK.mv (AX.t 10)) none 6 false true)]) AC.ret))
theorem ac102_ok : cCode Try.prog (fun _ => false) Try.f102.ntmps (Try.f102.body.getD .skip) = some ac102 := by kernel_rfl
def ac70 : AC := (AC.seq (AC.ops [(AOp.mk (some 3) (AK.box 2 (AX.t 0)) none 0 false true), (AOp.mk (some 6) (AK.mv (AX.c (PV.val (Value.bool false)))) none 1 false true)]) (AC.seq (AC.ops [(AOp.mk (some 7) (AK.ld (some 2) (AX.t 3)) none 0 false true), (AOp.mk (some 8) (AK.mv (AX.t 1)) none 1 false true), (AOp.mk (some 9) (AK.call 102 [(AX.t 7), (AX.t 8)]) none 2 false true), (AOp.mk (some 10) (AK.mv (AX.t 9)) none 3 false true), (AOp.mk (some 11) (AK.ld (some 2) (AX.t 3)) (some (10, true)) 4 false true), (AOp.mk (some 12) (AK.mv (AX.t 2)) (some (10, true)) 5 false true), (AOp.mk (some 13) (AK.call 102 [(AX.t 11), (AX.t 12)]) (some (10, true)) 6 false true), (AOp.mk (some 14) (AK.pick (AX.t 10) (AX.t 13) (AX.c (PV.val (Value.bool false)))) none 7 false true), (AOp.mk (some 15) (AK.mv (AX.t 14)) none 8 false true), (AOp.mk (some 16) (AK.mv (AX.t 1)) (some (15, true)) 9 false true), (AOp.mk (some 17) (AK.mv (AX.t 2)) (some (15, true)) 10 false true), (AOp.mk (some 18) (AK.bin false BinOp.neq (AX.t 16) (AX.t 17)) (some (15, true)) 11 false true), (AOp.mk (some 19) (AK.pick (AX.t 15) (AX.t 18) (AX.c (PV.val (Value.bool false)))) none 12 false true), (AOp.mk (some 6) (AK.mv (AX.t 19)) none 13 false true)]) AC.ret))
theorem ac70_ok : cCode Try.prog (fun _ => false) Try.f70.ntmps (Try.f70.body.getD .skip) = some ac70 := by kernel_rfl
def ac103 : AC := (AC.seq (AC.ops [(AOp.mk (some 6) (AK.mv (AX.c (PV.val (Value.bool false)))) none 0 false true)]) (AC.seq (AC.ops [(AOp.mk (some 7) (AK.mv (AX.c (PV.val (Value.bool true)))) none 0 false true)]) (AC.seq (AC.seq (AC.ops [(AOp.mk (some 8) (AK.mv (AX.c (PV.val (Value.int IntKind.i64 0)))) none 0 false true)]) (AC.block 0 (AC.loop (AC.seq (AC.seq (AC.ops [(AOp.mk (some 9) (AK.mv (AX.t 8)) none 0 false true), (AOp.mk (some 10) (AK.mv (AX.t 0)) none 1 false true), (AOp.mk (some 11) (AK.len (AX.t 10)) none 2 false true), (AOp.mk (some 12) (AK.bin false BinOp.lss (AX.t 9) (AX.t 11)) none 3 false true)]) (AC.cond (AX.t 12) AC.skip (AC.exit 0))) (AC.seq (AC.block 1 (AC.ops [(AOp.mk (some 15) (AK.mv (AX.t 7)) none 0 true true), (AOp.mk (some 16) (AK.mv (AX.t 15)) none 1 true true), (AOp.mk (some 17) (AK.mv (AX.t 0)) (some (16, true)) 2 true false), (AOp.mk (some 18) (AK.mv (AX.t 8)) (some (16, true)) 3 true false), (AOp.mk (some 19) (AK.mv (AX.t 2)) (some (16, true)) 4 true false), (AOp.mk (some 20) (AK.bin false BinOp.add (AX.t 18) (AX.t 19)) (some (16, true)) 5 true false), (AOp.mk (some 21) (AK.mv (AX.t 0)) (some (16, true)) 6 true false), (AOp.mk (some 22) (AK.len (AX.t 21)) (some (16, true)) 7 true false), (AOp.mk (some 23) (AK.bin false BinOp.rem (AX.t 20) (AX.t 22)) (some (16, true)) 8 true false), (AOp.mk (some 24) (AK.iadrS 1 (AX.t 17) (AX.t 23)) (some (16, true)) 9 true false), (AOp.mk (some 25) (AK.ld none (AX.t 24)) (some (16, true)) 10 true false), (AOp.mk (some 26) (AK.mv (AX.t 1)) (some (16, true)) 11 true false), (AOp.mk (some 27) (AK.mv (AX.t 8)) (some (16, true)) 12 true false), (AOp.mk (some 28) (AK.iadrS 1 (AX.t 26) (AX.t 27)) (some (16, true)) 13 true false), (AOp.mk (some 29) (AK.ld none (AX.t 28)) (some (16, true)) 14 true false), (AOp.mk (some 30) (AK.bin false BinOp.and (AX.t 25) (AX.t 29)) (some (16, true)) 15 true true), (AOp.mk (some 31) (AK.bin false BinOp.neq (AX.t 30) (AX.c (PV.val (Value.int IntKind.i64 0)))) (some (16, true)) 16 true true), (AOp.mk (some 32) (AK.pick (AX.t 16) (AX.t 31) (AX.c (PV.val (Value.bool false)))) none 17 true true), (AOp.mk (some 7) (AK.mv (AX.t 32)) none 18 true true)])) (AC.ops [(AOp.mk (some 13) (AK.mv (AX.t 8)) none 0 false true), (AOp.mk (some 14) (AK.bin false BinOp.add (AX.t 13) (AX.c (PV.val (Value.int IntKind.i64 1)))) none 1 false true), (AOp.mk (some 8) (AK.mv (AX.t 14)) none 2 false true)])))))) (AC.seq (AC.ops [(AOp.mk (some 33) (AK.mv (AX.t 7)) none 0 false true), (AOp.mk (some 6) (AK.mv (AX.t 33)) none 1 false true)]) AC.ret))))
theorem ac103_ok : cCode Try.prog (fun _ => false) Try.f103.ntmps (Try.f103.body.getD .skip) = some ac103 := by kernel_rfl
def ac71 : AC := (AC.seq (AC.ops [(AOp.mk (some 4) (AK.mv (AX.c (PV.sl SK.full 0 []))) none 0 false true)]) (AC.seq (AC.ops [(AOp.mk (some 7) (AK.bslice false 3 1 0 [(PV.val (Value.int IntKind.i64 0))] []) none 0 false true), (AOp.mk (some 5) (AK.mv (AX.t 7)) none 1 false true)]) (AC.seq (AC.seq (AC.ops [(AOp.mk (some 6) (AK.mv (AX.c (PV.val (Value.int IntKind.i64 0)))) none 0 false true)]) (AC.block 0 (AC.loop (AC.seq (AC.seq (AC.ops [(AOp.mk (some 8) (AK.mv (AX.t 6)) none 0 false true), (AOp.mk (some 9) (AK.mv (AX.t 0)) none 1 false true), (AOp.mk (some 10) (AK.len (AX.t 9)) none 2 false true), (AOp.mk (some 11) (AK.bin false BinOp.lss (AX.t 8) (AX.t 10)) none 3 false true)]) (AC.cond (AX.t 11) AC.skip (AC.exit 0))) (AC.seq (AC.block 1 (AC.seq (AC.ops [(AOp.mk (some 14) (AK.mv (AX.t 0)) none 0 false true), (AOp.mk (some 15) (AK.mv (AX.t 1)) none 1 false true), (AOp.mk (some 16) (AK.mv (AX.t 6)) none 2 false true), (AOp.mk (some 17) (AK.call 103 [(AX.t 14), (AX.t 15), (AX.t 16)]) none 3 false true)]) (AC.cond (AX.t 17) (AC.ops [(AOp.mk (some 18) (AK.mv (AX.t 5)) none 0 false true), (AOp.mk (some 19) (AK.mv (AX.t 6)) none 1 false true), (AOp.mk (some 20) (AK.bslice false 3 1 1 [(PV.val (Value.int IntKind.i64 0))] [(0, (1, (AX.t 19)))]) none 2 false true), (AOp.mk (some 21) (AK.app false 3 1 8 [(PV.val (Value.int IntKind.i64 0))] (AX.t 18) (AX.t 20)) none 3 false true), (AOp.mk (some 5) (AK.mv (AX.t 21)) none 4 false true)]) AC.skip))) (AC.ops [(AOp.mk (some 12) (AK.mv (AX.t 6)) none 0 false true), (AOp.mk (some 13) (AK.bin false BinOp.add (AX.t 12) (AX.c (PV.val (Value.int IntKind.i64 1)))) none 1 false true), (AOp.mk (some 6) (AK.mv (AX.t 13)) none 2 false true)])))))) (AC.seq (AC.ops [(AOp.mk (some 22) (AK.mv (AX.t 5)) none 0 false true), (AOp.mk (some 4) (AK.mv (AX.t 22)) none 1 false true)]) AC.ret))))
theorem ac71_ok : cCode Try.prog (fun _ => false) Try.f71.ntmps (Try.f71.body.getD .skip) = some ac71 := by kernel_rfl
def ac109 : AC := (AC.seq (AC.ops [(AOp.mk (some 2) (AK.mv (AX.c (PV.val (Value.bool false)))) none 0 false true)]) (AC.seq (AC.ops [(AOp.mk (some 3) (AK.mv (AX.c (PV.val (Value.bool true)))) none 0 false true)]) (AC.seq (AC.seq (AC.ops [(AOp.mk (some 4) (AK.mv (AX.c (PV.val (Value.int IntKind.i64 0)))) none 0 false true)]) (AC.block 0 (AC.loop (AC.seq (AC.seq (AC.ops [(AOp.mk (some 5) (AK.mv (AX.t 4)) none 0 false true), (AOp.mk (some 6) (AK.mv (AX.t 0)) none 1 false true), (AOp.mk (some 7) (AK.len (AX.t 6)) none 2 false true), (AOp.mk (some 8) (AK.bin false BinOp.lss (AX.t 5) (AX.t 7)) none 3 false true)]) (AC.cond (AX.t 8) AC.skip (AC.exit 0))) (AC.seq (AC.block 1 (AC.ops [(AOp.mk (some 11) (AK.mv (AX.t 3)) none 0 false true), (AOp.mk (some 12) (AK.mv (AX.t 11)) none 1 false true), (AOp.mk (some 13) (AK.mv (AX.t 0)) (some (12, true)) 2 false true), (AOp.mk (some 14) (AK.mv (AX.t 4)) (some (12, true)) 3 false true), (AOp.mk (some 15) (AK.iadrS 1 (AX.t 13) (AX.t 14)) (some (12, true)) 4 false true), (AOp.mk (some 16) (AK.ld none (AX.t 15)) (some (12, true)) 5 false true), (AOp.mk (some 17) (AK.call 48 [(AX.t 16), (AX.c (PV.val (Value.int IntKind.i64 4)))]) (some (12, true)) 6 false true), (AOp.mk (some 18) (AK.len (AX.t 17)) (some (12, true)) 7 false true), (AOp.mk (some 19) (AK.bin false BinOp.eql (AX.t 18) (AX.c (PV.val (Value.int IntKind.i64 1)))) (some (12, true)) 8 false true), (AOp.mk (some 20) (AK.pick (AX.t 12) (AX.t 19) (AX.c (PV.val (Value.bool false)))) none 9 false true), (AOp.mk (some 3) (AK.mv (AX.t 20)) none 10 false true)])) (AC.ops [(AOp.mk (some 9) (AK.mv (AX.t 4)) none 0 false true), (AOp.mk (some 10) (AK.bin false BinOp.add (AX.t 9) (AX.c (PV.val (Value.int IntKind.i64 1)))) none 1 false true), (AOp.mk (some 4) (AK.mv (AX.t 10)) none 2 false true)])))))) (AC.seq (AC.ops [(AOp.mk (some 21) (AK.mv (AX.t 3)) none 0 false true), (AOp.mk (some 2) (AK.mv (AX.t 21)) none 1 false true)]) AC.ret))))
theorem ac109_ok : cCode Try.prog (fun _ => false) Try.f109.ntmps (Try.f109.body.getD .skip) = some ac109 := by kernel_rfl
theorem rCheck_sem (k : SK) (b : DBook) : Sem1 22 [.agg (bookC k b)] (pi (if okBook b then 0 else 70)) := by
  refine semC_of_exec' mixed Try.func22 (by kernel_rfl) (by kernel_rfl) ac22_ok 1 rfl (by decide) [(.tmp 2)] (by kernel_rfl) ?_
  intro hr C hC hI
  unfold ac22
  simp only [go_sem, Nat.reduceBEq, Nat.reduceAdd]
  refine call_pure2 hC (In_sem ..) rfl (PVleL_refl _) ?_
  rintro r rfl
  simp only [go_sem, Nat.reduceBEq, List.length_map]
  refine ⟨fun h1 => ?_, fun h1 => ?_⟩
  rotate_left
  · have ho : ¬ okBook b := fun ho => h1 ho.1
    rw [if_neg ho]
    refine loop_k 0 (fun _ => True) [1] (fun j => [(4, .p (pi 0)), (3, .p (pb false))]) trivial rfl ⟨rfl, by simp, by simp⟩ (by simp [wkT, look, AV.lo]) ?_
    rintro j ⟨hj, -⟩
    simp only [go_sem, Nat.reduceBEq]
    exact retQ_one rfl rfl
  refine call_pure2 hC (In_sem ..) rfl (PVleL_refl _) ?_
  rintro r rfl
  simp only [go_sem, Nat.reduceBEq]
  refine loop_g (α := Nat × Bool) (fun a => a.1 ≤ b.horses.length ∧ (a.2 = true → (1 ≤ b.horses.length ∧ b.horses.length ≤ 6) ∧ ∀ h ∈ b.horses.take a.1, okHorse b h) ∧ (a.2 = false → ¬ okBook b)) (fun a => b.horses.length - a.1) [1] (fun a => [(3, .p (pb a.2)), (4, .p (pi a.1))]) (fun _ => [.cells ((bookC k b).map .p)]) (fun _ => []) (0, decide ((1 : Int) ≤ b.horses.length ∧ (b.horses.length : Int) ≤ 6)) ⟨by omega, fun h => ⟨by have := of_decide_eq_true h; omega, by simp⟩, fun h ho => by have := of_decide_eq_false h; have := ho.2.1; omega⟩ (by simp [Wk, wkT, wkL, look, AV.lo, AV.lo.loL, upS_eq, keepS_nil, keepS_cons]) ?_
  rintro ⟨i, t⟩ ⟨hi, ht, hf⟩
  replace hi : i ≤ b.horses.length := hi
  cases t
  · have ho : ¬ okBook b := hf rfl
    rw [if_neg ho]
    simp only [go_sem, Nat.reduceBEq]
    exact retQ_one rfl rfl
  obtain ⟨h6, hall⟩ := ht rfl
  replace hall : ∀ h ∈ b.horses.take i, okHorse b h := hall
  simp only [go_sem, Nat.reduceBEq, List.length_map]
  refine ⟨fun h5 => ?_, fun h5 => ?_⟩
  · have hi2 : i < b.horses.length := by omega
    have eh := iadr_map (f := fun h => [pis h]) (kd := k) (sz := 1) hi2
    simp only [go_sem, Nat.reduceBEq, eh, List.length_map]
    refine loop_g (α := Nat × Bool) (fun a => a.1 ≤ b.round.toNat ∧ (a.2 = true → (b.horses[i].length : Int) = b.round ∧ ∀ x ∈ b.horses[i].take a.1, 1 ≤ x ∧ x ≤ 15) ∧ (a.2 = false → ¬ okHorse b b.horses[i])) (fun a => b.round.toNat - a.1) [1, 4] (fun a => [(3, .p (pb a.2)), (5, .p (pi a.1))]) (fun _ => [.cells ((bookC k b).map .p)]) (fun _ => []) (0, decide ((b.horses[i].length : Int) = b.round)) ⟨by omega, fun h => ⟨of_decide_eq_true h, by simp⟩, fun h ho => of_decide_eq_false h ho.1⟩ (by simp [Wk, wkT, wkL, look, AV.lo, AV.lo.loL, upS_eq, keepS_nil, keepS_cons]) ?_
    rintro ⟨q, t2⟩ ⟨hq, ht2, hf2⟩
    replace hq : q ≤ b.round.toNat := hq
    cases t2
    · have hno : ¬ okHorse b b.horses[i] := hf2 rfl
      simp only [go_sem, Nat.reduceBEq, wrap_succ (k := i) (by omega)]
      refine ⟨⟨(i + 1, false), hi2, (fun h => by cases h), fun _ ho => hno (ho.2.2 _ (List.getElem_mem hi2))⟩, by simp only; omega, by simp [Wk, wkT, wkL, look, AV.lo, AV.lo.loL, ABlk.toZ]⟩
    · obtain ⟨hlen, hx⟩ := ht2 rfl
      replace hx : ∀ x ∈ b.horses[i].take q, 1 ≤ x ∧ x ≤ 15 := hx
      simp only [go_sem, Nat.reduceBEq]
      refine ⟨fun h7 => ?_, fun h7 => ?_⟩
      · have hq2 : q < b.round.toNat := by omega
        have hq3 : q < b.horses[i].length := by omega
        simp only [go_sem, Nat.reduceBEq, eh, iadr_pis hq3]
        refine call_pure2 hC (In_sem ..) rfl (PVleL_refl _) ?_
        rintro r rfl
        simp only [go_sem, Nat.reduceBEq, wrap_succ (k := q) (by omega)]
        refine ⟨⟨(q + 1, decide (1 ≤ b.horses[i][q] ∧ b.horses[i][q] ≤ 15)), by omega, fun h => ⟨hlen, fun x hxm => ?_⟩, fun h ho => of_decide_eq_false h (ho.2 _ (List.getElem_mem hq3))⟩, by simp only; omega, by simp [Wk, wkT, wkL, look, AV.lo, AV.lo.loL, ABlk.toZ]⟩
        rw [List.take_succ_eq_append_getElem hq3, List.mem_append, List.mem_singleton] at hxm
        rcases hxm with hxm | rfl
        · exact hx x hxm
        · exact of_decide_eq_true h
      · have hqn : q = b.horses[i].length := by omega
        rw [hqn, List.take_length] at hx
        simp only [go_sem, wrap_succ (k := i) (by omega)]
        refine ⟨⟨(i + 1, true), hi2, fun _ => ⟨h6, fun h hm => ?_⟩, (fun h => by cases h)⟩, by simp only; omega, by simp [Wk, wkT, wkL, look, AV.lo, AV.lo.loL, ABlk.toZ]⟩
        rw [List.take_succ_eq_append_getElem hi2, List.mem_append, List.mem_singleton] at hm
        rcases hm with hm | rfl
        · exact hall h hm
        · exact ⟨hlen, hx⟩
  · have hin : i = b.horses.length := by omega
    rw [hin, List.take_length] at hall
    have ho : okBook b := ⟨h1, h6, hall⟩
    rw [if_pos ho]
    exact retQ_one rfl rfl
theorem rIsHorse_sem (k : SK) (b : DBook) (n : Int) (hl : b.horses.length ≤ 1000000) : Sem1 102 [.agg (bookC k b), pi n] (pb (decide (0 ≤ n ∧ n < b.horses.length))) := by
  refine semC_of_exec' mixed Try.func102 (by kernel_rfl) (by kernel_rfl) ac102_ok 2 rfl (by decide) [(.tmp 4)] (by kernel_rfl) ?_
  intro hr C hC hI
  unfold ac102
  simp only [go_sem, Nat.reduceBEq, Nat.reduceAdd, List.length_map, wrap_id (n := (b.horses.length : Int) - 1) (by omega) (by omega)]
  refine call_pure2 hC (In_sem ..) rfl (PVleL_refl _) ?_
  rintro r rfl
  simp only [go_sem, Nat.reduceBEq]
  exact retQ_one rfl (congrArg pb (decide_eq_decide.2 (by omega)))
theorem rPair_sem (k : SK) (b : DBook) (n m : Int) (hl : b.horses.length ≤ 1000000) : Sem1 70 [.agg (bookC k b), pi n, pi m] (pb (okPair b n m)) := by
  unfold okPair
  refine semC_of_exec' mixed Try.func70 (by kernel_rfl) (by kernel_rfl) ac70_ok 3 rfl (by decide) [(.tmp 6)] (by kernel_rfl) ?_
  intro hr C hC hI
  unfold ac70
  simp only [go_sem, Nat.reduceBEq, Nat.reduceAdd]
  refine call_pure2 hC (rIsHorse_sem k b n hl) rfl (PVleL_refl _) ?_
  rintro r rfl
  simp only [go_sem, Nat.reduceBEq, Nat.reduceAdd]
  refine ⟨fun h1 => ?_, fun h1 => retQ_one rfl (congrArg pb (decide_eq_false fun h => h1 h.1).symm)⟩
  refine call_pure2 hC (rIsHorse_sem k b m hl) rfl (PVleL_refl _) ?_
  rintro r rfl
  simp only [go_sem, Nat.reduceBEq]
  refine ⟨fun h2 => ?_, fun h2 => retQ_one rfl (congrArg pb (decide_eq_false fun h => h2 h.2.1).symm)⟩
  exact retQ_one rfl (congrArg pb (by rw [Bool.eq_iff_iff]; simp [h1, h2]))
def canL (x y : List Int) (t j : Nat) : Bool := (List.range j).all fun p => meetB (x.getD ((p + t) % x.length) 0) (y.getD p 0)
theorem canL_next (x y : List Int) (t j : Nat) : canL x y t (j + 1) = (canL x y t j && meetB (x.getD ((j + t) % x.length) 0) (y.getD j 0)) := by
  unfold canL
  rw [List.range_succ, List.all_append, List.all_cons, List.all_nil, Bool.and_true]
theorem bin_meet2 {x y : Int} : binS false .and (.p (pi x)) (.p (pi y)) = some (.p (pi (andI x y))) := by rw [bin_and]; rfl
theorem rcan_sem {x y : List Int} (h8 : x.length ≤ 8) (hxy : y.length = x.length) {t : Nat} (ht : t < x.length) : Sem1 103 [pis x, pis y, pi t] (pb (canL x y t x.length)) := by
  refine semC_of_exec' mixed Try.func103 (by kernel_rfl) (by kernel_rfl) ac103_ok 3 rfl (by decide) [(.tmp 6)] (by kernel_rfl) ?_
  intro hr C hC hI
  unfold ac103
  simp only [go_sem, Nat.reduceAdd]
  have hc0 : canL x y t 0 = true := rfl
  refine loop_k x.length (fun _ => True) [0, 1, 2] (fun j => [(7, .p (pb (canL x y t j))), (8, .p (pi j))]) trivial rfl ⟨rfl, by simp, by simp⟩ (by show wkT _ _ [(7, .p (pb (canL x y t 0))), _]; rw [hc0]; exact by simp [wkT, look, AV.lo]) ?_
  rintro j ⟨hj, -⟩
  have hSj := canL_next x y t j
  simp only [go_sem, Nat.reduceBEq, List.length_map]
  refine ⟨fun h5 => ?_, fun h5 => ?_⟩
  · have hj2 : j < x.length := by omega
    have hm : (j + t) % x.length < x.length := Nat.mod_lt _ (by omega)
    have hmod : ((j : Int) + t).tmod x.length = (((j + t) % x.length : Nat) : Int) := Int.tmod_eq_emod_of_nonneg (by omega)
    have hv1 : x[(j + t) % x.length] = x.getD ((j + t) % x.length) 0 := by simp [List.getD_eq_getElem?_getD, List.getElem?_eq_getElem hm]
    have hv2 : y[j]'(by omega) = y.getD j 0 := by simp [List.getD_eq_getElem?_getD, List.getElem?_eq_getElem (show j < y.length by omega)]
    cases hs : canL x y t j
    · rw [hs, Bool.false_and] at hSj
      simp only [go_sem, Nat.reduceBEq, wrap_succ (k := j) (by omega)]
      refine ⟨⟨j + 1, hj2, trivial⟩, by simp only; omega, ?_⟩
      simp only [hSj]
      exact by simp [Wk, wkT, wkL, look, AV.lo]
    · rw [hs, Bool.true_and] at hSj
      have hmt : meetB (x.getD ((j + t) % x.length) 0) (y.getD j 0) = decide (¬ andI (x.getD ((j + t) % x.length) 0) (y.getD j 0) = 0) := rfl
      rw [hmt] at hSj
      simp only [go_sem, Nat.reduceBEq, List.length_map, wrap_id (n := (j : Int) + t) (by omega) (by omega), bin_rem (show ¬ (x.length : Int) = 0 by omega), hmod, iadr_pis hm, iadr_pis (show j < y.length by omega), hv1, hv2, bin_meet2, wrap_succ (k := j) (by omega)]
      refine ⟨⟨j + 1, hj2, trivial⟩, by simp only; omega, ?_⟩
      simp only [hSj]
      exact by simp [Wk, wkT, wkL, look, AV.lo]
  · have hjn : j = x.length := by omega
    subst hjn
    exact retQ_one rfl rfl
def turnsR (x y : List Int) (j : Nat) : List Int := natL ((List.range j).filter fun t => canL x y t x.length)
theorem turnsR_next (x y : List Int) (j : Nat) : ((turnsR x y (j + 1)).map fun x => [pi x]) = ((turnsR x y j).map fun x => [pi x]) ++ if canL x y j x.length then [[pi j]] else [] := by
  unfold turnsR
  rw [filt_next, List.map_append]
  split <;> rfl
theorem turnsR_len (x y : List Int) (j : Nat) : (turnsR x y j).length ≤ j := filt_len _ j
theorem rturns_sem {x y : List Int} (h8 : x.length ≤ 8) (hxy : y.length = x.length) : Sem1 71 [pis x, pis y] (pis (turnsR x y x.length)) := by
  refine semC_of_exec' mixed Try.func71 (by kernel_rfl) (by kernel_rfl) ac71_ok 2 rfl (by decide) [(.tmp 4)] (by kernel_rfl) ?_
  intro hr C hC hI
  unfold ac71
  simp only [go_sem, Nat.reduceBEq]
  refine loop_g (α := Nat × Option Nat) (fun a => a.1 ≤ x.length ∧ (a.2 = none → turnsR x y a.1 = [])) (fun a => x.length - a.1) [0, 1] (fun a => [(5, .p (slG 3 a.2 ((turnsR x y a.1).map fun x => [pi x]))), (6, .p (pi a.1))]) (fun _ => []) (fun a => a.2.toList) (0, none) ⟨by omega, fun _ => rfl⟩ (by simp [Wk, wkT, wkL, look, AV.lo, upS_eq, keepS_nil, keepS_cons, slG]) ?_
  rintro ⟨j, o⟩ ⟨hj, hok⟩
  replace hj : j ≤ x.length := hj
  replace hok : o = none → turnsR x y j = [] := hok
  have hnx := turnsR_next x y j
  have hln := turnsR_len x y j
  have h0 : o = none → ((turnsR x y j).map fun x => [pi x]) = [] := fun e => by rw [hok e]; rfl
  simp only [go_sem, Nat.reduceBEq, List.length_map]
  refine ⟨fun h5 => ?_, fun h5 => ?_⟩
  · have hj2 : j < x.length := by omega
    refine call_pure2 hC (rcan_sem h8 hxy hj2) rfl (PVleL_refl _) ?_
    rintro r rfl
    simp only [go_sem, Nat.reduceBEq]
    cases hp : canL x y j x.length
    · rw [hp, if_neg (by decide), List.append_nil] at hnx
      simp only [go_sem, Nat.reduceBEq, wrap_succ (k := j) (by omega)]
      refine ⟨⟨(j + 1, o), hj2, fun h => ?_⟩, by simp only; omega, ?_⟩
      · have := h0 h
        rw [← hnx] at this
        exact List.map_eq_nil_iff.1 this
      · simp only [hnx]
        cases o <;> exact by simp [Wk, wkT, wkL, look, AV.lo]
    · rw [hp, if_pos rfl] at hnx
      simp only [go_sem, Nat.reduceBEq]
      refine app_slG h0 (by rw [List.length_map]; omega) (by simp) fun tk htk => ?_
      simp only [go_sem, Nat.reduceBEq, wrap_succ (k := j) (by omega)]
      refine ⟨⟨(j + 1, some tk), hj2, (fun h => by cases h)⟩, by simp only; omega, ?_⟩
      simp only [hnx]
      refine ⟨by simp [wkT, look, AV.lo], trivial, by simp, by simp, rfl, rfl, by simp⟩
  · have hjn : j = x.length := by omega
    subst hjn
    exact retQ_slG h0 rfl rfl
def knownL (x : List Int) (j : Nat) : Bool := (List.range j).all fun p => decide (((listI (x.getD p 0) 4).length : Int) = 1)
theorem knownL_next (x : List Int) (j : Nat) : knownL x (j + 1) = (knownL x j && decide (((listI (x.getD j 0) 4).length : Int) = 1)) := by
  unfold knownL
  rw [List.range_succ, List.all_append, List.all_cons, List.all_nil, Bool.and_true]
theorem rknown_sem {x : List Int} (h8 : x.length ≤ 8) : Sem1 109 [pis x] (pb (knownL x x.length)) := by
  refine semC_of_exec' mixed Try.func109 (by kernel_rfl) (by kernel_rfl) ac109_ok 1 rfl (by decide) [(.tmp 2)] (by kernel_rfl) ?_
  intro hr C hC hI
  unfold ac109
  simp only [go_sem]
  have hc0 : knownL x 0 = true := rfl
  refine loop_k x.length (fun _ => True) [0] (fun j => [(3, .p (pb (knownL x j))), (4, .p (pi j))]) trivial rfl ⟨rfl, by simp, by simp⟩ (by show wkT _ _ [(3, .p (pb (knownL x 0))), _]; rw [hc0]; exact by simp [wkT, look, AV.lo]) ?_
  rintro j ⟨hj, -⟩
  have hSj := knownL_next x j
  simp only [go_sem, Nat.reduceBEq, List.length_map]
  refine ⟨fun h5 => ?_, fun h5 => ?_⟩
  · have hj2 : j < x.length := by omega
    have hv1 : x[j] = x.getD j 0 := by simp [List.getD_eq_getElem?_getD, List.getElem?_eq_getElem hj2]
    cases hs : knownL x j
    · rw [hs, Bool.false_and] at hSj
      simp only [go_sem, Nat.reduceBEq, wrap_succ (k := j) (by omega)]
      refine ⟨⟨j + 1, hj2, trivial⟩, by simp only; omega, ?_⟩
      simp only [hSj]
      exact by simp [Wk, wkT, wkL, look, AV.lo]
    · rw [hs, Bool.true_and] at hSj
      simp only [go_sem, Nat.reduceBEq, iadr_pis hj2, hv1]
      refine call_pure2 hC (List_sem (x.getD j 0) 4 (by omega)) rfl (PVleL_refl _) ?_
      rintro r rfl
      simp only [go_sem, Nat.reduceBEq, List.length_map, wrap_succ (k := j) (by omega)]
      refine ⟨⟨j + 1, hj2, trivial⟩, by simp only; omega, ?_⟩
      simp only [hSj]
      exact by simp [Wk, wkT, wkL, look, AV.lo]
  · have hjn : j = x.length := by omega
    subst hjn
    exact retQ_one rfl rfl
end Go.Proofs.Ythibnlfbdbidjaa
namespace Go.Proofs.Ythibnlfbdbidjaa
open Go.RowKit
def ac74 : AC := (AC.seq (AC.ops [(AOp.mk (some 3) (AK.box 2 (AX.t 0)) none 0 false true), (AOp.mk (some 6) (AK.mv (AX.c (PV.val (Value.int IntKind.i64 0)))) none 1 false true)]) (AC.seq (AC.ops [(AOp.mk (some 9) (AK.fadr 1 (AX.t 3)) none 0 true false), (AOp.mk (some 10) (AK.ld none (AX.t 9)) none 1 true false), (AOp.mk (some 11) (AK.mv (AX.t 1)) none 2 true false), (AOp.mk (some 12) (AK.iadrS 1 (AX.t 10) (AX.t 11)) none 3 true false), (AOp.mk (some 13) (AK.ld none (AX.t 12)) none 4 true false), (AOp.mk (some 14) (AK.fadr 1 (AX.t 3)) none 5 true false), (AOp.mk (some 15) (AK.ld none (AX.t 14)) none 6 true false), (AOp.mk (some 16) (AK.mv (AX.t 2)) none 7 true false), (AOp.mk (some 17) (AK.iadrS 1 (AX.t 15) (AX.t 16)) none 8 true false), (AOp.mk (some 18) (AK.ld none (AX.t 17)) none 9 true false), (AOp.mk (some 7) (AK.mv (AX.t 13)) none 10 true false), (AOp.mk (some 8) (AK.mv (AX.t 18)) none 11 true true)]) (AC.seq (AC.seq (AC.ops [(AOp.mk (some 19) (AK.mv (AX.t 7)) none 0 false true), (AOp.mk (some 20) (AK.mv (AX.t 8)) none 1 false true), (AOp.mk (some 21) (AK.call 71 [(AX.t 19), (AX.t 20)]) none 2 false true), (AOp.mk (some 22) (AK.len (AX.t 21)) none 3 false true), (AOp.mk (some 23) (AK.bin false BinOp.eql (AX.t 22) (AX.c (PV.val (Value.int IntKind.i64 0)))) none 4 false true)]) (AC.cond (AX.t 23) (AC.seq (AC.ops [(AOp.mk (some 6) (AK.mv (AX.c (PV.val (Value.int IntKind.i64 0)))) none 0 false true)]) AC.ret) AC.skip)) (AC.seq (AC.seq (AC.ops [(AOp.mk (some 24) (AK.mv (AX.t 7)) none 0 false true), (AOp.mk (some 25) (AK.call 109 [(AX.t 24)]) none 1 false true), (AOp.mk (some 26) (AK.mv (AX.t 25)) none 2 false true), (AOp.mk (some 27) (AK.mv (AX.t 8)) (some (26, true)) 3 false true), (AOp.mk (some 28) (AK.call 109 [(AX.t 27)]) (some (26, true)) 4 false true), (AOp.mk (some 29) (AK.pick (AX.t 26) (AX.t 28) (AX.c (PV.val (Value.bool false)))) none 5 false true)]) (AC.cond (AX.t 29) (AC.seq (AC.ops [(AOp.mk (some 6) (AK.mv (AX.c (PV.val (Value.int IntKind.i64 2)))) none 0 false true)]) AC.ret) AC.skip)) (AC.seq (AC.ops [(AOp.mk (some 6) (AK.mv (AX.c (PV.val (Value.int IntKind.i64 1)))) none 0 false true)]) AC.ret)))))
theorem ac74_ok : cCode Try.prog (fun _ => false) Try.f74.ntmps (Try.f74.body.getD .skip) = some ac74 := by kernel_rfl
def ac19 : AC := (AC.seq (AC.ops [(AOp.mk (some 3) (AK.box 2 (AX.t 0)) none 0 false true), (AOp.mk (some 6) (AK.mv (AX.c (PV.sl SK.full 0 []))) none 1 false true), (AOp.mk (some 7) (AK.mv (AX.c (PV.val (Value.int IntKind.i64 0)))) none 2 false true)]) (AC.seq (AC.seq (AC.ops [(AOp.mk (some 9) (AK.ld (some 2) (AX.t 3)) none 0 false true), (AOp.mk (some 10) (AK.call 22 [(AX.t 9)]) none 1 false true), (AOp.mk (some 8) (AK.mv (AX.t 10)) none 2 false true)]) (AC.seq (AC.ops [(AOp.mk (some 11) (AK.mv (AX.t 8)) none 0 false true), (AOp.mk (some 12) (AK.bin false BinOp.neq (AX.t 11) (AX.c (PV.val (Value.int IntKind.i64 0)))) none 1 false true)]) (AC.cond (AX.t 12) (AC.seq (AC.ops [(AOp.mk (some 13) (AK.mv (AX.t 8)) none 0 false true), (AOp.mk (some 6) (AK.mv (AX.c (PV.sl SK.full 0 []))) none 1 false true), (AOp.mk (some 7) (AK.mv (AX.t 13)) none 2 false true)]) AC.ret) AC.skip))) (AC.seq (AC.seq (AC.ops [(AOp.mk (some 14) (AK.ld (some 2) (AX.t 3)) none 0 false true), (AOp.mk (some 15) (AK.mv (AX.t 1)) none 1 false true), (AOp.mk (some 16) (AK.mv (AX.t 2)) none 2 false true), (AOp.mk (some 17) (AK.call 70 [(AX.t 14), (AX.t 15), (AX.t 16)]) none 3 false true), (AOp.mk (some 18) (AK.un UnOp.not (AX.t 17)) none 4 false true)]) (AC.cond (AX.t 18) (AC.seq (AC.ops [(AOp.mk (some 6) (AK.mv (AX.c (PV.sl SK.full 0 []))) none 0 false true), (AOp.mk (some 7) (AK.mv (AX.c (PV.val (Value.int IntKind.i64 71)))) none 1 false true)]) AC.ret) AC.skip)) (AC.seq (AC.ops [(AOp.mk (some 19) (AK.fadr 1 (AX.t 3)) none 0 true false), (AOp.mk (some 20) (AK.ld none (AX.t 19)) none 1 true false), (AOp.mk (some 21) (AK.mv (AX.t 1)) none 2 true false), (AOp.mk (some 22) (AK.iadrS 1 (AX.t 20) (AX.t 21)) none 3 true false), (AOp.mk (some 23) (AK.ld none (AX.t 22)) none 4 true false), (AOp.mk (some 24) (AK.fadr 1 (AX.t 3)) none 5 true false), (AOp.mk (some 25) (AK.ld none (AX.t 24)) none 6 true false), (AOp.mk (some 26) (AK.mv (AX.t 2)) none 7 true false), (AOp.mk (some 27) (AK.iadrS 1 (AX.t 25) (AX.t 26)) none 8 true false), (AOp.mk (some 28) (AK.ld none (AX.t 27)) none 9 true false), (AOp.mk (some 29) (AK.call 71 [(AX.t 23), (AX.t 28)]) none 10 false true), (AOp.mk (some 6) (AK.mv (AX.t 29)) none 11 true true), (AOp.mk (some 7) (AK.mv (AX.c (PV.val (Value.int IntKind.i64 0)))) none 12 true true)]) AC.ret))))
theorem ac19_ok : cCode Try.prog (fun _ => false) Try.f19.ntmps (Try.f19.body.getD .skip) = some ac19 := by kernel_rfl
def ac24 : AC := (AC.seq (AC.ops [(AOp.mk (some 3) (AK.box 2 (AX.t 0)) none 0 false true), (AOp.mk (some 6) (AK.mv (AX.c (PV.val (Value.int IntKind.i64 0)))) none 1 false true), (AOp.mk (some 7) (AK.mv (AX.c (PV.val (Value.int IntKind.i64 0)))) none 2 false true)]) (AC.seq (AC.seq (AC.ops [(AOp.mk (some 9) (AK.ld (some 2) (AX.t 3)) none 0 false true), (AOp.mk (some 10) (AK.call 22 [(AX.t 9)]) none 1 false true), (AOp.mk (some 8) (AK.mv (AX.t 10)) none 2 false true)]) (AC.seq (AC.ops [(AOp.mk (some 11) (AK.mv (AX.t 8)) none 0 false true), (AOp.mk (some 12) (AK.bin false BinOp.neq (AX.t 11) (AX.c (PV.val (Value.int IntKind.i64 0)))) none 1 false true)]) (AC.cond (AX.t 12) (AC.seq (AC.ops [(AOp.mk (some 13) (AK.mv (AX.t 8)) none 0 false true), (AOp.mk (some 6) (AK.mv (AX.c (PV.val (Value.int IntKind.i64 0)))) none 1 false true), (AOp.mk (some 7) (AK.mv (AX.t 13)) none 2 false true)]) AC.ret) AC.skip))) (AC.seq (AC.seq (AC.ops [(AOp.mk (some 14) (AK.ld (some 2) (AX.t 3)) none 0 false true), (AOp.mk (some 15) (AK.mv (AX.t 1)) none 1 false true), (AOp.mk (some 16) (AK.mv (AX.t 2)) none 2 false true), (AOp.mk (some 17) (AK.call 70 [(AX.t 14), (AX.t 15), (AX.t 16)]) none 3 false true), (AOp.mk (some 18) (AK.un UnOp.not (AX.t 17)) none 4 false true)]) (AC.cond (AX.t 18) (AC.seq (AC.ops [(AOp.mk (some 6) (AK.mv (AX.c (PV.val (Value.int IntKind.i64 0)))) none 0 false true), (AOp.mk (some 7) (AK.mv (AX.c (PV.val (Value.int IntKind.i64 71)))) none 1 false true)]) AC.ret) AC.skip)) (AC.seq (AC.ops [(AOp.mk (some 19) (AK.ld (some 2) (AX.t 3)) none 0 false true), (AOp.mk (some 20) (AK.mv (AX.t 1)) none 1 false true), (AOp.mk (some 21) (AK.mv (AX.t 2)) none 2 false true), (AOp.mk (some 22) (AK.call 74 [(AX.t 19), (AX.t 20), (AX.t 21)]) none 3 false true), (AOp.mk (some 6) (AK.mv (AX.t 22)) none 4 false true), (AOp.mk (some 7) (AK.mv (AX.c (PV.val (Value.int IntKind.i64 0)))) none 5 false true)]) AC.ret))))
theorem ac24_ok : cCode Try.prog (fun _ => false) Try.f24.ntmps (Try.f24.body.getD .skip) = some ac24 := by kernel_rfl
theorem natL_len' {l : List Nat} : (natL l).length = l.length := by unfold natL; rw [List.length_map]
theorem hlen {b : DBook} (ho : okBook b) {h : Nat} (hh : h < b.horses.length) : b.horses[h].length = nR b := by
  have := (ho.2.2 _ (List.getElem_mem hh)).1
  have := (okR ho).2.2
  omega
theorem hs_eq {b : DBook} {h p : Nat} (hh : h < b.horses.length) : hsI b h p = b.horses[h].getD p 0 := by
  unfold hsI
  rw [List.getD_eq_getElem?_getD (l := b.horses), List.getElem?_eq_getElem hh]
  rfl
theorem can_fit {b : DBook} (ho : okBook b) {h o : Nat} (hh : h < b.horses.length) (hoo : o < b.horses.length) (t : Nat) : canL b.horses[h] b.horses[o] t b.horses[h].length = fitB b meetB h (rowL b o 0) t := by
  unfold canL fitB
  rw [hlen ho hh, Bool.eq_iff_iff, List.all_eq_true, List.all_eq_true]
  refine forall_congr' fun q => forall_congr' fun hq => ?_
  have hq := List.mem_range.1 hq
  rw [rowL_get ho hq, rowI_0 hq, rowI_hs, hs_eq hh, hs_eq hoo]
theorem turnsR_eq {b : DBook} (ho : okBook b) {h o : Nat} (hh : h < b.horses.length) (hoo : o < b.horses.length) : turnsR b.horses[h] b.horses[o] b.horses[h].length = natL (turnsI b h o) := by
  unfold turnsR turnsI turnsP
  congr 1
  rw [hlen ho hh]
  refine List.filter_congr fun t _ => ?_
  have := can_fit ho hh hoo t
  rwa [hlen ho hh] at this
theorem knownL_iff {b : DBook} (ho : okBook b) {h : Nat} (hh : h < b.horses.length) : knownL b.horses[h] b.horses[h].length = true ↔ allK b h := by
  unfold knownL allK
  rw [hlen ho hh, List.all_eq_true]
  constructor
  · intro H p hp
    have := H p (List.mem_range.2 hp)
    rw [← hs_eq hh, known_one ho hh hp] at this
    simpa using this
  · intro H p hp
    have hp := List.mem_range.1 hp
    rw [← hs_eq hh, known_one ho hh hp, H p hp]
    rfl
theorem rsame_sem (k : SK) {b : DBook} (ho : okBook b) {h o : Nat} (hh : h < b.horses.length) (hoo : o < b.horses.length) : Sem1 74 [.agg (bookC k b), pi h, pi o] (pi (sameI b h o)) := by
  obtain ⟨h1, h8, hn⟩ := okR ho
  have hl1 := hlen ho hh
  have hl2 := hlen ho hoo
  have ehh := iadr_map (f := fun h => [pis h]) (kd := k) (sz := 1) hh
  have eoo := iadr_map (f := fun h => [pis h]) (kd := k) (sz := 1) hoo
  have hrt := rturns_sem (x := b.horses[h]) (y := b.horses[o]) (by omega) (by omega)
  rw [turnsR_eq ho hh hoo] at hrt
  have hk1 := rknown_sem (x := b.horses[h]) (by omega)
  have hk2 := rknown_sem (x := b.horses[o]) (by omega)
  have hi1 := knownL_iff ho hh
  have hi2 := knownL_iff ho hoo
  have h2 := same_two ho hh hoo
  have hp := same_pos ho hh hoo
  have hrg := same_range ho h o
  refine semC_of_exec' mixed Try.func74 (by kernel_rfl) (by kernel_rfl) ac74_ok 3 rfl (by decide) [(.tmp 6)] (by kernel_rfl) ?_
  intro hr C hC hI
  unfold ac74
  simp only [go_sem, Nat.reduceBEq, Nat.reduceAdd, ehh, eoo]
  refine call_pure2 hC (hrt) rfl (PVleL_refl _) ?_
  rintro r rfl
  simp only [go_sem, Nat.reduceBEq, List.length_map]
  refine ⟨fun h5 => ?_, fun h5 => ?_⟩
  · have e : turnsI b h o = [] := List.eq_nil_of_length_eq_zero (by rw [natL_len'] at h5; omega)
    have : sameI b h o = 0 := Decidable.not_not.1 fun hne => hp.1 hne e
    rw [this]
    exact retQ_one rfl rfl
  · have hne : turnsI b h o ≠ [] := fun e => h5 (by rw [e]; rfl)
    have hpos := hp.2 hne
    refine call_pure2 hC (hk1) rfl (PVleL_refl _) ?_
    rintro r rfl
    simp only [go_sem, Nat.reduceBEq]
    cases hb1 : knownL b.horses[h] b.horses[h].length
    · rw [hb1] at hi1
      have hn2 : sameI b h o ≠ 2 := fun e => by have := hi1.2 (h2.1 e).2.1; cases this
      rw [show sameI b h o = 1 by omega]
      simp only [go_sem, Nat.reduceBEq]
      exact retQ_one rfl rfl
    · rw [hb1] at hi1
      simp only [go_sem, Nat.reduceBEq]
      refine call_pure2 hC (hk2) rfl (PVleL_refl _) ?_
      rintro r rfl
      simp only [go_sem, Nat.reduceBEq]
      cases hb2 : knownL b.horses[o] b.horses[o].length
      · rw [hb2] at hi2
        have hn2 : sameI b h o ≠ 2 := fun e => by have := hi2.2 (h2.1 e).2.2; cases this
        rw [show sameI b h o = 1 by omega]
        simp only [go_sem]
        exact retQ_one rfl rfl
      · rw [hb2] at hi2
        rw [h2.2 ⟨hne, hi1.1 rfl, hi2.1 rfl⟩]
        simp only [go_sem]
        exact retQ_one rfl rfl
theorem rTurns_sem (k : SK) (b : DBook) (n m : Int) : Sem1 19 [.agg (bookC k b), pi n, pi m] (if errI b (okPair b n m) = 0 then .tup [pis (natL (turnsI b n.toNat m.toNat)), pi 0] else .tup [pis [], pi (errI b (okPair b n m))]) := by
  refine semC_of_exec' mixed Try.func19 (by kernel_rfl) (by kernel_rfl) ac19_ok 3 rfl (by decide) [(.tmp 6), (.tmp 7)] (by kernel_rfl) ?_
  intro hr C hC hI
  unfold ac19
  simp only [go_sem, Nat.reduceBEq, Nat.reduceAdd]
  refine call_pure2 hC (rCheck_sem k b) rfl (PVleL_refl _) ?_
  rintro r rfl
  simp only [go_sem, Nat.reduceBEq, Nat.reduceAdd]
  by_cases ho : okBook b
  rotate_left
  · have he : errI b (okPair b n m) = 70 := by unfold errI; rw [if_neg ho]
    rw [he, if_neg ho]
    refine ⟨fun _ => retQ_two_le rfl rfl (PVle.nil _ _ _) (PVle.refl _) rfl, fun h => absurd h (by decide)⟩
  have h6 := ho.2.1
  rw [if_pos ho]
  refine ⟨fun h => absurd rfl h, fun _ => ?_⟩
  refine call_pure2 hC (rPair_sem k b n m (by omega)) rfl (PVleL_refl _) ?_
  rintro r rfl
  simp only [go_sem, Nat.reduceBEq]
  cases hk : okPair b n m
  · have he : errI b false = 71 := by unfold errI; rw [if_pos ho]; rfl
    rw [he]
    simp only [go_sem, Nat.reduceBEq]
    exact retQ_two_le rfl rfl (PVle.nil _ _ _) (PVle.refl _) rfl
  · have he : errI b true = 0 := by unfold errI; rw [if_pos ho]; rfl
    rw [he, if_pos rfl]
    have hk := of_decide_eq_true hk
    obtain ⟨h, rfl⟩ := nat_of hk.1.1
    obtain ⟨o, rfl⟩ := nat_of hk.2.1.1
    have hh : h < b.horses.length := by omega
    have hoo : o < b.horses.length := by omega
    have hl1 := hlen ho hh
    have hl2 := hlen ho hoo
    have h8 := (okR ho).2.1
    have ehh := iadr_map (f := fun h => [pis h]) (kd := k) (sz := 1) hh
    have eoo := iadr_map (f := fun h => [pis h]) (kd := k) (sz := 1) hoo
    have hrt := rturns_sem (x := b.horses[h]) (y := b.horses[o]) (by omega) (by omega)
    rw [turnsR_eq ho hh hoo] at hrt
    simp only [go_sem, Nat.reduceBEq, ehh, eoo]
    refine call_pure2 hC (hrt) rfl (PVleL_refl _) ?_
    rintro r rfl
    simp only [go_sem, Nat.reduceBEq]
    exact retQ_two rfl rfl rfl
theorem rSame_sem (k : SK) (b : DBook) (n m : Int) : Sem1 24 [.agg (bookC k b), pi n, pi m] (if errI b (okPair b n m) = 0 then .tup [pi (sameI b n.toNat m.toNat), pi 0] else .tup [pi 0, pi (errI b (okPair b n m))]) := by
  refine semC_of_exec' mixed Try.func24 (by kernel_rfl) (by kernel_rfl) ac24_ok 3 rfl (by decide) [(.tmp 6), (.tmp 7)] (by kernel_rfl) ?_
  intro hr C hC hI
  unfold ac24
  simp only [go_sem, Nat.reduceBEq, Nat.reduceAdd]
  refine call_pure2 hC (rCheck_sem k b) rfl (PVleL_refl _) ?_
  rintro r rfl
  simp only [go_sem, Nat.reduceBEq, Nat.reduceAdd]
  by_cases ho : okBook b
  rotate_left
  · have he : errI b (okPair b n m) = 70 := by unfold errI; rw [if_neg ho]
    rw [he, if_neg ho]
    refine ⟨fun _ => retQ_two rfl rfl rfl, fun h => absurd h (by decide)⟩
  have h6 := ho.2.1
  rw [if_pos ho]
  refine ⟨fun h => absurd rfl h, fun _ => ?_⟩
  refine call_pure2 hC (rPair_sem k b n m (by omega)) rfl (PVleL_refl _) ?_
  rintro r rfl
  simp only [go_sem, Nat.reduceBEq]
  cases hk : okPair b n m
  · have he : errI b false = 71 := by unfold errI; rw [if_pos ho]; rfl
    rw [he]
    simp only [go_sem, Nat.reduceBEq]
    exact retQ_two rfl rfl rfl
  · have he : errI b true = 0 := by unfold errI; rw [if_pos ho]; rfl
    rw [he, if_pos rfl]
    have hk := of_decide_eq_true hk
    obtain ⟨h, rfl⟩ := nat_of hk.1.1
    obtain ⟨o, rfl⟩ := nat_of hk.2.1.1
    simp only [go_sem, Nat.reduceBEq, Nat.reduceAdd]
    refine call_pure2 hC (rsame_sem k ho (show h < b.horses.length by omega) (show o < b.horses.length by omega)) rfl (PVleL_refl _) ?_
    rintro r rfl
    simp only [go_sem, Nat.reduceBEq]
    exact retQ_two rfl rfl rfl
end Go.Proofs.Ythibnlfbdbidjaa
namespace Go.Proofs.Ythibnlfbdbidjaa
open Go.RowKit
theorem lexB_pre : ∀ (l a b : List Int), lexB (l ++ a) (l ++ b) = lexB a b
  | [], a, b => rfl
  | x :: l, a, b => by simp [lexB, lexB_pre l a b]
theorem listsF_pw (e : Nat) : ∀ (r : Nat) (l : List Int) (a : Nat), (listsF e r l a).Pairwise fun x y => lexB x y = true
  | 0, l, a => List.pairwise_singleton _ _
  | r + 1, l, a => by
    unfold listsF
    rw [List.pairwise_flatMap]
    constructor
    · exact fun n _ => listsF_pw e r _ _
    · rw [List.pairwise_map]
      refine (List.pairwise_lt_range (n := e - a)).imp fun {q q'} hq x hx y hy => ?_
      obtain ⟨t, rfl, -⟩ := (mem_listsF r _ _ _).1 hx
      obtain ⟨t', rfl, -⟩ := (mem_listsF r _ _ _).1 hy
      rw [List.append_assoc, List.append_assoc, lexB_pre]
      simp only [List.singleton_append, lexB]
      rw [if_neg (by omega)]
      simp; omega
theorem lists_pw (e m : Nat) : (listsL e m).Pairwise fun x y => lexB x y = true := listsF_pw e m [] 0
theorem find_first {zs : List (List Int)} (hp : zs.Pairwise fun x y => lexB x y = true) {P : List Int → Bool} {z : List Int} (h : zs.find? P = some z) : z ∈ zs ∧ P z = true ∧ ∀ x ∈ zs, lexB x z = true → P x = false := by
  obtain ⟨h1, us, vs, rfl, h2⟩ := List.find?_eq_some_iff_append.1 h
  refine ⟨by simp, h1, fun x hx hlt => ?_⟩
  rcases List.mem_append.1 hx with hx | hx
  · have := h2 x hx; simpa using this
  · exfalso
    rcases List.mem_cons.1 hx with rfl | hx
    · rw [lexB_irr] at hlt; cases hlt
    · rw [List.pairwise_append] at hp
      have := lexB_trans ((List.pairwise_cons.1 hp.2.1).1 x hx) hlt
      rw [lexB_irr] at this; cases this
theorem mem_pair {e i k : Nat} (h : i < k) (hk : k < e) : [(i : Int), (k : Int)] ∈ listsL e 2 := by
  rw [mem_listsL]
  refine ⟨rfl, ?_, fun x hx => ?_⟩
  · unfold incL; simp; omega
  · simp at hx; rcases hx with rfl | rfl <;> omega
theorem pair_none {e : Nat} {P : Nat → Nat → Bool} (h : (listsL e 2).find? (pairP P) = none) {i k : Nat} (hi : i < k) (hk : k < e) : P i k = false := by
  have := List.find?_eq_none.1 h _ (mem_pair hi hk)
  rw [pairP_two] at this
  simpa using this
theorem pair_some {e : Nat} {P : Nat → Nat → Bool} {l : List Int} (h : (listsL e 2).find? (pairP P) = some l) : ∃ i k : Nat, l = [(i : Int), (k : Int)] ∧ i < k ∧ k < e ∧ P i k = true ∧ ∀ p q, p < q → q < e → (p < i ∨ p = i ∧ q < k) → P p q = false := by
  obtain ⟨h1, h2, h3⟩ := find_first (lists_pw e 2) h
  obtain ⟨i, k, rfl, hi, hk⟩ := pair_of h1
  rw [pairP_two] at h2
  refine ⟨i, k, rfl, hi, hk, h2, fun p q hp hq hlt => ?_⟩
  have := h3 _ (mem_pair hp hq) (by
    simp only [lexB]
    by_cases e1 : p = i
    · subst e1
      rw [if_pos rfl, if_neg (by omega)]
      exact decide_eq_true (by omega)
    · rw [if_neg (by omega)]
      exact decide_eq_true (by omega))
  rwa [pairP_two] at this
end Go.Proofs.Ythibnlfbdbidjaa
