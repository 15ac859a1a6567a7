/- DappleNew returns true: no horse can have the row that is told to be new; somebody can have any row before it; if none is told somebody can have any row at all; for every book and all numbers; no condition. Law: DappleNew. Contracts of dapple's statements: any row; what is told of all pairs. -/
import Derived.Test.YtlghbmancjjdjaaKc06
import Derived.Test.YtlghbmancjjdjaaKc05
import Derived.Test.YtlghbmancjjdjaaGa16
namespace Go.Proofs.Ytlghbmancjjdjaa
open Go.RowKit
def ac49 : AC := (AC.seq (AC.ops [(AOp.mk (some 4) (AK.mv (AX.c (PV.sl SK.full 0 []))) none 0 false true)]) (AC.seq (AC.ops [(AOp.mk (some 7) (AK.bslice false 3 1 0 [(PV.val (Value.int IntKind.i64 0))] []) none 0 false true), (AOp.mk (some 5) (AK.mv (AX.t 7)) none 1 false true)]) (AC.seq (AC.seq (AC.ops [(AOp.mk (some 6) (AK.mv (AX.c (PV.val (Value.int IntKind.i64 0)))) none 0 false true)]) (AC.block 0 (AC.loop (AC.seq (AC.seq (AC.ops [(AOp.mk (some 8) (AK.mv (AX.t 6)) none 0 false true), (AOp.mk (some 9) (AK.mv (AX.t 0)) none 1 false true), (AOp.mk (some 10) (AK.bin false BinOp.lss (AX.t 8) (AX.t 9)) none 2 false true)]) (AC.cond (AX.t 10) AC.skip (AC.exit 0))) (AC.seq (AC.block 1 (AC.ops [(AOp.mk (some 13) (AK.mv (AX.t 5)) none 0 false true), (AOp.mk (some 14) (AK.mv (AX.t 1)) none 1 false true), (AOp.mk (some 15) (AK.mv (AX.t 6)) none 2 false true), (AOp.mk (some 16) (AK.call 56 [(AX.t 14), (AX.t 15)]) none 3 false true), (AOp.mk (some 17) (AK.mv (AX.t 6)) none 4 false true), (AOp.mk (some 18) (AK.mv (AX.t 1)) none 5 false true), (AOp.mk (some 19) (AK.call 56 [(AX.t 18), (AX.c (PV.val (Value.int IntKind.i64 2)))]) none 6 false true), (AOp.mk (some 20) (AK.bin false BinOp.mul (AX.t 17) (AX.t 19)) none 7 false true), (AOp.mk (some 21) (AK.bin false BinOp.add (AX.t 16) (AX.t 20)) none 8 false true), (AOp.mk (some 22) (AK.call 46 [(AX.t 21), (AX.c (PV.val (Value.int IntKind.i64 4)))]) none 9 false true), (AOp.mk (some 23) (AK.bslice false 3 1 1 [(PV.val (Value.int IntKind.i64 0))] [(0, (1, (AX.t 22)))]) none 10 false true), (AOp.mk (some 24) (AK.app false 3 1 8 [(PV.val (Value.int IntKind.i64 0))] (AX.t 13) (AX.t 23)) none 11 false true), (AOp.mk (some 5) (AK.mv (AX.t 24)) none 12 false true)])) (AC.ops [(AOp.mk (some 11) (AK.mv (AX.t 6)) none 0 false true), (AOp.mk (some 12) (AK.bin false BinOp.add (AX.t 11) (AX.c (PV.val (Value.int IntKind.i64 1)))) none 1 false true), (AOp.mk (some 6) (AK.mv (AX.t 12)) none 2 false true)])))))) (AC.seq (AC.ops [(AOp.mk (some 25) (AK.mv (AX.t 5)) none 0 false true), (AOp.mk (some 4) (AK.mv (AX.t 25)) none 1 false true)]) AC.ret))))
theorem ac49_ok : cCode Try.prog (fun _ => false) Try.f49.ntmps (Try.f49.body.getD .skip) = some ac49 := by kernel_rfl
def ac47 : AC := (AC.seq (AC.ops [(AOp.mk (some 1) (AK.box 2 (AX.t 0)) none 0 false true), (AOp.mk (some 2) (AK.mv (AX.c (PV.sl SK.full 0 []))) none 1 false true)]) (AC.seq (AC.ops [(AOp.mk (some 10) (AK.bslice false 26 1 0 [(PV.sl SK.full 0 [])] []) none 0 false true), (AOp.mk (some 3) (AK.mv (AX.t 10)) none 1 false true)]) (AC.seq (AC.seq (AC.ops [(AOp.mk (some 4) (AK.mv (AX.c (PV.val (Value.int IntKind.i64 0)))) none 0 false true)]) (AC.block 0 (AC.loop (AC.seq (AC.seq (AC.ops [(AOp.mk (some 11) (AK.mv (AX.t 4)) none 0 false true), (AOp.mk (some 12) (AK.fadr 1 (AX.t 1)) none 1 false true), (AOp.mk (some 13) (AK.ld none (AX.t 12)) none 2 false true), (AOp.mk (some 14) (AK.len (AX.t 13)) none 3 false true), (AOp.mk (some 15) (AK.bin false BinOp.lss (AX.t 11) (AX.t 14)) none 4 false true)]) (AC.cond (AX.t 15) AC.skip (AC.exit 0))) (AC.seq (AC.block 1 (AC.seq (AC.ops [(AOp.mk (some 18) (AK.bslice false 3 1 0 [(PV.val (Value.int IntKind.i64 0))] []) none 0 false true), (AOp.mk (some 5) (AK.mv (AX.t 18)) none 1 false true)]) (AC.seq (AC.seq (AC.ops [(AOp.mk (some 6) (AK.mv (AX.c (PV.val (Value.int IntKind.i64 0)))) none 0 false true)]) (AC.block 2 (AC.loop (AC.seq (AC.seq (AC.ops [(AOp.mk (some 19) (AK.mv (AX.t 6)) none 0 false true), (AOp.mk (some 20) (AK.fadr 1 (AX.t 1)) none 1 false true), (AOp.mk (some 21) (AK.ld none (AX.t 20)) none 2 false true), (AOp.mk (some 22) (AK.len (AX.t 21)) none 3 false true), (AOp.mk (some 23) (AK.bin false BinOp.lss (AX.t 19) (AX.t 22)) none 4 false true)]) (AC.cond (AX.t 23) AC.skip (AC.exit 2))) (AC.seq (AC.block 3 (AC.seq (AC.ops [(AOp.mk (some 7) (AK.mv (AX.c (PV.val (Value.int IntKind.i64 0)))) none 0 false true)]) (AC.seq (AC.seq (AC.ops [(AOp.mk (some 26) (AK.mv (AX.t 6)) none 0 false true), (AOp.mk (some 27) (AK.mv (AX.t 4)) none 1 false true), (AOp.mk (some 28) (AK.bin false BinOp.neq (AX.t 26) (AX.t 27)) none 2 false true)]) (AC.cond (AX.t 28) (AC.seq (AC.ops [(AOp.mk (some 30) (AK.ld (some 2) (AX.t 1)) none 0 false true), (AOp.mk (some 31) (AK.mv (AX.t 4)) none 1 false true), (AOp.mk (some 32) (AK.mv (AX.t 6)) none 2 false true), (AOp.mk (some 33) (AK.call 23 [(AX.t 30), (AX.t 31), (AX.t 32)]) none 3 false true), (AOp.mk (some 29) (AK.mv (AX.t 33)) none 4 false true), (AOp.mk (some 34) (AK.ext (AX.t 29) 0) none 5 false true), (AOp.mk (some 35) (AK.ext (AX.t 29) 1) none 6 false true), (AOp.mk (some 8) (AK.mv (AX.t 34)) none 7 false true), (AOp.mk (some 9) (AK.mv (AX.t 35)) none 8 false true)]) (AC.seq (AC.seq (AC.ops [(AOp.mk (some 36) (AK.mv (AX.t 9)) none 0 false true), (AOp.mk (some 37) (AK.bin false BinOp.neq (AX.t 36) (AX.c (PV.val (Value.int IntKind.i64 0)))) none 1 false true)]) (AC.cond (AX.t 37) (AC.seq (AC.ops [(AOp.mk (some 2) (AK.mv (AX.c (PV.sl SK.full 0 []))) none 0 false true)]) AC.ret) AC.skip)) (AC.ops [(AOp.mk (some 38) (AK.mv (AX.t 8)) none 0 false true), (AOp.mk (some 7) (AK.mv (AX.t 38)) none 1 false true)]))) AC.skip)) (AC.ops [(AOp.mk (some 39) (AK.mv (AX.t 5)) none 0 false true), (AOp.mk (some 40) (AK.mv (AX.t 7)) none 1 false true), (AOp.mk (some 41) (AK.bslice false 3 1 1 [(PV.val (Value.int IntKind.i64 0))] [(0, (1, (AX.t 40)))]) none 2 false true), (AOp.mk (some 42) (AK.app false 3 1 8 [(PV.val (Value.int IntKind.i64 0))] (AX.t 39) (AX.t 41)) none 3 false true), (AOp.mk (some 5) (AK.mv (AX.t 42)) none 4 false true)])))) (AC.ops [(AOp.mk (some 24) (AK.mv (AX.t 6)) none 0 false true), (AOp.mk (some 25) (AK.bin false BinOp.add (AX.t 24) (AX.c (PV.val (Value.int IntKind.i64 1)))) none 1 false true), (AOp.mk (some 6) (AK.mv (AX.t 25)) none 2 false true)])))))) (AC.ops [(AOp.mk (some 43) (AK.mv (AX.t 3)) none 0 false true), (AOp.mk (some 44) (AK.mv (AX.t 5)) none 1 false true), (AOp.mk (some 45) (AK.bslice false 26 1 1 [(PV.sl SK.full 0 [])] [(0, (1, (AX.t 44)))]) none 2 false true), (AOp.mk (some 46) (AK.app false 26 1 24 [(PV.sl SK.full 0 [])] (AX.t 43) (AX.t 45)) none 3 false true), (AOp.mk (some 3) (AK.mv (AX.t 46)) none 4 false true)])))) (AC.ops [(AOp.mk (some 16) (AK.mv (AX.t 4)) none 0 false true), (AOp.mk (some 17) (AK.bin false BinOp.add (AX.t 16) (AX.c (PV.val (Value.int IntKind.i64 1)))) none 1 false true), (AOp.mk (some 4) (AK.mv (AX.t 17)) none 2 false true)])))))) (AC.seq (AC.ops [(AOp.mk (some 47) (AK.mv (AX.t 3)) none 0 false true), (AOp.mk (some 2) (AK.mv (AX.t 47)) none 1 false true)]) AC.ret))))
theorem ac47_ok : cCode Try.prog (fun _ => false) Try.f47.ntmps (Try.f47.body.getD .skip) = some ac47 := by kernel_rfl
def sizeJ (bits : List Int) (p : Nat) : Int := rndI (IntKind.i64.wrap (takeL bits p + IntKind.i64.wrap ((p : Int) * takeL bits 2))) 4
def sizesJ (r : Nat) (bits : List Int) : List Int := (List.range r).map (sizeJ bits)
theorem sizesJ_len (r : Nat) (bits : List Int) : (sizesJ r bits).length = r := by simp [sizesJ]
theorem sizesJ_ok (r : Nat) (bits : List Int) : ∀ x ∈ sizesJ r bits, 0 ≤ x ∧ x ≤ 3 := by
  intro x hx
  obtain ⟨p, -, rfl⟩ := List.mem_map.1 hx
  have := rndI_range (n := IntKind.i64.wrap (takeL bits p + IntKind.i64.wrap ((p : Int) * takeL bits 2))) (m := 4) (by omega)
  unfold sizeJ
  omega
theorem sizesJ_next (r : Nat) (bits : List Int) : ((sizesJ (r + 1) bits).map fun x => [pi x]) = ((sizesJ r bits).map fun x => [pi x]) ++ [[pi (sizeJ bits r)]] := by
  unfold sizesJ
  rw [List.range_succ, List.map_append, List.map_append]
  rfl
theorem sizes2_sem (r : Nat) (hr8 : r ≤ 1000) (bits : List Int) : Sem1 49 [pi r, pis bits] (pis (sizesJ r bits)) := by
  refine semC_of_exec' mixed Try.func49 (by kernel_rfl) (by kernel_rfl) ac49_ok 2 rfl (by decide) [(.tmp 4)] (by kernel_rfl) ?_
  intro hr C hC hI
  unfold ac49
  simp only [go_sem, Nat.reduceBEq]
  refine loop_g (α := Nat × Option Nat) (fun a => a.1 ≤ r ∧ (a.2 = none → a.1 = 0)) (fun a => r - a.1) [0, 1] (fun a => [(5, .p (slG 3 a.2 ((sizesJ a.1 bits).map fun x => [pi x]))), (6, .p (pi a.1))]) (fun _ => []) (fun a => a.2.toList) (0, none) ⟨by omega, fun _ => rfl⟩ (by simp [Wk, wkT, wkL, look, AV.lo, upS_eq, keepS_nil, keepS_cons, slG]) ?_
  rintro ⟨j, o⟩ ⟨hj, hok⟩
  replace hj : j ≤ r := hj
  replace hok : o = none → j = 0 := hok
  have hnx := sizesJ_next j bits
  have h0 : o = none → ((sizesJ j bits).map fun x => [pi x]) = [] := fun e => by rw [hok e]; rfl
  simp only [go_sem, Nat.reduceBEq]
  refine ⟨fun h5 => ?_, fun h5 => ?_⟩
  · have hj2 : j < r := by omega
    refine call_pure2 hC (Take_sem bits j) rfl (PVleL_refl _) ?_
    rintro r rfl
    simp only [go_sem, Nat.reduceBEq]
    refine call_pure2 hC (Take_sem bits 2) rfl (PVleL_refl _) ?_
    rintro r rfl
    simp only [go_sem, Nat.reduceBEq]
    refine call_pure2 hC (Round_sem ..) rfl (PVleL_refl _) ?_
    rintro r rfl
    simp only [go_sem, Nat.reduceBEq]
    refine app_slG h0 (by rw [List.length_map, sizesJ_len]; omega) (by simp) fun tk htk => ?_
    simp only [go_sem, Nat.reduceBEq, wrap_succ (k := j) (by omega)]
    refine ⟨⟨(j + 1, some tk), hj2, (fun h => by cases h)⟩, by simp only; omega, ?_⟩
    simp only [hnx]
    refine ⟨by simp [wkT, look, AV.lo, sizeJ], trivial, by simp, by simp, rfl, rfl, by simp⟩
  · have hjn : j = r := by omega
    subst hjn
    exact retQ_slG h0 rfl rfl
def kindJ (b : DBook) (i q : Nat) : Int := if q = i then 0 else sameI b i q
def kindR (b : DBook) (i j : Nat) : List Int := (List.range j).map (kindJ b i)
def kindsL (b : DBook) (i : Nat) : List (List Int) := (List.range i).map fun x => kindR b x b.horses.length
theorem kindR_next (b : DBook) (i j : Nat) : ((kindR b i (j + 1)).map fun x => [pi x]) = ((kindR b i j).map fun x => [pi x]) ++ [[pi (kindJ b i j)]] := by
  unfold kindR
  rw [List.range_succ, List.map_append, List.map_append]
  rfl
theorem kindsL_next (b : DBook) (i : Nat) : kindsL b (i + 1) = kindsL b i ++ [kindR b i b.horses.length] := by
  unfold kindsL
  rw [List.range_succ, List.map_append]
  rfl
def rowsG (e : TypeId) (os : List (Option Nat)) (rows : List (List Int)) : List (List PV) := List.zipWith (fun o r => [slG e o (r.map fun x => [pi x])]) os rows
theorem kindR_len (b : DBook) (i j : Nat) : (kindR b i j).length = j := by simp [kindR]
theorem kindsL_len (b : DBook) (i : Nat) : (kindsL b i).length = i := by simp [kindsL]
theorem kindsL_end {b : DBook} {i : Nat} : kindsL b i = (List.range i).map fun x => kindR b x b.horses.length := rfl
end Go.Proofs.Ytlghbmancjjdjaa
namespace Go.Proofs.Ytlghbmancjjdjaa
open Go.RowKit
def ac11 : AC := (AC.seq (AC.ops [(AOp.mk (some 2) (AK.box 2 (AX.t 0)) none 0 false true), (AOp.mk (some 4) (AK.mv (AX.c (PV.val (Value.bool false)))) none 1 false true)]) (AC.seq (AC.ops [(AOp.mk (some 13) (AK.ld (some 2) (AX.t 2)) none 0 false true), (AOp.mk (some 14) (AK.call 28 [(AX.t 13)]) none 1 false true), (AOp.mk (some 12) (AK.mv (AX.t 14)) none 2 false true), (AOp.mk (some 15) (AK.ext (AX.t 12) 0) none 3 false true), (AOp.mk (some 16) (AK.ext (AX.t 12) 1) none 4 false true), (AOp.mk (some 5) (AK.mv (AX.t 15)) none 5 false true), (AOp.mk (some 6) (AK.mv (AX.t 16)) none 6 false true)]) (AC.seq (AC.seq (AC.ops [(AOp.mk (some 17) (AK.ld (some 2) (AX.t 2)) none 0 false true), (AOp.mk (some 18) (AK.call 38 [(AX.t 17)]) none 1 false true), (AOp.mk (some 19) (AK.un UnOp.not (AX.t 18)) none 2 false true)]) (AC.cond (AX.t 19) (AC.seq (AC.ops [(AOp.mk (some 20) (AK.mv (AX.t 6)) none 0 false true), (AOp.mk (some 21) (AK.bin false BinOp.eql (AX.t 20) (AX.c (PV.val (Value.int IntKind.i64 70)))) none 1 false true), (AOp.mk (some 22) (AK.mv (AX.t 21)) none 2 false true), (AOp.mk (some 23) (AK.mv (AX.t 5)) (some (22, true)) 3 false true), (AOp.mk (some 24) (AK.len (AX.t 23)) (some (22, true)) 4 false true), (AOp.mk (some 25) (AK.bin false BinOp.eql (AX.t 24) (AX.c (PV.val (Value.int IntKind.i64 0)))) (some (22, true)) 5 false true), (AOp.mk (some 26) (AK.pick (AX.t 22) (AX.t 25) (AX.c (PV.val (Value.bool false)))) none 6 false true), (AOp.mk (some 27) (AK.mv (AX.t 26)) none 7 false true), (AOp.mk (some 28) (AK.call 25 []) (some (27, true)) 8 false true), (AOp.mk (some 29) (AK.pick (AX.t 27) (AX.t 28) (AX.c (PV.val (Value.bool false)))) none 9 false true), (AOp.mk (some 4) (AK.mv (AX.t 29)) none 10 false true)]) AC.ret) AC.skip)) (AC.seq (AC.ops [(AOp.mk (some 30) (AK.fadr 0 (AX.t 2)) none 0 false true), (AOp.mk (some 31) (AK.ld none (AX.t 30)) none 1 false true), (AOp.mk (some 32) (AK.mv (AX.t 1)) none 2 false true), (AOp.mk (some 33) (AK.call 49 [(AX.t 31), (AX.t 32)]) none 3 false true), (AOp.mk (some 7) (AK.mv (AX.t 33)) none 4 false true)]) (AC.seq (AC.ops [(AOp.mk (some 35) (AK.ld (some 2) (AX.t 2)) none 0 false true), (AOp.mk (some 36) (AK.mv (AX.t 7)) none 1 false true), (AOp.mk (some 37) (AK.call 26 [(AX.t 35), (AX.t 36)]) none 2 false true), (AOp.mk (some 34) (AK.mv (AX.t 37)) none 3 false true), (AOp.mk (some 38) (AK.ext (AX.t 34) 0) none 4 false true), (AOp.mk (some 39) (AK.ext (AX.t 34) 1) none 5 false true), (AOp.mk (some 8) (AK.mv (AX.t 38)) none 6 false true), (AOp.mk (some 9) (AK.mv (AX.t 39)) none 7 false true)]) (AC.seq (AC.seq (AC.ops [(AOp.mk (some 40) (AK.mv (AX.t 9)) none 0 false true), (AOp.mk (some 41) (AK.bin false BinOp.neq (AX.t 40) (AX.c (PV.val (Value.int IntKind.i64 0)))) none 1 false true)]) (AC.cond (AX.t 41) (AC.seq (AC.ops [(AOp.mk (some 4) (AK.mv (AX.c (PV.val (Value.bool false)))) none 0 false true)]) AC.ret) AC.skip)) (AC.seq (AC.seq (AC.ops [(AOp.mk (some 42) (AK.mv (AX.t 6)) none 0 false true), (AOp.mk (some 43) (AK.bin false BinOp.neq (AX.t 42) (AX.c (PV.val (Value.int IntKind.i64 0)))) none 1 false true)]) (AC.cond (AX.t 43) (AC.seq (AC.ops [(AOp.mk (some 44) (AK.mv (AX.t 6)) none 0 false true), (AOp.mk (some 45) (AK.bin false BinOp.eql (AX.t 44) (AX.c (PV.val (Value.int IntKind.i64 4)))) none 1 false true), (AOp.mk (some 46) (AK.mv (AX.t 45)) none 2 false true), (AOp.mk (some 47) (AK.mv (AX.t 5)) (some (46, true)) 3 false true), (AOp.mk (some 48) (AK.len (AX.t 47)) (some (46, true)) 4 false true), (AOp.mk (some 49) (AK.bin false BinOp.eql (AX.t 48) (AX.c (PV.val (Value.int IntKind.i64 0)))) (some (46, true)) 5 false true), (AOp.mk (some 50) (AK.pick (AX.t 46) (AX.t 49) (AX.c (PV.val (Value.bool false)))) none 6 false true), (AOp.mk (some 51) (AK.mv (AX.t 50)) none 7 false true), (AOp.mk (some 52) (AK.mv (AX.t 8)) (some (51, true)) 8 false true), (AOp.mk (some 53) (AK.len (AX.t 52)) (some (51, true)) 9 false true), (AOp.mk (some 54) (AK.bin false BinOp.gtr (AX.t 53) (AX.c (PV.val (Value.int IntKind.i64 0)))) (some (51, true)) 10 false true), (AOp.mk (some 55) (AK.pick (AX.t 51) (AX.t 54) (AX.c (PV.val (Value.bool false)))) none 11 false true), (AOp.mk (some 56) (AK.mv (AX.t 55)) none 12 false true), (AOp.mk (some 57) (AK.call 25 []) (some (56, true)) 13 false true), (AOp.mk (some 58) (AK.pick (AX.t 56) (AX.t 57) (AX.c (PV.val (Value.bool false)))) none 14 false true), (AOp.mk (some 4) (AK.mv (AX.t 58)) none 15 false true)]) AC.ret) AC.skip)) (AC.seq (AC.ops [(AOp.mk (some 60) (AK.ld (some 2) (AX.t 2)) none 0 false true), (AOp.mk (some 61) (AK.mv (AX.t 5)) none 1 false true), (AOp.mk (some 62) (AK.call 26 [(AX.t 60), (AX.t 61)]) none 2 false true), (AOp.mk (some 59) (AK.mv (AX.t 62)) none 3 false true), (AOp.mk (some 63) (AK.ext (AX.t 59) 0) none 4 false true), (AOp.mk (some 64) (AK.ext (AX.t 59) 1) none 5 false true), (AOp.mk (some 10) (AK.mv (AX.t 63)) none 6 false true), (AOp.mk (some 11) (AK.mv (AX.t 64)) none 7 false true)]) (AC.seq (AC.ops [(AOp.mk (some 65) (AK.mv (AX.t 11)) none 0 false true), (AOp.mk (some 66) (AK.bin false BinOp.eql (AX.t 65) (AX.c (PV.val (Value.int IntKind.i64 0)))) none 1 false true), (AOp.mk (some 67) (AK.mv (AX.t 66)) none 2 false true), (AOp.mk (some 68) (AK.mv (AX.t 10)) (some (67, true)) 3 false true), (AOp.mk (some 69) (AK.len (AX.t 68)) (some (67, true)) 4 false true), (AOp.mk (some 70) (AK.bin false BinOp.eql (AX.t 69) (AX.c (PV.val (Value.int IntKind.i64 0)))) (some (67, true)) 5 false true), (AOp.mk (some 71) (AK.pick (AX.t 67) (AX.t 70) (AX.c (PV.val (Value.bool false)))) none 6 false true), (AOp.mk (some 72) (AK.mv (AX.t 71)) none 7 false true), (AOp.mk (some 73) (AK.mv (AX.t 7)) (some (72, true)) 8 false true), (AOp.mk (some 74) (AK.mv (AX.t 5)) (some (72, true)) 9 false true), (AOp.mk (some 75) (AK.call 51 [(AX.t 73), (AX.t 74)]) (some (72, true)) 10 false true), (AOp.mk (some 76) (AK.un UnOp.not (AX.t 75)) (some (72, true)) 11 false true), (AOp.mk (some 77) (AK.mv (AX.t 76)) (some (72, true)) 12 false true), (AOp.mk (some 78) (AK.mv (AX.t 8)) (some (77, false)) 13 false true), (AOp.mk (some 79) (AK.len (AX.t 78)) (some (77, false)) 14 false true), (AOp.mk (some 80) (AK.bin false BinOp.gtr (AX.t 79) (AX.c (PV.val (Value.int IntKind.i64 0)))) (some (77, false)) 15 false true), (AOp.mk (some 81) (AK.pick (AX.t 77) (AX.c (PV.val (Value.bool true))) (AX.t 80)) (some (72, true)) 16 false true), (AOp.mk (some 82) (AK.pick (AX.t 72) (AX.t 81) (AX.c (PV.val (Value.bool false)))) none 17 false true), (AOp.mk (some 83) (AK.mv (AX.t 82)) none 18 false true), (AOp.mk (some 84) (AK.call 25 []) (some (83, true)) 19 false true), (AOp.mk (some 85) (AK.pick (AX.t 83) (AX.t 84) (AX.c (PV.val (Value.bool false)))) none 20 false true), (AOp.mk (some 4) (AK.mv (AX.t 85)) none 21 false true)]) AC.ret)))))))))
theorem ac11_ok : cCode Try.prog (fun _ => false) Try.f11.ntmps (Try.f11.body.getD .skip) = some ac11 := by kernel_rfl
theorem New_bad (k : SK) {b : DBook} (ho : ¬ okBook b) : Sem1 28 [.agg (bookC k b)] (.tup [pis [], pi 70]) :=
  (New_sem k b).mono fun _ e => e.trans (by unfold newR; rw [if_neg ho])
theorem New_none (k : SK) {b : DBook} (ho : okBook b) (hf : freeL b = []) : Sem1 28 [.agg (bookC k b)] (.tup [pis [], pi 4]) :=
  (New_sem k b).mono fun _ e => e.trans (by unfold newR; rw [if_pos ho, hf])
theorem New_some (k : SK) {b : DBook} (ho : okBook b) {z : List Int} {zs : List (List Int)} (hf : freeL b = z :: zs) : Sem1 28 [.agg (bookC k b)] (.tup [pis z, pi 0]) :=
  (New_sem k b).mono fun _ e => e.trans (by unfold newR; rw [if_pos ho, hf])
theorem Whose_ok (k : SK) {b : DBook} (ho : okBook b) {r : List Int} (hr : r ∈ sufs (nR b)) : Sem1 26 [.agg (bookC k b), pis r] (.tup [pis (natL (whoseI b (knownN r))), pi 0]) := by
  obtain ⟨h1, h2⟩ := mem_sufs.1 hr
  have he : errI b (decide (okRow b r)) = 0 := by
    unfold errI
    rw [if_pos ho, decide_eq_true (show okRow b r from ⟨by have := (okR ho).2.2; omega, h2⟩)]
    rfl
  exact (Whose_sem k b r).mono fun _ e => e.trans (by rw [if_pos he])
theorem sizesJ_mem (r : Nat) (bits : List Int) : sizesJ r bits ∈ sufs r := mem_sufs.2 ⟨sizesJ_len r bits, sizesJ_ok r bits⟩
theorem natL_len {l : List Nat} : (natL l).length = l.length := by unfold natL; rw [List.length_map]
set_option maxRecDepth 100000 in
theorem New_law (k : SK) (b : DBook) (bits : List Int) : Sem1 11 [.agg (bookC k b), pis bits] (pb true) := by
  by_cases ho : okBook b
  rotate_left
  · refine semC_of_exec' mixed Try.func11 (by kernel_rfl) (by kernel_rfl) ac11_ok 2 rfl (by decide) [(.tmp 4)] (by kernel_rfl) ?_
    intro hr C hC hI
    unfold ac11
    simp only [go_sem, Nat.reduceBEq, Nat.reduceAdd]
    refine call_pure2 hC (New_bad k ho) rfl (PVleL_refl _) ?_
    rintro r rfl
    simp only [go_sem, Nat.reduceBEq, Nat.reduceAdd]
    refine call_pure2 hC (sound_sem k b) rfl (PVleL_refl _) ?_
    rintro r rfl
    simp only [go_sem, Nat.reduceBEq, decide_true, List.length_nil, Int.natCast_zero]
    refine ⟨fun _ => ?_, fun h => absurd h ho⟩
    refine call_pure2 hC (pressed_sem) rfl (PVleL_refl _) ?_
    rintro r rfl
    simp only [go_sem, Nat.reduceBEq]
    exact retQ_one rfl rfl
  obtain ⟨h1, h8, hn⟩ := okR ho
  have hw := Whose_ok k ho (sizesJ_mem (nR b) bits)
  have hsz : Sem1 49 [pi b.round, pis bits] (pis (sizesJ (nR b) bits)) := by
    rw [hn]
    exact sizes2_sem (nR b) (by omega) bits
  cases hf : freeL b with
  | nil =>
    have hne := free_none ho hf (sizesJ_mem (nR b) bits)
    have hlen : (0 : Int) < (natL (whoseI b (knownN (sizesJ (nR b) bits)))).length := by
      rw [natL_len]
      have := List.length_pos_iff.2 hne
      omega
    refine semC_of_exec' mixed Try.func11 (by kernel_rfl) (by kernel_rfl) ac11_ok 2 rfl (by decide) [(.tmp 4)] (by kernel_rfl) ?_
    intro hr C hC hI
    unfold ac11
    simp only [go_sem, Nat.reduceBEq, Nat.reduceAdd]
    refine call_pure2 hC (New_none k ho hf) rfl (PVleL_refl _) ?_
    rintro r rfl
    simp only [go_sem, Nat.reduceBEq, Nat.reduceAdd]
    refine call_pure2 hC (sound_sem k b) rfl (PVleL_refl _) ?_
    rintro r rfl
    simp only [go_sem, Nat.reduceBEq]
    refine ⟨fun h => absurd ho h, fun _ => ?_⟩
    refine call_pure2 hC (hsz) rfl (PVleL_refl _) ?_
    rintro r rfl
    simp only [go_sem, Nat.reduceBEq, Nat.reduceAdd]
    refine call_pure2 hC (hw) rfl (PVleL_refl _) ?_
    rintro r rfl
    simp only [go_sem, Nat.reduceBEq, decide_true, decide_false, not_true_eq_false, not_false_eq_true, Int.reduceEq, List.length_map, List.length_nil, Int.natCast_zero, hlen]
    refine call_pure2 hC (pressed_sem) rfl (PVleL_refl _) ?_
    rintro r rfl
    simp only [go_sem, Nat.reduceBEq]
    exact retQ_one rfl rfl
  | cons z zs =>
    obtain ⟨hz, hz0, hlt⟩ := free_first ho hf
    have hwz := Whose_ok k ho hz
    rw [hz0, show natL [] = [] from rfl] at hwz
    obtain ⟨hz1, hz2⟩ := mem_sufs.1 hz
    refine semC_of_exec' mixed Try.func11 (by kernel_rfl) (by kernel_rfl) ac11_ok 2 rfl (by decide) [(.tmp 4)] (by kernel_rfl) ?_
    intro hr C hC hI
    unfold ac11
    simp only [go_sem, Nat.reduceBEq, Nat.reduceAdd]
    refine call_pure2 hC (New_some k ho hf) rfl (PVleL_refl _) ?_
    rintro r rfl
    simp only [go_sem, Nat.reduceBEq, Nat.reduceAdd]
    refine call_pure2 hC (sound_sem k b) rfl (PVleL_refl _) ?_
    rintro r rfl
    simp only [go_sem, Nat.reduceBEq]
    refine ⟨fun h => absurd ho h, fun _ => ?_⟩
    refine call_pure2 hC (hsz) rfl (PVleL_refl _) ?_
    rintro r rfl
    simp only [go_sem, Nat.reduceBEq, Nat.reduceAdd]
    refine call_pure2 hC (hw) rfl (PVleL_refl _) ?_
    rintro r rfl
    simp only [go_sem, Nat.reduceBEq, Nat.reduceAdd, decide_false, not_true_eq_false]
    refine call_pure2 hC (hwz) rfl (PVleL_refl _) ?_
    rintro r rfl
    simp only [go_sem, Nat.reduceBEq, decide_true, List.length_nil, Int.natCast_zero]
    refine call_pure2 hC (Less_sem (sizesJ (nR b) bits) z (by rw [sizesJ_len, hz1])) rfl (PVleL_refl _) ?_
    rintro r rfl
    simp only [go_sem, Nat.reduceBEq]
    cases hl : lexB (sizesJ (nR b) bits) z
    · simp only [go_sem, Nat.reduceBEq]
      refine call_pure2 hC (pressed_sem) rfl (PVleL_refl _) ?_
      rintro r rfl
      simp only [go_sem, Nat.reduceBEq]
      exact retQ_one rfl rfl
    · have hne := hlt _ (sizesJ_mem (nR b) bits) hl
      have hlen : (0 : Int) < (natL (whoseI b (knownN (sizesJ (nR b) bits)))).length := by
        rw [natL_len]
        have := List.length_pos_iff.2 hne
        omega
      simp only [go_sem, Nat.reduceBEq, decide_true, List.length_map, hlen]
      refine call_pure2 hC (pressed_sem) rfl (PVleL_refl _) ?_
      rintro r rfl
      simp only [go_sem, Nat.reduceBEq]
      exact retQ_one rfl rfl
set_option maxRecDepth 100000 in
theorem New_row {l0 l1 : List PV} (T0 : Ty Try.prog 10 24 l0) (T1 : Ty Try.prog 10 26 l1) : SemC Try.prog 11 [argPV Try.prog 24 l0, argPV Try.prog 26 l1] (fun r => r = pb true) := by
  obtain ⟨b, rfl⟩ := ty_book T0
  obtain ⟨l, rfl⟩ := ty_ints T1
  rw [argStruct Try.underlying24, argSlice Try.underlying26]
  exact New_law .sh b l
end Go.Proofs.Ytlghbmancjjdjaa
namespace Go.Proofs.Ytlghbmancjjdjaa
open Go.Proofs.Ytlghbmancjjdjaa Go.ChangeShapes Go.WideShapes Go.ChangeAt Go.RowKit Go.Deep

set_option maxRecDepth 100000 in
theorem dappleNew_lifted (os : Os) (started : os.Started) (H : Type) (enc : TypeId × Value → H) :
    ReturnsInHanded {} Try.checked os 11 .any (Rows.dappleNewSpec.pre6 enc Try.prog Try.f11 Rows.dappleNewRow.domain false) (Rows.dappleNewSpec.post enc Try.prog Try.f11 false true false false) := by
  refine returnsInHanded_of_change_sized (C := Try.checked) ownKnobs started (by kernel_rfl) Try.func11
    (ChangeSpec.witness6 (enc := enc) (C := Try.checked) false ⟨#[], #[.agg #[.int .i64 0, .slice none 0 0], .slice none 0 0], []⟩ 8 (by kernel_rfl) (by kernel_rfl) (by kernel_rfl) (by kernel_rfl)) ?_
  intro W base args ds gs before hval0 hW hcnd hsz0 _
  have hval : ∀ (j : Nat) t v, Try.f11.params[j]? = some t → args[j]? = some v → Value.okWide Try.prog W .any base t v := hval0
  have hsz : (DataW.weightsEach Try.prog (Try.f11.params.toList ++ Rows.dappleNewSpec.plain.varTypes Try.prog) (ds ++ gs)).all (· ≤ reachBytes) = true := hsz0
  have hW' := hW
  obtain ⟨p, q, hA0, hV, rfl, hfz, hnd⟩ := hW
  have hA : DataW.TrodAll enc Try.prog W 0 (fun _ => true) true Try.f11.params.toList args.toList ds p := hA0
  rw [Try.params11] at hA hval hsz
  obtain ⟨v0, vs0, d0, ds0, p0, q0, hargs, rfl, rfl, h0, r0⟩ := trodAll_cons hA
  obtain ⟨v1, vs1, d1, ds1, p1, q1, rfl, rfl, rfl, h1, r1⟩ := trodAll_cons r0
  obtain ⟨rfl, rfl, rfl⟩ := trodAll_nil r1
  obtain rfl : args = #[v0, v1] := by cases args; simp_all
  obtain ⟨rfl, rfl⟩ := trodVars_none hV
  have lt0 : ∀ x ∈ p0, x.block < W.heap.size := by obtain ⟨m, hm⟩ := h0; exact DataW.trod_lt m _ _ _ hm
  have lt1 : ∀ x ∈ p1, x.block < W.heap.size := by obtain ⟨m, hm⟩ := h1; exact DataW.trod_lt m _ _ _ hm
  have z0 : SizedP Try.prog 24 d0 := sizedP_each hsz (j := 0) rfl rfl
  obtain ⟨l0, T0, R0⟩ := rd_arg 10 (by kernel_rfl) (hval 0 24 v0 rfl rfl) h0 z0
  have z1 : SizedP Try.prog 26 d1 := sizedP_each hsz (j := 1) rfl rfl
  obtain ⟨l1, T1, R1⟩ := rd_arg 10 (by kernel_rfl) (hval 1 26 v1 rfl rfl) h1 z1
  clear hA0 hval0 hsz0
  refine (law_calls (New_row T0 T1) (argsP_cons R0 (argsP_cons R1 argsP_nil))).mono fun e W' ⟨he, bel⟩ => ?_
  subst he
  exact ⟨_, rfl, _, _, _, [], _, [], hW', trodAll_mk1 (shut_bool Try.underlying4 _), (trodAll_cons_mk (Below.trod laidOut (by kernel_rfl) (of_decide_eq_true (by kernel_rfl)) h0 bel lt0) (trodAll_cons_mk (Below.trod laidOut (by kernel_rfl) (of_decide_eq_true (by kernel_rfl)) h1 bel lt1) trodAll_mk0)), rfl, bel.frame _, fun h => by cases h⟩

theorem dappleNew_holds : Rows.DappleNewSaid :=
  OpenClaim.holds_of_wide 11 Try.f11 rfl rfl rfl rfl rfl rfl rfl ⟨rfl, rfl, rfl, rfl, rfl⟩ rfl rfl rfl rfl rfl (by kernel_rfl) Try.func11 (by kernel_rfl)
    (of_decide_eq_true (by kernel_rfl)) (by unfold Func.isWrapper; first | (rw [if_pos (by decide +kernel)]; kernel_rfl) | (rw [if_neg (by decide +kernel)]; exact ⟨rfl, rfl⟩))
    (fun os started H enc _ => dappleNew_lifted os started H enc)
end Go.Proofs.Ytlghbmancjjdjaa
