/- DappleFirsts DappleFirsts returns true: Clash, Sure, Drop and Look return what the specification says; for every book; no condition. Law: DappleFirsts. The specification of dapple: where it is best to look. -/
import Derived.Test.YthibnlfbdbidjaaKo08
import Derived.Test.YthibnlfbdbidjaaKo10
import Derived.Test.YthibnlfbdbidjaaGa16
namespace Go.Proofs.Ythibnlfbdbidjaa
open Go.RowKit
def ac90 : AC := (AC.seq (AC.ops [(AOp.mk (some 4) (AK.box 2 (AX.t 0)) none 0 false true), (AOp.mk (some 8) (AK.new (PV.agg [(PV.val (Value.int IntKind.i64 0)), (PV.sl SK.full 0 [])])) none 1 false true)]) (AC.seq (AC.ops [(AOp.mk (some 10) (AK.ld (some 2) (AX.t 4)) none 0 false true), (AOp.mk (some 9) (AK.new (PV.agg [(PV.val (Value.int IntKind.i64 0)), (PV.sl SK.full 0 [])])) none 1 false true), (AOp.mk none (AK.st 2 (AX.t 9) (AX.t 10)) none 2 false true)]) (AC.seq (AC.ops [(AOp.mk (some 11) (AK.bslice false 26 1 0 [(PV.sl SK.full 0 [])] []) none 0 false true), (AOp.mk (some 12) (AK.fadr 1 (AX.t 4)) none 1 false true), (AOp.mk (some 13) (AK.ld none (AX.t 12)) none 2 false true), (AOp.mk (some 14) (AK.app true 26 1 24 [(PV.sl SK.full 0 [])] (AX.t 11) (AX.t 13)) none 3 false true), (AOp.mk (some 15) (AK.fadr 1 (AX.t 9)) none 4 false true), (AOp.mk none (AK.st 1 (AX.t 15) (AX.t 14)) none 5 false true)]) (AC.seq (AC.ops [(AOp.mk (some 16) (AK.fadr 1 (AX.t 9)) none 0 true false), (AOp.mk (some 17) (AK.ld none (AX.t 16)) none 1 true false), (AOp.mk (some 18) (AK.mv (AX.t 1)) none 2 true false), (AOp.mk (some 20) (AK.fadr 1 (AX.t 4)) none 4 true false), (AOp.mk (some 21) (AK.ld none (AX.t 20)) none 5 true false), (AOp.mk (some 22) (AK.mv (AX.t 1)) none 6 true false), (AOp.mk (some 23) (AK.iadrS 1 (AX.t 21) (AX.t 22)) none 7 true false), (AOp.mk (some 24) (AK.ld none (AX.t 23)) none 8 true false), (AOp.mk (some 19) (AK.bslice false 3 1 0 [(PV.val (Value.int IntKind.i64 0))] []) none 3 false false), (AOp.mk (some 25) (AK.app true 3 1 8 [(PV.val (Value.int IntKind.i64 0))] (AX.t 19) (AX.t 24)) none 9 false false), (AOp.mk (some 26) (AK.iadrS 1 (AX.t 17) (AX.t 18)) none 10 true true), (AOp.mk none (AK.st 1 (AX.t 26) (AX.t 25)) none 11 false true)]) (AC.seq (AC.ops [(AOp.mk (some 27) (AK.fadr 1 (AX.t 9)) none 0 true false), (AOp.mk (some 28) (AK.ld none (AX.t 27)) none 1 true false), (AOp.mk (some 29) (AK.mv (AX.t 1)) none 2 true false), (AOp.mk (some 30) (AK.iadrS 1 (AX.t 28) (AX.t 29)) none 3 true false), (AOp.mk (some 31) (AK.ld none (AX.t 30)) none 4 true false), (AOp.mk (some 32) (AK.mv (AX.t 2)) none 5 true false), (AOp.mk (some 33) (AK.mv (AX.t 3)) none 6 true false), (AOp.mk (some 34) (AK.bin false BinOp.shl (AX.c (PV.val (Value.int IntKind.i64 1))) (AX.t 33)) none 7 true false), (AOp.mk (some 35) (AK.iadrS 1 (AX.t 31) (AX.t 32)) none 8 true true), (AOp.mk none (AK.st 1 (AX.t 35) (AX.t 34)) none 9 false true)]) (AC.seq (AC.ops [(AOp.mk (some 36) (AK.ld (some 2) (AX.t 9)) none 0 false true), (AOp.mk none (AK.st 2 (AX.t 8) (AX.t 36)) none 1 false true)]) AC.ret))))))
theorem ac90_ok : cCode Try.prog (fun d => d == 14 || d == 25) Try.f90.ntmps (Try.f90.body.getD .skip) = some ac90 := by kernel_rfl
def ac37 : AC := (AC.seq (AC.ops [(AOp.mk (some 1) (AK.box 2 (AX.t 0)) none 0 false true), (AOp.mk (some 2) (AK.mv (AX.c (PV.val (Value.int IntKind.i64 0)))) none 1 false true), (AOp.mk (some 3) (AK.mv (AX.c (PV.val (Value.int IntKind.i64 0)))) none 2 false true), (AOp.mk (some 4) (AK.mv (AX.c (PV.val (Value.int IntKind.i64 0)))) none 3 false true)]) (AC.seq (AC.seq (AC.ops [(AOp.mk (some 14) (AK.ld (some 2) (AX.t 1)) none 0 false true), (AOp.mk (some 15) (AK.call 22 [(AX.t 14)]) none 1 false true), (AOp.mk (some 5) (AK.mv (AX.t 15)) none 2 false true)]) (AC.seq (AC.ops [(AOp.mk (some 16) (AK.mv (AX.t 5)) none 0 false true), (AOp.mk (some 17) (AK.bin false BinOp.neq (AX.t 16) (AX.c (PV.val (Value.int IntKind.i64 0)))) none 1 false true)]) (AC.cond (AX.t 17) (AC.seq (AC.ops [(AOp.mk (some 18) (AK.mv (AX.t 5)) none 0 false true), (AOp.mk (some 2) (AK.mv (AX.c (PV.val (Value.int IntKind.i64 0)))) none 1 false true), (AOp.mk (some 3) (AK.mv (AX.c (PV.val (Value.int IntKind.i64 0)))) none 2 false true), (AOp.mk (some 4) (AK.mv (AX.t 18)) none 3 false true)]) AC.ret) AC.skip))) (AC.seq (AC.ops [(AOp.mk (some 6) (AK.mv (AX.c (PV.val (Value.int IntKind.i64 0)))) none 0 false true), (AOp.mk (some 7) (AK.mv (AX.c (PV.val (Value.int IntKind.i64 0)))) none 1 false true), (AOp.mk (some 8) (AK.mv (AX.c (PV.val (Value.int IntKind.i64 (-1))))) none 2 false true)]) (AC.seq (AC.seq (AC.ops [(AOp.mk (some 9) (AK.mv (AX.c (PV.val (Value.int IntKind.i64 0)))) none 0 false true)]) (AC.block 0 (AC.loop (AC.seq (AC.seq (AC.ops [(AOp.mk (some 19) (AK.mv (AX.t 9)) none 0 false true), (AOp.mk (some 20) (AK.fadr 1 (AX.t 1)) none 1 false true), (AOp.mk (some 21) (AK.ld none (AX.t 20)) none 2 false true), (AOp.mk (some 22) (AK.len (AX.t 21)) none 3 false true), (AOp.mk (some 23) (AK.bin false BinOp.lss (AX.t 19) (AX.t 22)) none 4 false true)]) (AC.cond (AX.t 23) AC.skip (AC.exit 0))) (AC.seq (AC.block 1 (AC.seq (AC.ops [(AOp.mk (some 10) (AK.mv (AX.c (PV.val (Value.int IntKind.i64 0)))) none 0 false true)]) (AC.block 2 (AC.loop (AC.seq (AC.seq (AC.ops [(AOp.mk (some 26) (AK.mv (AX.t 10)) none 0 false true), (AOp.mk (some 27) (AK.fadr 0 (AX.t 1)) none 1 false true), (AOp.mk (some 28) (AK.ld none (AX.t 27)) none 2 false true), (AOp.mk (some 29) (AK.bin false BinOp.lss (AX.t 26) (AX.t 28)) none 3 false true)]) (AC.cond (AX.t 29) AC.skip (AC.exit 2))) (AC.seq (AC.block 3 (AC.seq (AC.ops [(AOp.mk (some 32) (AK.fadr 1 (AX.t 1)) none 0 false true), (AOp.mk (some 33) (AK.ld none (AX.t 32)) none 1 false true), (AOp.mk (some 34) (AK.mv (AX.t 9)) none 2 false true), (AOp.mk (some 35) (AK.iadrS 1 (AX.t 33) (AX.t 34)) none 3 false true), (AOp.mk (some 36) (AK.ld none (AX.t 35)) none 4 false true), (AOp.mk (some 37) (AK.mv (AX.t 10)) none 5 false true), (AOp.mk (some 38) (AK.iadrS 1 (AX.t 36) (AX.t 37)) none 6 false true), (AOp.mk (some 39) (AK.ld none (AX.t 38)) none 7 false true), (AOp.mk (some 40) (AK.call 48 [(AX.t 39), (AX.c (PV.val (Value.int IntKind.i64 4)))]) none 8 false true), (AOp.mk (some 11) (AK.mv (AX.t 40)) none 9 false true), (AOp.mk (some 12) (AK.mv (AX.c (PV.val (Value.int IntKind.i64 0)))) none 10 false true)]) (AC.seq (AC.seq (AC.ops [(AOp.mk (some 41) (AK.mv (AX.t 11)) none 0 false true), (AOp.mk (some 42) (AK.len (AX.t 41)) none 1 false true), (AOp.mk (some 43) (AK.bin false BinOp.eql (AX.t 42) (AX.c (PV.val (Value.int IntKind.i64 1)))) none 2 false true)]) (AC.cond (AX.t 43) (AC.exit 3) AC.skip)) (AC.seq (AC.seq (AC.ops [(AOp.mk (some 13) (AK.mv (AX.c (PV.val (Value.int IntKind.i64 0)))) none 0 false true)]) (AC.block 4 (AC.loop (AC.seq (AC.seq (AC.ops [(AOp.mk (some 44) (AK.mv (AX.t 13)) none 0 false true), (AOp.mk (some 45) (AK.mv (AX.t 11)) none 1 false true), (AOp.mk (some 46) (AK.len (AX.t 45)) none 2 false true), (AOp.mk (some 47) (AK.bin false BinOp.lss (AX.t 44) (AX.t 46)) none 3 false true)]) (AC.cond (AX.t 47) AC.skip (AC.exit 4))) (AC.seq (AC.block 5 (AC.ops [(AOp.mk (some 50) (AK.mv (AX.t 12)) none 0 true false), (AOp.mk (some 51) (AK.ld (some 2) (AX.t 1)) none 1 true false), (AOp.mk (some 52) (AK.mv (AX.t 9)) none 2 true false), (AOp.mk (some 53) (AK.mv (AX.t 10)) none 3 true false), (AOp.mk (some 54) (AK.mv (AX.t 11)) none 4 true false), (AOp.mk (some 55) (AK.mv (AX.t 13)) none 5 true false), (AOp.mk (some 56) (AK.iadrS 1 (AX.t 54) (AX.t 55)) none 6 true false), (AOp.mk (some 57) (AK.ld none (AX.t 56)) none 7 true false), (AOp.mk (some 58) (AK.call 90 [(AX.t 51), (AX.t 52), (AX.t 53), (AX.t 57)]) none 8 false false), (AOp.mk (some 59) (AK.call 87 [(AX.t 58), (AX.c (PV.val (Value.int IntKind.i64 0)))]) none 9 false false), (AOp.mk (some 60) (AK.mx true [(AX.t 50), (AX.t 59)]) none 10 true true), (AOp.mk (some 12) (AK.mv (AX.t 60)) none 11 true true)])) (AC.ops [(AOp.mk (some 48) (AK.mv (AX.t 13)) none 0 false true), (AOp.mk (some 49) (AK.bin false BinOp.add (AX.t 48) (AX.c (PV.val (Value.int IntKind.i64 1)))) none 1 false true), (AOp.mk (some 13) (AK.mv (AX.t 49)) none 2 false true)])))))) (AC.seq (AC.ops [(AOp.mk (some 61) (AK.mv (AX.t 8)) none 0 false true), (AOp.mk (some 62) (AK.bin false BinOp.lss (AX.t 61) (AX.c (PV.val (Value.int IntKind.i64 0)))) none 1 false true), (AOp.mk (some 63) (AK.mv (AX.t 62)) none 2 false true), (AOp.mk (some 64) (AK.mv (AX.t 12)) (some (63, false)) 3 false true), (AOp.mk (some 65) (AK.mv (AX.t 8)) (some (63, false)) 4 false true), (AOp.mk (some 66) (AK.bin false BinOp.lss (AX.t 64) (AX.t 65)) (some (63, false)) 5 false true), (AOp.mk (some 67) (AK.pick (AX.t 63) (AX.c (PV.val (Value.bool true))) (AX.t 66)) none 6 false true)]) (AC.cond (AX.t 67) (AC.ops [(AOp.mk (some 68) (AK.mv (AX.t 9)) none 0 false true), (AOp.mk (some 69) (AK.mv (AX.t 10)) none 1 false true), (AOp.mk (some 70) (AK.mv (AX.t 12)) none 2 false true), (AOp.mk (some 6) (AK.mv (AX.t 68)) none 3 false true), (AOp.mk (some 7) (AK.mv (AX.t 69)) none 4 false true), (AOp.mk (some 8) (AK.mv (AX.t 70)) none 5 false true)]) AC.skip)))))) (AC.ops [(AOp.mk (some 30) (AK.mv (AX.t 10)) none 0 false true), (AOp.mk (some 31) (AK.bin false BinOp.add (AX.t 30) (AX.c (PV.val (Value.int IntKind.i64 1)))) none 1 false true), (AOp.mk (some 10) (AK.mv (AX.t 31)) none 2 false true)]))))))) (AC.ops [(AOp.mk (some 24) (AK.mv (AX.t 9)) none 0 false true), (AOp.mk (some 25) (AK.bin false BinOp.add (AX.t 24) (AX.c (PV.val (Value.int IntKind.i64 1)))) none 1 false true), (AOp.mk (some 9) (AK.mv (AX.t 25)) none 2 false true)])))))) (AC.seq (AC.seq (AC.ops [(AOp.mk (some 71) (AK.mv (AX.t 8)) none 0 false true), (AOp.mk (some 72) (AK.bin false BinOp.lss (AX.t 71) (AX.c (PV.val (Value.int IntKind.i64 0)))) none 1 false true)]) (AC.cond (AX.t 72) (AC.seq (AC.ops [(AOp.mk (some 2) (AK.mv (AX.c (PV.val (Value.int IntKind.i64 0)))) none 0 false true), (AOp.mk (some 3) (AK.mv (AX.c (PV.val (Value.int IntKind.i64 0)))) none 1 false true), (AOp.mk (some 4) (AK.mv (AX.c (PV.val (Value.int IntKind.i64 4)))) none 2 false true)]) AC.ret) AC.skip)) (AC.seq (AC.ops [(AOp.mk (some 73) (AK.mv (AX.t 6)) none 0 false true), (AOp.mk (some 74) (AK.mv (AX.t 7)) none 1 false true), (AOp.mk (some 2) (AK.mv (AX.t 73)) none 2 false true), (AOp.mk (some 3) (AK.mv (AX.t 74)) none 3 false true), (AOp.mk (some 4) (AK.mv (AX.c (PV.val (Value.int IntKind.i64 0)))) none 4 false true)]) AC.ret))))))
theorem ac37_ok : cCode Try.prog (fun _ => false) Try.f37.ntmps (Try.f37.body.getD .skip) = some ac37 := by kernel_rfl
theorem rKnown_sem (k : SK) {b : DBook} (ho : okBook b) {h p s : Nat} (hh : h < b.horses.length) (hp : p < nR b) (hs : s < 4) : Sem1 90 [.agg (bookC k b), pi h, pi p, pi s] (.agg (bookC .sh (knowB b h p s))) := by
  obtain ⟨h1, h8, hn⟩ := okR ho
  have h6 := ho.2.1
  have eh := iadr_map (f := fun h => [pis h]) (kd := k) (sz := 1) hh
  refine semC_of_exec' mixed Try.func90 (by kernel_rfl) (by kernel_rfl) ac90_ok 4 rfl (by decide) [(.cell 8 24)] (by kernel_rfl) ?_
  intro hr C hC hI
  unfold ac90
  simp only [go_sem, Nat.reduceBEq, Nat.reduceAdd, putCells]
  refine ⟨by rw [List.length_map]; omega, fun e => absurd (congrArg List.length e) (by rw [List.length_map, List.length_nil]; omega), fun _ => ?_⟩
  simp only [go_sem, Nat.reduceBEq, Nat.reduceAdd, eh]
  have hRl : b.horses[h].length = nR b := by have := (ho.2.2 _ (List.getElem_mem hh)).1; omega
  have f1 : (List.map (fun h => [pis h]) b.horses).flatten = b.horses.map pis := flat1 (fun h => pis h) b.horses
  have f2 : (List.map (fun x => [pi x]) b.horses[h]).flatten = b.horses[h].map pi := flat1 (fun x => pi x) _
  refine ⟨by rw [List.length_map]; omega, fun e => absurd (congrArg List.length e) (by rw [List.length_map, List.length_nil]; omega), fun _ => ?_⟩
  rw [f1, f2]
  have i1 : iadrS' 1 (AV.sli 3 b.horses.length 1) (AV.p (pi h)) = some (.loc 3 h) := by
    simp [iadrS', hh]
  have i2 : iadrS' 1 (AV.sli 4 b.horses[h].length 1) (AV.p (pi p)) = some (.loc 4 p) := by
    simp [iadrS', show p < b.horses[h].length by omega]
  have hge : (List.take h (List.map AV.p (b.horses.map pis)) ++ [AV.sli 4 b.horses[h].length 1] ++ List.drop (h + 1) (List.map AV.p (b.horses.map pis)))[h]? = some (AV.sli 4 b.horses[h].length 1) := by
    rw [List.append_assoc, List.getElem?_append_right (by simp; omega)]
    simp [show min h b.horses.length = h by omega]
  have hh1 : h + 1 ≤ b.horses.length := hh
  have hp1 : p + 1 ≤ b.horses[h].length := by omega
  simp only [go_sem, Nat.reduceBEq, Nat.reduceAdd, i1, i2, putCells, List.length_map, hh1, hp1, hge, bin_shl (show ¬ (s : Int) < 0 by omega)]
  have hw2 : IntKind.i64.wrap (1 * 2 ^ min ((s : Int)).toNat 64) = 2 ^ s := by
    rw [pow2_small (show 0 ≤ (s : Int) ∧ (s : Int) ≤ 3 by omega), Int.toNat_natCast]
  rw [hw2]
  have hn2 : List.take p b.horses[h] ++ (2 ^ s) :: List.drop (p + 1) b.horses[h] = knowR b h p s h (nR b) := by
    apply List.ext_getElem?
    intro q
    unfold knowR
    rcases Nat.lt_trichotomy q p with hq | rfl | hq
    · rw [List.getElem?_append_left (by simp; omega), List.getElem?_take_of_lt hq, List.getElem?_map, List.getElem?_range (by omega)]
      have : ¬ (h, q) = (h, p) := by simp; omega
      simp [List.getD_eq_getElem?_getD, List.getElem?_eq_getElem hh, List.getElem?_eq_getElem (show q < b.horses[h].length by omega), show ¬ q = p by omega]
    · rw [List.getElem?_append_right (by simp; omega), List.getElem?_map, List.getElem?_range (by omega)]
      simp [show min q b.horses[h].length = q by omega]
    · rw [List.getElem?_append_right (by simp; omega), List.length_take, show q - min p b.horses[h].length = (q - p - 1) + 1 by omega, List.getElem?_cons_succ, List.getElem?_drop, show p + 1 + (q - p - 1) = q by omega, List.getElem?_map]
      rcases Nat.lt_or_ge q (nR b) with hq2 | hq2
      · rw [List.getElem?_range hq2, List.getElem?_eq_getElem (show q < b.horses[h].length by omega)]
        simp [List.getD_eq_getElem?_getD, List.getElem?_eq_getElem hh, List.getElem?_eq_getElem (show q < b.horses[h].length by omega), show ¬ q = p by omega]
      · rw [List.getElem?_eq_none (show (List.range (nR b)).length ≤ q by simpa using hq2), List.getElem?_eq_none (show b.horses[h].length ≤ q by omega)]
        rfl
  have hb2 : List.take h b.horses ++ knowR b h p s h (nR b) :: List.drop (h + 1) b.horses = (knowB b h p s).horses := by
    apply List.ext_getElem?
    intro q
    show _ = ((List.range b.horses.length).map fun i => knowR b h p s i (nR b))[q]?
    rw [List.getElem?_map]
    have hold : ∀ q, q < b.horses.length → q ≠ h → b.horses[q]? = some (knowR b h p s q (nR b)) := by
      intro q hq hne
      have hql : b.horses[q].length = nR b := by have := (ho.2.2 _ (List.getElem_mem hq)).1; omega
      rw [List.getElem?_eq_getElem hq]
      congr 1
      unfold knowR
      apply List.ext_getElem?
      intro x
      rcases Nat.lt_or_ge x (nR b) with hx | hx
      · rw [List.getElem?_map, List.getElem?_range hx, List.getElem?_eq_getElem (show x < b.horses[q].length by omega)]
        simp [List.getD_eq_getElem?_getD, List.getElem?_eq_getElem hq, List.getElem?_eq_getElem (show x < b.horses[q].length by omega), hne]
      · rw [List.getElem?_eq_none (by omega), List.getElem?_eq_none (by simpa using hx)]
    rcases Nat.lt_trichotomy q h with hq | rfl | hq
    · rw [List.getElem?_append_left (by simp; omega), List.getElem?_take_of_lt hq, List.getElem?_range (by omega), hold q (by omega) (by omega)]
      rfl
    · rw [List.getElem?_append_right (by simp; omega), List.getElem?_range hh]
      simp [show min q b.horses.length = q by omega]
    · rw [List.getElem?_append_right (by simp; omega), List.length_take, show q - min h b.horses.length = (q - h - 1) + 1 by omega, List.getElem?_cons_succ, List.getElem?_drop, show h + 1 + (q - h - 1) = q by omega]
      rcases Nat.lt_or_ge q b.horses.length with hq2 | hq2
      · rw [List.getElem?_range hq2, hold q hq2 (by omega)]
        rfl
      · rw [List.getElem?_eq_none hq2, List.getElem?_eq_none (show (List.range b.horses.length).length ≤ q by simpa using hq2)]
        rfl
  obtain ⟨L', hL⟩ := pur_two (L := [.cells [.p (pi b.round), .p (.sl k 1 (rowsC b.horses))], .cells [.p (pi b.round), .sli 3 b.horses.length 1], .cells [.p (pi b.round), .sli 3 b.horses.length 1], .cells (((b.horses.take h).map pis).map .p ++ (.sli 4 b.horses[h].length 1 :: ((b.horses.drop (h + 1)).map pis).map .p)), .cells (((List.take p b.horses[h] ++ (2 ^ s) :: List.drop (p + 1) b.horses[h]).map pi).map .p)]) (i := 3) (j := 4) (us := (b.horses.take h).map pis) (ds := (b.horses.drop (h + 1)).map pis) (l2 := (List.take p b.horses[h] ++ (2 ^ s) :: List.drop (p + 1) b.horses[h]).map pi) (m := b.horses[h].length) (n := b.horses.length) (f := 97) (by decide) rfl rfl (by simp; omega) (by simp; omega) (by simp; omega)
  have c1 : List.take h (List.map AV.p (List.map pis b.horses)) ++ [AV.sli 4 b.horses[h].length 1] ++ List.drop (h + 1) (List.map AV.p (List.map pis b.horses)) = ((b.horses.take h).map pis).map .p ++ (.sli 4 b.horses[h].length 1 :: ((b.horses.drop (h + 1)).map pis).map .p) := by
    simp [List.map_take, List.map_drop]
  have c2 : List.take p (List.map AV.p (List.map pi b.horses[h])) ++ [AV.p (PV.val (Value.int IntKind.i64 (2 ^ s)))] ++ List.drop (p + 1) (List.map AV.p (List.map pi b.horses[h])) = ((List.take p b.horses[h] ++ (2 ^ s) :: List.drop (p + 1) b.horses[h]).map pi).map .p := by
    simp [List.map_take, List.map_drop]
  rw [c1, c2]
  refine ⟨[.agg [.p (pi b.round), .sli 3 b.horses.length 1]], [.agg [pi b.round, .sl .sh 1 (((b.horses.take h).map pis ++ .sl .sh 1 (((List.take p b.horses[h] ++ (2 ^ s) :: List.drop (p + 1) b.horses[h]).map pi).map fun x => [x]) :: (b.horses.drop (h + 1)).map pis).map fun x => [x])]], L', _, ?_, ?_, PVle.refl _, ?_⟩
  · have hsh : shapeN Try.prog 24 = some (some 2) := by kernel_rfl
    simp only [resA, hsh]
    rfl
  · exact pur_pair hL
  · have e : rowsC (knowB b h p s).horses = ((b.horses.take h).map pis ++ .sl .sh 1 (((List.take p b.horses[h] ++ (2 ^ s) :: List.drop (p + 1) b.horses[h]).map pi).map fun x => [x]) :: (b.horses.drop (h + 1)).map pis).map fun x => [x] := by
      rw [← hb2, ← hn2]
      simp [Function.comp_def, List.map_take, List.map_drop]
    show PV.agg [pi b.round, _] = PV.agg [pi (knowB b h p s).round, .sl .sh 1 (rowsC (knowB b h p s).horses)]
    rw [e]
    rfl
theorem worst_fold2 (b : DBook) (h p : Nat) : ∀ (l : List Nat) (m : Int), 0 ≤ m → 0 ≤ l.foldl (fun m s => maxI true m (clashI (knowB b h p s))) m
  | [], _, hm => hm
  | s :: l, m, hm => by
    refine worst_fold2 b h p l _ ?_
    unfold maxI
    simp only [if_true]
    split <;> omega
theorem worst_nn2 (b : DBook) (h p : Nat) : 0 ≤ worstI b h p := worst_fold2 b h p _ 0 (by omega)
theorem of_zero (i : Nat) : ofI 0 (i : Int) = false := by
  unfold ofI
  rw [Int.zero_fdiv]
  rfl
theorem totM_clash {b : DBook} (ho : okBook b) : totM b 0 b.horses.length = clashI b := by
  rw [clash_tot ho]
  unfold totM totC rowM rowC
  congr 1
  refine List.map_congr_left fun i _ => ?_
  congr 1
  refine List.filter_congr fun q _ => ?_
  unfold manyP kindJ
  rw [of_zero, of_zero, if_neg (by omega)]
  rfl
abbrev LS3 := Int × Int × Int
def stepO (b : DBook) (s : LS3) (v : Nat × Nat) : LS3 := if s.2.2 < 0 ∨ worstI b v.1 v.2 < s.2.2 then ((v.1 : Int), (v.2 : Int), worstI b v.1 v.2) else s
def stepL (b : DBook) (s : LS3) (v : Nat × Nat) : LS3 := if openB (hsI b v.1 v.2) = true then stepO b s v else s
def rowS (b : DBook) (s : LS3) (h j : Nat) : LS3 := (List.range j).foldl (fun s p => stepL b s (h, p)) s
def allS (b : DBook) (i : Nat) : LS3 := (List.range i).foldl (fun s h => rowS b s h (nR b)) (0, 0, -1)
theorem rowS_next (b : DBook) (s : LS3) (h j : Nat) : rowS b s h (j + 1) = stepL b (rowS b s h j) (h, j) := by
  unfold rowS
  rw [List.range_succ, List.foldl_append]
  rfl
theorem allS_next (b : DBook) (i : Nat) : allS b (i + 1) = rowS b (allS b i) i (nR b) := by
  unfold allS
  rw [List.range_succ, List.foldl_append]
  rfl
theorem chL_filter {b : DBook} (ho : okBook b) : chL b 0 = ((List.range b.horses.length).flatMap fun h => (List.range (nR b)).map fun p => (h, p)).filter fun v => openB (hsI b v.1 v.2) := by
  obtain ⟨h1, h8, -⟩ := okR ho
  rw [filter_flat]
  unfold chL
  rw [List.drop_zero]
  rw [List.flatMap_def, List.flatMap_def]
  congr 1
  refine List.map_congr_left fun h hh => ?_
  have hh := List.mem_range.1 hh
  unfold chIL
  rw [List.drop_zero, List.filter_map]
  congr 1
  rw [show (8 : Nat) = nR b + (8 - nR b) by omega, List.range_add, List.filter_append]
  have e2 : ((List.range (8 - nR b)).map (nR b + ·)).filter (fun p => decide (openF b h p ≠ 0)) = [] := by
    rw [List.filter_eq_nil_iff]
    intro p hp
    obtain ⟨q, -, rfl⟩ := List.mem_map.1 hp
    simp only [decide_eq_true_eq]
    intro h0
    have := openF_lt h0
    omega
  rw [e2, List.append_nil]
  refine List.filter_congr fun p hp => ?_
  have := open_ne ho hh (List.mem_range.1 hp)
  rw [Bool.eq_iff_iff, decide_eq_true_eq]
  exact this
theorem fold_best (b : DBook) : ∀ (zs : List (Nat × Nat)) (v : Nat × Nat), zs.foldl (stepO b) ((v.1 : Int), (v.2 : Int), worstI b v.1 v.2) = (((bestF b v zs).1 : Int), ((bestF b v zs).2 : Int), worstI b (bestF b v zs).1 (bestF b v zs).2)
  | [], _ => rfl
  | c :: zs, v => by
    have hv := worst_nn2 b v.1 v.2
    have e : bestF b v (c :: zs) = bestF b (if lessC b c v then c else v) zs := rfl
    rw [e, List.foldl_cons]
    unfold stepO
    simp only
    cases hl : lessC b c v
    · have hge : ¬ worstI b c.1 c.2 < worstI b v.1 v.2 := of_decide_eq_false hl
      rw [if_neg (by omega), if_neg (by decide)]
      exact fold_best b zs v
    · have hlt : worstI b c.1 c.2 < worstI b v.1 v.2 := of_decide_eq_true hl
      rw [if_pos (.inr hlt), if_pos rfl]
      exact fold_best b zs c
theorem allS_end {b : DBook} (ho : okBook b) : allS b b.horses.length = if knownB b then (0, 0, -1) else (((lookI b).1 : Int), ((lookI b).2 : Int), worstI b (lookI b).1 (lookI b).2) := by
  have e : allS b b.horses.length = (chL b 0).foldl (stepO b) (0, 0, -1) := by
    rw [chL_filter ho, List.foldl_filter, List.foldl_flatMap]
    unfold allS rowS stepL
    simp only [List.foldl_map]
  rw [e]
  cases hk : knownB b
  · obtain ⟨v, zs, hl⟩ := List.exists_cons_of_ne_nil (chL_ne hk)
    have el : lookI b = bestF b v zs := by
      unfold lookI
      rw [hl]
      show bestF b (if lessC b v v then v else v) zs = _
      rw [ite_self]
    rw [hl, el, if_neg (by decide), List.foldl_cons]
    have : stepO b (0, 0, -1) v = ((v.1 : Int), (v.2 : Int), worstI b v.1 v.2) := by
      unfold stepO
      rw [if_pos (.inl (by decide))]
    rw [this, fold_best]
  · rw [known_choice.1 hk, if_pos rfl]
    rfl
theorem rLook_sem (k : SK) (b : DBook) : Sem1 37 [.agg (bookC k b)] (lookR b) := by
  unfold lookR
  by_cases ho : okBook b
  rotate_left
  · rw [if_neg ho]
    refine semC_of_exec' mixed Try.func37 (by kernel_rfl) (by kernel_rfl) ac37_ok 1 rfl (by decide) [(.tmp 2), (.tmp 3), (.tmp 4)] (by kernel_rfl) ?_
    intro hr C hC hI
    unfold ac37
    simp only [go_sem, Nat.reduceBEq, Nat.reduceAdd]
    refine call_pure2 hC (rCheck_sem k b) rfl (PVleL_refl _) ?_
    rintro r rfl
    simp only [go_sem, Nat.reduceBEq]
    rw [if_neg ho]
    exact ⟨fun _ => retQ_three rfl rfl rfl rfl, fun h => absurd h (by decide)⟩
  rw [if_pos ho]
  obtain ⟨h1, h8, hn⟩ := okR ho
  have h6 := ho.2.1
  have hend := allS_end ho
  refine semC_of_exec' mixed Try.func37 (by kernel_rfl) (by kernel_rfl) ac37_ok 1 rfl (by decide) [(.tmp 2), (.tmp 3), (.tmp 4)] (by kernel_rfl) ?_
  intro hr C hC hI
  unfold ac37
  simp only [go_sem, Nat.reduceBEq, Nat.reduceAdd]
  refine call_pure2 hC (rCheck_sem k b) rfl (PVleL_refl _) ?_
  rintro r rfl
  simp only [go_sem, Nat.reduceBEq]
  rw [if_pos ho]
  refine ⟨fun h => absurd rfl h, fun _ => ?_⟩
  refine loop_k b.horses.length (fun _ => True) [1] (fun i => [(6, .p (pi (allS b i).1)), (7, .p (pi (allS b i).2.1)), (8, .p (pi (allS b i).2.2)), (9, .p (pi i))]) trivial rfl ⟨rfl, by simp, by simp⟩ (by simp [allS, wkT, look, AV.lo]) ?_
  rintro h ⟨hh, -⟩
  simp only [go_sem, Nat.reduceBEq, List.length_map]
  refine ⟨fun h5 => ?_, fun h5 => ?_⟩
  · have hh2 : h < b.horses.length := by omega
    have hnx := allS_next b h
    have ehh := iadr_map (f := fun h => [pis h]) (kd := k) (sz := 1) hh2
    refine loop_k (nR b) (fun _ => True) [1, 9] (fun p => [(6, .p (pi (rowS b (allS b h) h p).1)), (7, .p (pi (rowS b (allS b h) h p).2.1)), (8, .p (pi (rowS b (allS b h) h p).2.2)), (10, .p (pi p))]) trivial rfl ⟨rfl, by simp, by simp⟩ (by simp [rowS, wkT, look, AV.lo]) ?_
    rintro p ⟨hp, -⟩
    simp only [go_sem, Nat.reduceBEq]
    refine ⟨fun h7 => ?_, fun h7 => ?_⟩
    · have hp2 : p < nR b := by omega
      obtain ⟨hl1, hv1⟩ := hs_get ho hh2 hp2
      have hrn := rowS_next b (allS b h) h p
      have hk1 := known_one ho hh2 hp2
      have hL := List_sem (hsI b h p) 4 (by omega)
      have hls := list_sizes ho hh2 hp2
      obtain ⟨S, hS⟩ : ∃ S, rowS b (allS b h) h p = S := ⟨_, rfl⟩
      rw [hS] at hrn ⊢
      simp only [go_sem, Nat.reduceBEq, ehh, iadr_pis hl1, hv1]
      refine call_pure2 hC (hL) rfl (PVleL_refl _) ?_
      rintro r rfl
      simp only [go_sem, Nat.reduceBEq, List.length_map]
      refine ⟨fun h9 => ?_, fun h9 => ?_⟩
      · rw [decide_eq_true h9] at hk1
        have hf : openB (hsI b h p) = false := by simpa using hk1.symm
        have hrn2 : rowS b (allS b h) h (p + 1) = S := by
          rw [hrn]; unfold stepL; rw [if_neg (by simp only; rw [hf]; decide)]
        simp only [go_sem, wrap_succ (k := p) (by omega)]
        refine ⟨⟨p + 1, hp2, trivial⟩, by simp only; omega, ?_⟩
        simp only [hrn2]
        exact by simp [Wk, wkT, wkL, look, AV.lo, AV.lo.loL, ABlk.toZ]
      · rw [decide_eq_false h9] at hk1
        have hf : openB (hsI b h p) = true := by simpa using hk1.symm
        have hwI : worstI b h p = worstF b h p (sizesL (hsI b h p)) := by unfold worstI; rw [worst_row ho hp2]
        have hrn2 : rowS b (allS b h) h (p + 1) = if S.2.2 < 0 ∨ worstI b h p < S.2.2 then ((h : Int), (p : Int), worstI b h p) else S := by
          rw [hrn]; unfold stepL; rw [if_pos hf]; rfl
        rw [hwI] at hrn2
        rw [hls]
        have hsl : (sizesL (hsI b h p)).length ≤ 4 := Nat.le_trans (List.length_filter_le ..) (by simp)
        refine loop_k (sizesL (hsI b h p)).length (fun _ => True) [1, 6, 7, 8, 9, 10, 11] (fun j => [(12, .p (pi (worstF b h p ((sizesL (hsI b h p)).take j)))), (13, .p (pi j))]) trivial rfl ⟨rfl, by simp, by simp⟩ (by simp [worstF, wkT, look, AV.lo]) ?_
        rintro j ⟨hj, -⟩
        simp only [go_sem, Nat.reduceBEq, Nat.reduceAdd, List.length_map, natL_len']
        refine ⟨fun h11 => ?_, fun h11 => ?_⟩
        · have hj2 : j < (sizesL (hsI b h p)).length := by omega
          obtain ⟨s, hse⟩ : ∃ s, (sizesL (hsI b h p))[j] = s := ⟨_, rfl⟩
          obtain ⟨hs4, hsx⟩ := mem_sizes.1 (List.getElem_mem hj2)
          rw [hse] at hs4 hsx
          have hnl : j < (natL (sizesL (hsI b h p))).length := by rw [natL_len']; exact hj2
          have hnv : (natL (sizesL (hsI b h p)))[j] = (s : Int) := by simp [natL, hse]
          have hwn : worstF b h p ((sizesL (hsI b h p)).take (j + 1)) = maxI true (worstF b h p ((sizesL (hsI b h p)).take j)) (clashI (knowB b h p s)) := by
            unfold worstF
            rw [List.take_succ_eq_append_getElem hj2, List.foldl_append, hse]
            rfl
          simp only [go_sem, Nat.reduceBEq, iadr_pis hnl, hnv]
          refine call_pure2 hC (rKnown_sem k ho hh2 hp2 hs4) rfl (PVleL_refl _) ?_
          rintro r rfl
          simp only [go_sem, Nat.reduceBEq]
          refine call_pure2 hC (many_sem .sh (knowB_ok ho h p hs4) 0) rfl (PVleL_refl _) ?_
          rintro r rfl
          simp only [go_sem, Nat.reduceBEq, totM_clash (knowB_ok ho h p hs4), wrap_succ (k := j) (by omega)]
          refine ⟨⟨j + 1, hj2, trivial⟩, by simp only; omega, ?_⟩
          simp only [hwn]
          exact by simp [Wk, wkT, wkL, look, AV.lo, AV.lo.loL, ABlk.toZ]
        · have hjn : j = (sizesL (hsI b h p)).length := by omega
          subst hjn
          rw [List.take_length]
          simp only [go_sem, wrap_succ (k := p) (by omega)]
          refine ⟨fun c2 => ⟨fun c3 => ?_, fun c3 => ?_⟩, fun c2 => ?_⟩
          · rw [if_pos (.inr c3)] at hrn2
            refine ⟨⟨p + 1, hp2, trivial⟩, by simp only; omega, ?_⟩
            simp only [hrn2]
            exact by simp [Wk, wkT, wkL, look, AV.lo, AV.lo.loL, ABlk.toZ]
          · rw [if_neg (by omega)] at hrn2
            refine ⟨⟨p + 1, hp2, trivial⟩, by simp only; omega, ?_⟩
            simp only [hrn2]
            exact by simp [Wk, wkT, wkL, look, AV.lo, AV.lo.loL, ABlk.toZ]
          · rw [if_pos (.inl c2)] at hrn2
            refine ⟨⟨p + 1, hp2, trivial⟩, by simp only; omega, ?_⟩
            simp only [hrn2]
            exact by simp [Wk, wkT, wkL, look, AV.lo, AV.lo.loL, ABlk.toZ]
    · have hpn : p = nR b := by omega
      subst hpn
      simp only [go_sem, wrap_succ (k := h) (by omega)]
      refine ⟨⟨h + 1, hh2, trivial⟩, by simp only; omega, ?_⟩
      simp only [hnx]
      exact by simp [Wk, wkT, wkL, look, AV.lo, AV.lo.loL, ABlk.toZ]
  · have hhn : h = b.horses.length := by omega
    subst hhn
    cases hk : knownB b
    · rw [hk, if_neg (by decide)] at hend
      rw [hend]
      have hw := worst_nn2 b (lookI b).1 (lookI b).2
      simp only [go_sem]
      refine ⟨fun h => absurd h (by omega), fun _ => ?_⟩
      exact retQ_three rfl rfl rfl rfl
    · rw [hk, if_pos rfl] at hend
      rw [hend]
      simp only [go_sem, decide_true, not_true_eq_false, false_implies, true_implies, Int.reduceLT, Int.reduceNeg]
      exact retQ_three rfl rfl rfl rfl
end Go.Proofs.Ythibnlfbdbidjaa
namespace Go.Proofs.Ythibnlfbdbidjaa
open Go.RowKit
def ac31 : AC := (AC.seq (AC.ops [(AOp.mk (some 1) (AK.box 2 (AX.t 0)) none 0 false true), (AOp.mk (some 2) (AK.mv (AX.c (PV.val (Value.int IntKind.i64 0)))) none 1 false true), (AOp.mk (some 3) (AK.mv (AX.c (PV.val (Value.int IntKind.i64 0)))) none 2 false true), (AOp.mk (some 4) (AK.mv (AX.c (PV.val (Value.int IntKind.i64 0)))) none 3 false true)]) (AC.seq (AC.ops [(AOp.mk (some 5) (AK.ld (some 2) (AX.t 1)) none 0 false true), (AOp.mk (some 6) (AK.call 84 [(AX.t 5), (AX.c (PV.val (Value.int IntKind.i64 1)))]) none 1 false true), (AOp.mk (some 7) (AK.ext (AX.t 6) 0) none 2 false true), (AOp.mk (some 8) (AK.ext (AX.t 6) 1) none 3 false true), (AOp.mk (some 9) (AK.ext (AX.t 6) 2) none 4 false true), (AOp.mk (some 2) (AK.mv (AX.t 7)) none 5 false true), (AOp.mk (some 3) (AK.mv (AX.t 8)) none 6 false true), (AOp.mk (some 4) (AK.mv (AX.t 9)) none 7 false true)]) AC.ret))
theorem ac31_ok : cCode Try.prog (fun _ => false) Try.f31.ntmps (Try.f31.body.getD .skip) = some ac31 := by kernel_rfl
def ac33 : AC := (AC.seq (AC.ops [(AOp.mk (some 1) (AK.box 2 (AX.t 0)) none 0 false true), (AOp.mk (some 2) (AK.mv (AX.c (PV.val (Value.int IntKind.i64 0)))) none 1 false true), (AOp.mk (some 3) (AK.mv (AX.c (PV.val (Value.int IntKind.i64 0)))) none 2 false true), (AOp.mk (some 4) (AK.mv (AX.c (PV.val (Value.int IntKind.i64 0)))) none 3 false true)]) (AC.seq (AC.ops [(AOp.mk (some 5) (AK.ld (some 2) (AX.t 1)) none 0 false true), (AOp.mk (some 6) (AK.call 84 [(AX.t 5), (AX.c (PV.val (Value.int IntKind.i64 2)))]) none 1 false true), (AOp.mk (some 7) (AK.ext (AX.t 6) 0) none 2 false true), (AOp.mk (some 8) (AK.ext (AX.t 6) 1) none 3 false true), (AOp.mk (some 9) (AK.ext (AX.t 6) 2) none 4 false true), (AOp.mk (some 2) (AK.mv (AX.t 7)) none 5 false true), (AOp.mk (some 3) (AK.mv (AX.t 8)) none 6 false true), (AOp.mk (some 4) (AK.mv (AX.t 9)) none 7 false true)]) AC.ret))
theorem ac33_ok : cCode Try.prog (fun _ => false) Try.f33.ntmps (Try.f33.body.getD .skip) = some ac33 := by kernel_rfl
def ac5 : AC := (AC.seq (AC.ops [(AOp.mk (some 1) (AK.box 2 (AX.t 0)) none 0 false true), (AOp.mk (some 2) (AK.mv (AX.c (PV.val (Value.bool false)))) none 1 false true)]) (AC.seq (AC.ops [(AOp.mk (some 12) (AK.ld (some 2) (AX.t 1)) none 0 false true), (AOp.mk (some 13) (AK.call 30 [(AX.t 12)]) none 1 false true), (AOp.mk (some 11) (AK.mv (AX.t 13)) none 2 false true), (AOp.mk (some 14) (AK.ext (AX.t 11) 0) none 3 false true), (AOp.mk (some 15) (AK.ext (AX.t 11) 1) none 4 false true), (AOp.mk (some 16) (AK.ext (AX.t 11) 2) none 5 false true), (AOp.mk (some 3) (AK.mv (AX.t 14)) none 6 false true), (AOp.mk (some 4) (AK.mv (AX.t 15)) none 7 false true), (AOp.mk (some 5) (AK.mv (AX.t 16)) none 8 false true)]) (AC.seq (AC.ops [(AOp.mk (some 18) (AK.ld (some 2) (AX.t 1)) none 0 false true), (AOp.mk (some 19) (AK.call 31 [(AX.t 18)]) none 1 false true), (AOp.mk (some 17) (AK.mv (AX.t 19)) none 2 false true), (AOp.mk (some 20) (AK.ext (AX.t 17) 0) none 3 false true), (AOp.mk (some 21) (AK.ext (AX.t 17) 1) none 4 false true), (AOp.mk (some 22) (AK.ext (AX.t 17) 2) none 5 false true), (AOp.mk (some 6) (AK.mv (AX.t 20)) none 6 false true), (AOp.mk (some 7) (AK.mv (AX.t 21)) none 7 false true), (AOp.mk (some 8) (AK.mv (AX.t 22)) none 8 false true)]) (AC.seq (AC.seq (AC.ops [(AOp.mk (some 23) (AK.mv (AX.t 3)) none 0 false true), (AOp.mk (some 24) (AK.mv (AX.t 6)) none 1 false true), (AOp.mk (some 25) (AK.bin false BinOp.neq (AX.t 23) (AX.t 24)) none 2 false true), (AOp.mk (some 26) (AK.mv (AX.t 25)) none 3 false true), (AOp.mk (some 27) (AK.mv (AX.t 4)) (some (26, false)) 4 false true), (AOp.mk (some 28) (AK.mv (AX.t 7)) (some (26, false)) 5 false true), (AOp.mk (some 29) (AK.bin false BinOp.neq (AX.t 27) (AX.t 28)) (some (26, false)) 6 false true), (AOp.mk (some 30) (AK.pick (AX.t 26) (AX.c (PV.val (Value.bool true))) (AX.t 29)) none 7 false true), (AOp.mk (some 31) (AK.mv (AX.t 30)) none 8 false true), (AOp.mk (some 32) (AK.mv (AX.t 5)) (some (31, false)) 9 false true), (AOp.mk (some 33) (AK.mv (AX.t 8)) (some (31, false)) 10 false true), (AOp.mk (some 34) (AK.bin false BinOp.neq (AX.t 32) (AX.t 33)) (some (31, false)) 11 false true), (AOp.mk (some 35) (AK.pick (AX.t 31) (AX.c (PV.val (Value.bool true))) (AX.t 34)) none 12 false true)]) (AC.cond (AX.t 35) (AC.seq (AC.ops [(AOp.mk (some 2) (AK.mv (AX.c (PV.val (Value.bool false)))) none 0 false true)]) AC.ret) AC.skip)) (AC.seq (AC.ops [(AOp.mk (some 37) (AK.ld (some 2) (AX.t 1)) none 0 false true), (AOp.mk (some 38) (AK.call 32 [(AX.t 37)]) none 1 false true), (AOp.mk (some 36) (AK.mv (AX.t 38)) none 2 false true), (AOp.mk (some 39) (AK.ext (AX.t 36) 0) none 3 false true), (AOp.mk (some 40) (AK.ext (AX.t 36) 1) none 4 false true), (AOp.mk (some 41) (AK.ext (AX.t 36) 2) none 5 false true), (AOp.mk (some 3) (AK.mv (AX.t 39)) none 6 false true), (AOp.mk (some 4) (AK.mv (AX.t 40)) none 7 false true), (AOp.mk (some 5) (AK.mv (AX.t 41)) none 8 false true)]) (AC.seq (AC.ops [(AOp.mk (some 43) (AK.ld (some 2) (AX.t 1)) none 0 false true), (AOp.mk (some 44) (AK.call 33 [(AX.t 43)]) none 1 false true), (AOp.mk (some 42) (AK.mv (AX.t 44)) none 2 false true), (AOp.mk (some 45) (AK.ext (AX.t 42) 0) none 3 false true), (AOp.mk (some 46) (AK.ext (AX.t 42) 1) none 4 false true), (AOp.mk (some 47) (AK.ext (AX.t 42) 2) none 5 false true), (AOp.mk (some 6) (AK.mv (AX.t 45)) none 6 false true), (AOp.mk (some 7) (AK.mv (AX.t 46)) none 7 false true), (AOp.mk (some 8) (AK.mv (AX.t 47)) none 8 false true)]) (AC.seq (AC.seq (AC.ops [(AOp.mk (some 48) (AK.mv (AX.t 3)) none 0 false true), (AOp.mk (some 49) (AK.mv (AX.t 6)) none 1 false true), (AOp.mk (some 50) (AK.bin false BinOp.neq (AX.t 48) (AX.t 49)) none 2 false true), (AOp.mk (some 51) (AK.mv (AX.t 50)) none 3 false true), (AOp.mk (some 52) (AK.mv (AX.t 4)) (some (51, false)) 4 false true), (AOp.mk (some 53) (AK.mv (AX.t 7)) (some (51, false)) 5 false true), (AOp.mk (some 54) (AK.bin false BinOp.neq (AX.t 52) (AX.t 53)) (some (51, false)) 6 false true), (AOp.mk (some 55) (AK.pick (AX.t 51) (AX.c (PV.val (Value.bool true))) (AX.t 54)) none 7 false true), (AOp.mk (some 56) (AK.mv (AX.t 55)) none 8 false true), (AOp.mk (some 57) (AK.mv (AX.t 5)) (some (56, false)) 9 false true), (AOp.mk (some 58) (AK.mv (AX.t 8)) (some (56, false)) 10 false true), (AOp.mk (some 59) (AK.bin false BinOp.neq (AX.t 57) (AX.t 58)) (some (56, false)) 11 false true), (AOp.mk (some 60) (AK.pick (AX.t 56) (AX.c (PV.val (Value.bool true))) (AX.t 59)) none 12 false true)]) (AC.cond (AX.t 60) (AC.seq (AC.ops [(AOp.mk (some 2) (AK.mv (AX.c (PV.val (Value.bool false)))) none 0 false true)]) AC.ret) AC.skip)) (AC.seq (AC.ops [(AOp.mk (some 62) (AK.ld (some 2) (AX.t 1)) none 0 false true), (AOp.mk (some 63) (AK.call 34 [(AX.t 62)]) none 1 false true), (AOp.mk (some 61) (AK.mv (AX.t 63)) none 2 false true), (AOp.mk (some 64) (AK.ext (AX.t 61) 0) none 3 false true), (AOp.mk (some 65) (AK.ext (AX.t 61) 1) none 4 false true), (AOp.mk (some 9) (AK.mv (AX.t 64)) none 5 false true), (AOp.mk (some 5) (AK.mv (AX.t 65)) none 6 false true)]) (AC.seq (AC.ops [(AOp.mk (some 67) (AK.ld (some 2) (AX.t 1)) none 0 false true), (AOp.mk (some 68) (AK.call 35 [(AX.t 67)]) none 1 false true), (AOp.mk (some 66) (AK.mv (AX.t 68)) none 2 false true), (AOp.mk (some 69) (AK.ext (AX.t 66) 0) none 3 false true), (AOp.mk (some 70) (AK.ext (AX.t 66) 1) none 4 false true), (AOp.mk (some 10) (AK.mv (AX.t 69)) none 5 false true), (AOp.mk (some 8) (AK.mv (AX.t 70)) none 6 false true)]) (AC.seq (AC.seq (AC.ops [(AOp.mk (some 71) (AK.mv (AX.t 9)) none 0 false true), (AOp.mk (some 72) (AK.mv (AX.t 10)) none 1 false true), (AOp.mk (some 73) (AK.call 20 [(AX.t 71), (AX.t 72)]) none 2 false true), (AOp.mk (some 74) (AK.un UnOp.not (AX.t 73)) none 3 false true), (AOp.mk (some 75) (AK.mv (AX.t 74)) none 4 false true), (AOp.mk (some 76) (AK.mv (AX.t 5)) (some (75, false)) 5 false true), (AOp.mk (some 77) (AK.mv (AX.t 8)) (some (75, false)) 6 false true), (AOp.mk (some 78) (AK.bin false BinOp.neq (AX.t 76) (AX.t 77)) (some (75, false)) 7 false true), (AOp.mk (some 79) (AK.pick (AX.t 75) (AX.c (PV.val (Value.bool true))) (AX.t 78)) none 8 false true)]) (AC.cond (AX.t 79) (AC.seq (AC.ops [(AOp.mk (some 2) (AK.mv (AX.c (PV.val (Value.bool false)))) none 0 false true)]) AC.ret) AC.skip)) (AC.seq (AC.ops [(AOp.mk (some 81) (AK.ld (some 2) (AX.t 1)) none 0 false true), (AOp.mk (some 82) (AK.call 36 [(AX.t 81)]) none 1 false true), (AOp.mk (some 80) (AK.mv (AX.t 82)) none 2 false true), (AOp.mk (some 83) (AK.ext (AX.t 80) 0) none 3 false true), (AOp.mk (some 84) (AK.ext (AX.t 80) 1) none 4 false true), (AOp.mk (some 85) (AK.ext (AX.t 80) 2) none 5 false true), (AOp.mk (some 3) (AK.mv (AX.t 83)) none 6 false true), (AOp.mk (some 4) (AK.mv (AX.t 84)) none 7 false true), (AOp.mk (some 5) (AK.mv (AX.t 85)) none 8 false true)]) (AC.seq (AC.ops [(AOp.mk (some 87) (AK.ld (some 2) (AX.t 1)) none 0 false true), (AOp.mk (some 88) (AK.call 37 [(AX.t 87)]) none 1 false true), (AOp.mk (some 86) (AK.mv (AX.t 88)) none 2 false true), (AOp.mk (some 89) (AK.ext (AX.t 86) 0) none 3 false true), (AOp.mk (some 90) (AK.ext (AX.t 86) 1) none 4 false true), (AOp.mk (some 91) (AK.ext (AX.t 86) 2) none 5 false true), (AOp.mk (some 6) (AK.mv (AX.t 89)) none 6 false true), (AOp.mk (some 7) (AK.mv (AX.t 90)) none 7 false true), (AOp.mk (some 8) (AK.mv (AX.t 91)) none 8 false true)]) (AC.seq (AC.ops [(AOp.mk (some 92) (AK.mv (AX.t 3)) none 0 false true), (AOp.mk (some 93) (AK.mv (AX.t 6)) none 1 false true), (AOp.mk (some 94) (AK.bin false BinOp.eql (AX.t 92) (AX.t 93)) none 2 false true), (AOp.mk (some 95) (AK.mv (AX.t 94)) none 3 false true), (AOp.mk (some 96) (AK.mv (AX.t 4)) (some (95, true)) 4 false true), (AOp.mk (some 97) (AK.mv (AX.t 7)) (some (95, true)) 5 false true), (AOp.mk (some 98) (AK.bin false BinOp.eql (AX.t 96) (AX.t 97)) (some (95, true)) 6 false true), (AOp.mk (some 99) (AK.pick (AX.t 95) (AX.t 98) (AX.c (PV.val (Value.bool false)))) none 7 false true), (AOp.mk (some 100) (AK.mv (AX.t 99)) none 8 false true), (AOp.mk (some 101) (AK.mv (AX.t 5)) (some (100, true)) 9 false true), (AOp.mk (some 102) (AK.mv (AX.t 8)) (some (100, true)) 10 false true), (AOp.mk (some 103) (AK.bin false BinOp.eql (AX.t 101) (AX.t 102)) (some (100, true)) 11 false true), (AOp.mk (some 104) (AK.pick (AX.t 100) (AX.t 103) (AX.c (PV.val (Value.bool false)))) none 12 false true), (AOp.mk (some 105) (AK.mv (AX.t 104)) none 13 false true), (AOp.mk (some 106) (AK.call 25 []) (some (105, true)) 14 false true), (AOp.mk (some 107) (AK.pick (AX.t 105) (AX.t 106) (AX.c (PV.val (Value.bool false)))) none 15 false true), (AOp.mk (some 2) (AK.mv (AX.t 107)) none 16 false true)]) AC.ret)))))))))))))
theorem ac5_ok : cCode Try.prog (fun _ => false) Try.f5.ntmps (Try.f5.body.getD .skip) = some ac5 := by kernel_rfl
theorem twoE_shape (b : DBook) (P : Nat → Nat → Bool) : ∃ x y e, twoE b ((listsL b.horses.length 2).find? (pairP P)) = .tup [pi x, pi y, pi e] := by
  unfold twoE
  split
  · unfold twoP
    split
    · exact ⟨_, _, _, rfl⟩
    · exact ⟨_, _, _, rfl⟩
  · exact ⟨_, _, _, rfl⟩
theorem least_one (b : DBook) : twoE b ((listsL b.horses.length 2).find? (pairP (leastP b 1))) = twoE b ((listsL b.horses.length 2).find? (pairP fun i j => decide (sameI b i j ≠ 0))) := by
  by_cases ho : okBook b
  · have e : leastP b 1 = fun i j => decide (sameI b i j ≠ 0) := by
      funext i j
      have := same_range ho i j
      exact decide_eq_decide.2 (by omega)
    rw [e]
  · unfold twoE
    rw [if_neg ho, if_neg ho]
theorem least_two (b : DBook) : twoE b ((listsL b.horses.length 2).find? (pairP (leastP b 2))) = twoE b ((listsL b.horses.length 2).find? (pairP fun i j => decide (sameI b i j = 2))) := by
  by_cases ho : okBook b
  · have e : leastP b 2 = fun i j => decide (sameI b i j = 2) := by
      funext i j
      have := same_range ho i j
      exact decide_eq_decide.2 (by omega)
    rw [e]
  · unfold twoE
    rw [if_neg ho, if_neg ho]
theorem rClash_sem (k : SK) (b : DBook) : Sem1 31 [.agg (bookC k b)] (twoE b ((listsL b.horses.length 2).find? (pairP fun i j => decide (sameI b i j ≠ 0)))) := by
  have hf := rfirst_sem k b 1
  rw [least_one] at hf
  obtain ⟨x, y, e, h⟩ := twoE_shape b fun i j => decide (sameI b i j ≠ 0)
  rw [h] at hf ⊢
  refine semC_of_exec' mixed Try.func31 (by kernel_rfl) (by kernel_rfl) ac31_ok 1 rfl (by decide) [(.tmp 2), (.tmp 3), (.tmp 4)] (by kernel_rfl) ?_
  intro hr C hC hI
  unfold ac31
  simp only [go_sem, Nat.reduceBEq, Nat.reduceAdd]
  refine call_pure2 hC (hf) rfl (PVleL_refl _) ?_
  rintro r rfl
  simp only [go_sem, Nat.reduceBEq]
  exact retQ_three rfl rfl rfl rfl
theorem rSure_sem (k : SK) (b : DBook) : Sem1 33 [.agg (bookC k b)] (twoE b ((listsL b.horses.length 2).find? (pairP fun i j => decide (sameI b i j = 2)))) := by
  have hf := rfirst_sem k b 2
  rw [least_two] at hf
  obtain ⟨x, y, e, h⟩ := twoE_shape b fun i j => decide (sameI b i j = 2)
  rw [h] at hf ⊢
  refine semC_of_exec' mixed Try.func33 (by kernel_rfl) (by kernel_rfl) ac33_ok 1 rfl (by decide) [(.tmp 2), (.tmp 3), (.tmp 4)] (by kernel_rfl) ?_
  intro hr C hC hI
  unfold ac33
  simp only [go_sem, Nat.reduceBEq, Nat.reduceAdd]
  refine call_pure2 hC (hf) rfl (PVleL_refl _) ?_
  rintro r rfl
  simp only [go_sem, Nat.reduceBEq]
  exact retQ_three rfl rfl rfl rfl
set_option maxRecDepth 100000 in
theorem Firsts_law (k : SK) (b : DBook) : Sem1 5 [.agg (bookC k b)] (pb true) := by
  have c1 := Clash_sem k b
  have r1 := rClash_sem k b
  have c2 := Sure_sem k b
  have r2 := rSure_sem k b
  have c3 := Drop_sem k b
  have r3 := rDrop_sem k b
  have c4 := Look_sem k b
  have r4 := rLook_sem k b
  obtain ⟨x1, y1, e1, h1⟩ := twoE_shape b fun i j => decide (sameI b i j ≠ 0)
  obtain ⟨x2, y2, e2, h2⟩ := twoE_shape b fun i j => decide (sameI b i j = 2)
  obtain ⟨l, e3, h3⟩ : ∃ l e, (if okBook b then PV.tup [pis (dropI b), pi 0] else .tup [pis [], pi 70]) = .tup [pis l, pi e] := by
    split
    · exact ⟨_, _, rfl⟩
    · exact ⟨_, _, rfl⟩
  obtain ⟨x4, y4, e4, h4⟩ : ∃ x y e, lookR b = .tup [pi x, pi y, pi e] := by
    unfold lookR
    split
    · split
      · exact ⟨_, _, _, rfl⟩
      · exact ⟨_, _, _, rfl⟩
    · exact ⟨_, _, _, rfl⟩
  rw [h1] at c1 r1
  rw [h2] at c2 r2
  rw [h3] at c3 r3
  rw [h4] at c4 r4
  refine semC_of_exec' mixed Try.func5 (by kernel_rfl) (by kernel_rfl) ac5_ok 1 rfl (by decide) [(.tmp 2)] (by kernel_rfl) ?_
  intro hr C hC hI
  unfold ac5
  simp only [go_sem, Nat.reduceBEq, Nat.reduceAdd]
  refine call_pure2 hC (c1) rfl (PVleL_refl _) ?_
  rintro r rfl
  simp only [go_sem, Nat.reduceBEq, Nat.reduceAdd]
  refine call_pure2 hC (r1) rfl (PVleL_refl _) ?_
  rintro r rfl
  simp only [go_sem, Nat.reduceBEq, Nat.reduceAdd, not_true_eq_false, decide_false, decide_false, not_true_eq_false]
  refine call_pure2 hC (c2) rfl (PVleL_refl _) ?_
  rintro r rfl
  simp only [go_sem, Nat.reduceBEq, Nat.reduceAdd]
  refine call_pure2 hC (r2) rfl (PVleL_refl _) ?_
  rintro r rfl
  simp only [go_sem, Nat.reduceBEq, Nat.reduceAdd, not_true_eq_false, decide_false, decide_false, not_true_eq_false]
  refine call_pure2 hC (c3) rfl (PVleL_refl _) ?_
  rintro r rfl
  simp only [go_sem, Nat.reduceBEq, Nat.reduceAdd]
  refine call_pure2 hC (r3) rfl (PVleL_refl _) ?_
  rintro r rfl
  simp only [go_sem, Nat.reduceBEq]
  refine call_pure2 hC (Equal_sem l l) rfl (PVleL_refl _) ?_
  rintro r rfl
  simp only [go_sem, Nat.reduceBEq, Nat.reduceAdd, not_true_eq_false, decide_false, decide_true, decide_false, not_true_eq_false]
  refine call_pure2 hC (c4) rfl (PVleL_refl _) ?_
  rintro r rfl
  simp only [go_sem, Nat.reduceBEq, Nat.reduceAdd]
  refine call_pure2 hC (r4) rfl (PVleL_refl _) ?_
  rintro r rfl
  simp only [go_sem, Nat.reduceBEq, decide_true]
  refine call_pure2 hC (pressed_sem) rfl (PVleL_refl _) ?_
  rintro r rfl
  simp only [go_sem, Nat.reduceBEq]
  exact retQ_one rfl rfl
set_option maxRecDepth 100000 in
theorem Firsts_row {l0 : List PV} (T0 : Ty Try.prog 10 24 l0) : SemC Try.prog 5 [argPV Try.prog 24 l0] (fun r => r = pb true) := by
  obtain ⟨b, rfl⟩ := ty_book T0
  rw [argStruct Try.underlying24]
  exact Firsts_law .sh b
end Go.Proofs.Ythibnlfbdbidjaa
namespace Go.Proofs.Ythibnlfbdbidjaa
open Go.Proofs.Ythibnlfbdbidjaa Go.ChangeShapes Go.WideShapes Go.ChangeAt Go.RowKit Go.Deep

set_option maxRecDepth 100000 in
theorem dappleFirsts_lifted (os : Os) (started : os.Started) (H : Type) (enc : TypeId × Value → H) :
    ReturnsInHanded {} Try.checked os 5 .any (Rows.dappleFirstsSpec.pre6 enc Try.prog Try.f5 Rows.dappleFirstsRow.domain false) (Rows.dappleFirstsSpec.post enc Try.prog Try.f5 false true false false) := by
  refine returnsInHanded_of_change_sized (C := Try.checked) ownKnobs started (by kernel_rfl) Try.func5
    (ChangeSpec.witness6 (enc := enc) (C := Try.checked) false ⟨#[], #[.agg #[.int .i64 0, .slice none 0 0]], []⟩ 8 (by kernel_rfl) (by kernel_rfl) (by kernel_rfl) (by kernel_rfl)) ?_
  intro W base args ds gs before hval0 hW hcnd hsz0 _
  have hval : ∀ (j : Nat) t v, Try.f5.params[j]? = some t → args[j]? = some v → Value.okWide Try.prog W .any base t v := hval0
  have hsz : (DataW.weightsEach Try.prog (Try.f5.params.toList ++ Rows.dappleFirstsSpec.plain.varTypes Try.prog) (ds ++ gs)).all (· ≤ reachBytes) = true := hsz0
  have hW' := hW
  obtain ⟨p, q, hA0, hV, rfl, hfz, hnd⟩ := hW
  have hA : DataW.TrodAll enc Try.prog W 0 (fun _ => true) true Try.f5.params.toList args.toList ds p := hA0
  rw [Try.params5] at hA hval hsz
  obtain ⟨v0, vs0, d0, ds0, p0, q0, hargs, rfl, rfl, h0, r0⟩ := trodAll_cons hA
  obtain ⟨rfl, rfl, rfl⟩ := trodAll_nil r0
  obtain rfl : args = #[v0] := by cases args; simp_all
  obtain ⟨rfl, rfl⟩ := trodVars_none hV
  have lt0 : ∀ x ∈ p0, x.block < W.heap.size := by obtain ⟨m, hm⟩ := h0; exact DataW.trod_lt m _ _ _ hm
  have z0 : SizedP Try.prog 24 d0 := sizedP_each hsz (j := 0) rfl rfl
  obtain ⟨l0, T0, R0⟩ := rd_arg 10 (by kernel_rfl) (hval 0 24 v0 rfl rfl) h0 z0
  clear hA0 hval0 hsz0
  refine (law_calls (Firsts_row T0) (argsP_cons R0 argsP_nil)).mono fun e W' ⟨he, bel⟩ => ?_
  subst he
  exact ⟨_, rfl, _, _, _, [], _, [], hW', trodAll_mk1 (shut_bool Try.underlying4 _), (trodAll_cons_mk (Below.trod laidOut (by kernel_rfl) (of_decide_eq_true (by kernel_rfl)) h0 bel lt0) trodAll_mk0), rfl, bel.frame _, fun h => by cases h⟩

theorem dappleFirsts_holds : Rows.DappleFirstsSaid :=
  OpenClaim.holds_of_wide 5 Try.f5 rfl rfl rfl rfl rfl rfl rfl ⟨rfl, rfl, rfl, rfl, rfl⟩ rfl rfl rfl rfl rfl (by kernel_rfl) Try.func5 (by kernel_rfl)
    (of_decide_eq_true (by kernel_rfl)) (by unfold Func.isWrapper; first | (rw [if_pos (by decide +kernel)]; kernel_rfl) | (rw [if_neg (by decide +kernel)]; exact ⟨rfl, rfl⟩))
    (fun os started H enc _ => dappleFirsts_lifted os started H enc)
end Go.Proofs.Ythibnlfbdbidjaa
