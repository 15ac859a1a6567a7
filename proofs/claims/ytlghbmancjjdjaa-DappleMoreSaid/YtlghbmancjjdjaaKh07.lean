/- Contracts of dapple's statements: any row; what is told of all pairs. Contracts of dapple's statements: what is told of all pairs. Contracts of dapple's statements: a book in which the size of a dapple is known. Law: DappleNew. -/
import Derived.Test.YtlghbmancjjdjaaKh06
import Derived.Test.YtlghbmancjjdjaaKh05
namespace Go.Proofs.Ytlghbmancjjdjaa
open Go.RowKit
def ac49 : AC := (AC.seq (AC.ops [(AOp.mk (some 4) (AK.mv (AX.c (PV.sl SK.full 0 []))) none 0 false true)]) (AC.seq (AC.ops [(AOp.mk (some 7) (AK.bslice false 3 1 0 [(PV.val (Value.int IntKind.i64 0))] []) none 0 false true), (AOp.mk (some 5) (AK.mv (AX.t 7)) none 1 false true)]) (AC.seq (AC.seq (AC.ops [(AOp.mk (some 6) (AK.mv (AX.c (PV.val (Value.int IntKind.i64 0)))) none 0 false true)]) (AC.block 0 (AC.loop (AC.seq (AC.seq (AC.ops [(AOp.mk (some 8) (AK.mv (AX.t 6)) none 0 false true), (AOp.mk (some 9) (AK.mv (AX.t 0)) none 1 false true), (AOp.mk (some 10) (AK.bin false BinOp.lss (AX.t 8) (AX.t 9)) none 2 false true)]) (AC.cond (AX.t 10) AC.skip (AC.exit 0))) (AC.seq (AC.block 1 (AC.ops [(AOp.mk (some 13) (AK.mv (AX.t 5)) none 0 false true), (AOp.mk (some 14) (AK.mv (AX.t 1)) none 1 false true), (AOp.mk (some 15) (AK.mv (AX.t 6)) none 2 false true), (AOp.mk (some 16) (AK.call 56 [(AX.t 14), (AX.t 15)]) none 3 false true), (AOp.mk (some 17) (AK.mv (AX.t 6)) none 4 false true), (AOp.mk (some 18) (AK.mv (AX.t 1)) none 5 false true), (AOp.mk (some 19) (AK.call 56 [(AX.t 18), (AX.c (PV.val (Value.int IntKind.i64 2)))]) none 6 false true), (AOp.mk (some 20) (AK.bin false BinOp.mul (AX.t 17) (AX.t 19)) none 7 false true), (AOp.mk (some 21) (AK.bin false BinOp.add (AX.t 16) (AX.t 20)) none 8 false true), (AOp.mk (some 22) (AK.call 46 [(AX.t 21), (AX.c (PV.val (Value.int IntKind.i64 4)))]) none 9 false true), (AOp.mk (some 23) (AK.bslice false 3 1 1 [(PV.val (Value.int IntKind.i64 0))] [(0, (1, (AX.t 22)))]) none 10 false true), (AOp.mk (some 24) (AK.app false 3 1 8 [(PV.val (Value.int IntKind.i64 0))] (AX.t 13) (AX.t 23)) none 11 false true), (AOp.mk (some 5) (AK.mv (AX.t 24)) none 12 false true)])) (AC.ops [(AOp.mk (some 11) (AK.mv (AX.t 6)) none 0 false true), (AOp.mk (some 12) (AK.bin false BinOp.add (AX.t 11) (AX.c (PV.val (Value.int IntKind.i64 1)))) none 1 false true), (AOp.mk (some 6) (AK.mv (AX.t 12)) none 2 false true)])))))) (AC.seq (AC.ops [(AOp.mk (some 25) (AK.mv (AX.t 5)) none 0 false true), (AOp.mk (some 4) (AK.mv (AX.t 25)) none 1 false true)]) AC.ret))))
theorem ac49_ok : cCode Try.prog (fun _ => false) Try.f49.ntmps (Try.f49.body.getD .skip) = some ac49 := by kernel_rfl
def ac47 : AC := (AC.seq (AC.ops [(AOp.mk (some 1) (AK.box 2 (AX.t 0)) none 0 false true), (AOp.mk (some 2) (AK.mv (AX.c (PV.sl SK.full 0 []))) none 1 false true)]) (AC.seq (AC.ops [(AOp.mk (some 10) (AK.bslice false 26 1 0 [(PV.sl SK.full 0 [])] []) none 0 false true), (AOp.mk (some 3) (AK.mv (AX.t 10)) none 1 false true)]) (AC.seq (AC.seq (AC.ops [(AOp.mk (some 4) (AK.mv (AX.c (PV.val (Value.int IntKind.i64 0)))) none 0 false true)]) (AC.block 0 (AC.loop (AC.seq (AC.seq (AC.ops [(AOp.mk (some 11) (AK.mv (AX.t 4)) none 0 false true), (AOp.mk (some 12) (AK.fadr 1 (AX.t 1)) none 1 false true), (AOp.mk (some 13) (AK.ld none (AX.t 12)) none 2 false true), (AOp.mk (some 14) (AK.len (AX.t 13)) none 3 false true), (AOp.mk (some 15) (AK.bin false BinOp.lss (AX.t 11) (AX.t 14)) none 4 false true)]) (AC.cond (AX.t 15) AC.skip (AC.exit 0))) (AC.seq (AC.block 1 (AC.seq (AC.ops [(AOp.mk (some 18) (AK.bslice false 3 1 0 [(PV.val (Value.int IntKind.i64 0))] []) none 0 false true), (AOp.mk (some 5) (AK.mv (AX.t 18)) none 1 false true)]) (AC.seq (AC.seq (AC.ops [(AOp.mk (some 6) (AK.mv (AX.c (PV.val (Value.int IntKind.i64 0)))) none 0 false true)]) (AC.block 2 (AC.loop (AC.seq (AC.seq (AC.ops [(AOp.mk (some 19) (AK.mv (AX.t 6)) none 0 false true), (AOp.mk (some 20) (AK.fadr 1 (AX.t 1)) none 1 false true), (AOp.mk (some 21) (AK.ld none (AX.t 20)) none 2 false true), (AOp.mk (some 22) (AK.len (AX.t 21)) none 3 false true), (AOp.mk (some 23) (AK.bin false BinOp.lss (AX.t 19) (AX.t 22)) none 4 false true)]) (AC.cond (AX.t 23) AC.skip (AC.exit 2))) (AC.seq (AC.block 3 (AC.seq (AC.ops [(AOp.mk (some 7) (AK.mv (AX.c (PV.val (Value.int IntKind.i64 0)))) none 0 false true)]) (AC.seq (AC.seq (AC.ops [(AOp.mk (some 26) (AK.mv (AX.t 6)) none 0 false true), (AOp.mk (some 27) (AK.mv (AX.t 4)) none 1 false true), (AOp.mk (some 28) (AK.bin false BinOp.neq (AX.t 26) (AX.t 27)) none 2 false true)]) (AC.cond (AX.t 28) (AC.seq (AC.ops [(AOp.mk (some 30) (AK.ld (some 2) (AX.t 1)) none 0 false true), (AOp.mk (some 31) (AK.mv (AX.t 4)) none 1 false true), (AOp.mk (some 32) (AK.mv (AX.t 6)) none 2 false true), (AOp.mk (some 33) (AK.call 23 [(AX.t 30), (AX.t 31), (AX.t 32)]) none 3 false true), (AOp.mk (some 29) (AK.mv (AX.t 33)) none 4 false true), (AOp.mk (some 34) (AK.ext (AX.t 29) 0) none 5 false true), (AOp.mk (some 35) (AK.ext (AX.t 29) 1) none 6 false true), (AOp.mk (some 8) (AK.mv (AX.t 34)) none 7 false true), (AOp.mk (some 9) (AK.mv (AX.t 35)) none 8 false true)]) (AC.seq (AC.seq (AC.ops [(AOp.mk (some 36) (AK.mv (AX.t 9)) none 0 false true), (AOp.mk (some 37) (AK.bin false BinOp.neq (AX.t 36) (AX.c (PV.val (Value.int IntKind.i64 0)))) none 1 false true)]) (AC.cond (AX.t 37) (AC.seq (AC.ops [(AOp.mk (some 2) (AK.mv (AX.c (PV.sl SK.full 0 []))) none 0 false true)]) AC.ret) AC.skip)) (AC.ops [(AOp.mk (some 38) (AK.mv (AX.t 8)) none 0 false true), (AOp.mk (some 7) (AK.mv (AX.t 38)) none 1 false true)]))) AC.skip)) (AC.ops [(AOp.mk (some 39) (AK.mv (AX.t 5)) none 0 false true), (AOp.mk (some 40) (AK.mv (AX.t 7)) none 1 false true), (AOp.mk (some 41) (AK.bslice false 3 1 1 [(PV.val (Value.int IntKind.i64 0))] [(0, (1, (AX.t 40)))]) none 2 false true), (AOp.mk (some 42) (AK.app false 3 1 8 [(PV.val (Value.int IntKind.i64 0))] (AX.t 39) (AX.t 41)) none 3 false true), (AOp.mk (some 5) (AK.mv (AX.t 42)) none 4 false true)])))) (AC.ops [(AOp.mk (some 24) (AK.mv (AX.t 6)) none 0 false true), (AOp.mk (some 25) (AK.bin false BinOp.add (AX.t 24) (AX.c (PV.val (Value.int IntKind.i64 1)))) none 1 false true), (AOp.mk (some 6) (AK.mv (AX.t 25)) none 2 false true)])))))) (AC.ops [(AOp.mk (some 43) (AK.mv (AX.t 3)) none 0 false true), (AOp.mk (some 44) (AK.mv (AX.t 5)) none 1 false true), (AOp.mk (some 45) (AK.bslice false 26 1 1 [(PV.sl SK.full 0 [])] [(0, (1, (AX.t 44)))]) none 2 false true), (AOp.mk (some 46) (AK.app false 26 1 24 [(PV.sl SK.full 0 [])] (AX.t 43) (AX.t 45)) none 3 false true), (AOp.mk (some 3) (AK.mv (AX.t 46)) none 4 false true)])))) (AC.ops [(AOp.mk (some 16) (AK.mv (AX.t 4)) none 0 false true), (AOp.mk (some 17) (AK.bin false BinOp.add (AX.t 16) (AX.c (PV.val (Value.int IntKind.i64 1)))) none 1 false true), (AOp.mk (some 4) (AK.mv (AX.t 17)) none 2 false true)])))))) (AC.seq (AC.ops [(AOp.mk (some 47) (AK.mv (AX.t 3)) none 0 false true), (AOp.mk (some 2) (AK.mv (AX.t 47)) none 1 false true)]) AC.ret))))
theorem ac47_ok : cCode Try.prog (fun _ => false) Try.f47.ntmps (Try.f47.body.getD .skip) = some ac47 := by kernel_rfl
def sizeJ (bits : List Int) (p : Nat) : Int := rndI (IntKind.i64.wrap (takeL bits p + IntKind.i64.wrap ((p : Int) * takeL bits 2))) 4
def sizesJ (r : Nat) (bits : List Int) : List Int := (List.range r).map (sizeJ bits)
theorem sizesJ_len (r : Nat) (bits : List Int) : (sizesJ r bits).length = r := by simp [sizesJ]
theorem sizesJ_ok (r : Nat) (bits : List Int) : ∀ x ∈ sizesJ r bits, 0 ≤ x ∧ x ≤ 3 := by
  intro x hx
  obtain ⟨p, -, rfl⟩ := List.mem_map.1 hx
  have := rndI_range (n := IntKind.i64.wrap (takeL bits p + IntKind.i64.wrap ((p : Int) * takeL bits 2))) (m := 4) (by omega)
  unfold sizeJ
  omega
theorem sizesJ_next (r : Nat) (bits : List Int) : ((sizesJ (r + 1) bits).map fun x => [pi x]) = ((sizesJ r bits).map fun x => [pi x]) ++ [[pi (sizeJ bits r)]] := by
  unfold sizesJ
  rw [List.range_succ, List.map_append, List.map_append]
  rfl
theorem sizes2_sem (r : Nat) (hr8 : r ≤ 1000) (bits : List Int) : Sem1 49 [pi r, pis bits] (pis (sizesJ r bits)) := by
  refine semC_of_exec' mixed Try.func49 (by kernel_rfl) (by kernel_rfl) ac49_ok 2 rfl (by decide) [(.tmp 4)] (by kernel_rfl) ?_
  intro hr C hC hI
  unfold ac49
  simp only [go_sem, Nat.reduceBEq]
  refine loop_g (α := Nat × Option Nat) (fun a => a.1 ≤ r ∧ (a.2 = none → a.1 = 0)) (fun a => r - a.1) [0, 1] (fun a => [(5, .p (slG 3 a.2 ((sizesJ a.1 bits).map fun x => [pi x]))), (6, .p (pi a.1))]) (fun _ => []) (fun a => a.2.toList) (0, none) ⟨by omega, fun _ => rfl⟩ (by simp [Wk, wkT, wkL, look, AV.lo, upS_eq, keepS_nil, keepS_cons, slG]) ?_
  rintro ⟨j, o⟩ ⟨hj, hok⟩
  replace hj : j ≤ r := hj
  replace hok : o = none → j = 0 := hok
  have hnx := sizesJ_next j bits
  have h0 : o = none → ((sizesJ j bits).map fun x => [pi x]) = [] := fun e => by rw [hok e]; rfl
  simp only [go_sem, Nat.reduceBEq]
  refine ⟨fun h5 => ?_, fun h5 => ?_⟩
  · have hj2 : j < r := by omega
    refine call_pure2 hC (Take_sem bits j) rfl (PVleL_refl _) ?_
    rintro r rfl
    simp only [go_sem, Nat.reduceBEq]
    refine call_pure2 hC (Take_sem bits 2) rfl (PVleL_refl _) ?_
    rintro r rfl
    simp only [go_sem, Nat.reduceBEq]
    refine call_pure2 hC (Round_sem ..) rfl (PVleL_refl _) ?_
    rintro r rfl
    simp only [go_sem, Nat.reduceBEq]
    refine app_slG h0 (by rw [List.length_map, sizesJ_len]; omega) (by simp) fun tk htk => ?_
    simp only [go_sem, Nat.reduceBEq, wrap_succ (k := j) (by omega)]
    refine ⟨⟨(j + 1, some tk), hj2, (fun h => by cases h)⟩, by simp only; omega, ?_⟩
    simp only [hnx]
    refine ⟨by simp [wkT, look, AV.lo, sizeJ], trivial, by simp, by simp, rfl, rfl, by simp⟩
  · have hjn : j = r := by omega
    subst hjn
    exact retQ_slG h0 rfl rfl
def kindJ (b : DBook) (i q : Nat) : Int := if q = i then 0 else sameI b i q
def kindR (b : DBook) (i j : Nat) : List Int := (List.range j).map (kindJ b i)
def kindsL (b : DBook) (i : Nat) : List (List Int) := (List.range i).map fun x => kindR b x b.horses.length
theorem kindR_next (b : DBook) (i j : Nat) : ((kindR b i (j + 1)).map fun x => [pi x]) = ((kindR b i j).map fun x => [pi x]) ++ [[pi (kindJ b i j)]] := by
  unfold kindR
  rw [List.range_succ, List.map_append, List.map_append]
  rfl
theorem kindsL_next (b : DBook) (i : Nat) : kindsL b (i + 1) = kindsL b i ++ [kindR b i b.horses.length] := by
  unfold kindsL
  rw [List.range_succ, List.map_append]
  rfl
def rowsG (e : TypeId) (os : List (Option Nat)) (rows : List (List Int)) : List (List PV) := List.zipWith (fun o r => [slG e o (r.map fun x => [pi x])]) os rows
theorem kindR_len (b : DBook) (i j : Nat) : (kindR b i j).length = j := by simp [kindR]
theorem kindsL_len (b : DBook) (i : Nat) : (kindsL b i).length = i := by simp [kindsL]
theorem kindsL_end {b : DBook} {i : Nat} : kindsL b i = (List.range i).map fun x => kindR b x b.horses.length := rfl
end Go.Proofs.Ytlghbmancjjdjaa
namespace Go.Proofs.Ytlghbmancjjdjaa
open Go.RowKit
theorem live_d {o o2 : Option Nat} {t : Nat} (h : (o.toList ++ o2.toList).Nodup) : ∀ x ∈ o.toList ++ (some t).toList, x ∈ t :: dropT o2 (o.toList ++ o2.toList) := by
  cases o2 with
  | none => exact live_a
  | some t2 => exact live_b h
theorem nodup_d {o o2 : Option Nat} {t : Nat} (ht : ¬ t ∈ o.toList ++ o2.toList) : (o.toList ++ (some t).toList).Nodup := by
  cases o with
  | none => simp
  | some x => simp at ht ⊢; exact fun e => ht.1 e.symm
theorem rowsO_add2 {e : TypeId} {ts : List Nat} {rows : List (List Int)} (h : ts.length = rows.length) (t : Nat) (r : List Int) : rowsO e (ts ++ [t]) (rows ++ [r]) = rowsO e ts rows ++ [[slG e (some t) (r.map fun x => [pi x])]] := rowsO_add h t r
set_option maxRecDepth 100000 in
theorem kinds_sem (k : SK) {b : DBook} (ho : okBook b) : Sem1 47 [.agg (bookC k b)] (.sl .sh 1 (rowsC (kindsL b b.horses.length))) := by
  obtain ⟨h1, h8, hn⟩ := okR ho
  have h6 := ho.2.1
  refine semC_of_exec' mixed Try.func47 (by kernel_rfl) (by kernel_rfl) ac47_ok 1 rfl (by decide) [(.tmp 2)] (by kernel_rfl) ?_
  intro hr C hC hI
  unfold ac47
  simp only [go_sem, Nat.reduceBEq, Nat.reduceAdd]
  refine loop_g (α := Nat × Option Nat × List Nat) (fun a => a.1 ≤ b.horses.length ∧ a.2.2.length = a.1 ∧ (a.2.1 = none → a.1 = 0)) (fun a => b.horses.length - a.1) [1] (fun a => [(3, .p (slG 26 a.2.1 (rowsO 3 a.2.2 (kindsL b a.1)))), (4, .p (pi a.1))]) (fun _ => [.cells ((bookC k b).map .p)]) (fun a => a.2.1.toList) (0, none, []) ⟨by omega, rfl, fun _ => rfl⟩ (by simp [Wk, wkT, wkL, look, AV.lo, AV.lo.loL, upS_eq, keepS_nil, keepS_cons, slG]) ?_
  rintro ⟨i, o, ts⟩ ⟨hi, hts, hok⟩
  replace hi : i ≤ b.horses.length := hi
  replace hts : ts.length = i := hts
  replace hok : o = none → i = 0 := hok
  have hkl := kindsL_len b i
  have h0 : o = none → rowsO 3 ts (kindsL b i) = [] := fun e => List.eq_nil_of_length_eq_zero (by rw [rowsO_len (by rw [hts, hkl]), hkl]; exact hok e)
  simp only [go_sem, Nat.reduceBEq, List.length_map]
  refine ⟨fun h5 => ?_, fun h5 => ?_⟩
  · have hi2 : i < b.horses.length := by omega
    obtain ⟨V, hV⟩ : ∃ V, slG 26 o (rowsO 3 ts (kindsL b i)) = V := ⟨_, rfl⟩
    rw [hV]
    refine loop_g (α := Nat × Option Nat) (fun a => a.1 ≤ b.horses.length ∧ (a.2 = none → a.1 = 0) ∧ (o.toList ++ a.2.toList).Nodup) (fun a => b.horses.length - a.1) [1, 3, 4] (fun a => [(5, .p (slG 3 a.2 ((kindR b i a.1).map fun x => [pi x]))), (6, .p (pi a.1))]) (fun _ => [.cells ((bookC k b).map .p)]) (fun a => o.toList ++ a.2.toList) (0, none) ⟨by omega, fun _ => rfl, by cases o <;> simp⟩ (by cases o <;> simp [Wk, wkT, wkL, look, AV.lo, AV.lo.loL, upS_eq, keepS_nil, keepS_cons, slG]) ?_
    rintro ⟨j, o2⟩ ⟨hj, hok2, hnd⟩
    replace hj : j ≤ b.horses.length := hj
    replace hok2 : o2 = none → j = 0 := hok2
    replace hnd : (o.toList ++ o2.toList).Nodup := hnd
    have h02 : o2 = none → ((kindR b i j).map fun x => [pi x]) = [] := fun e => by rw [hok2 e]; rfl
    have hnx := kindR_next b i j
    simp only [go_sem, Nat.reduceBEq, Nat.reduceAdd, List.length_map]
    refine ⟨fun h6 => ?_, fun h6 => ?_⟩
    · have hj2 : j < b.horses.length := by omega
      refine ⟨fun h7 => ?_, fun h7 => ?_⟩
      · have hne : ¬ j = i := by omega
        have hx : kindJ b i j = sameI b i j := if_neg hne
        rw [hx] at hnx
        refine call_pure2 hC (Same_ok k ho hi2 hj2 (fun e => hne e.symm)) rfl (PVleL_refl _) ?_
        rintro r rfl
        simp only [go_sem, Nat.reduceBEq, decide_false, not_true_eq_false]
        refine app_slG h02 (by rw [List.length_map, kindR_len]; omega) (fun t ht => List.mem_append_right _ ht) fun tk htk => ?_
        simp only [go_sem, Nat.reduceBEq, wrap_succ (k := j) (by omega)]
        refine ⟨⟨(j + 1, some tk), hj2, (fun h => by cases h), nodup_d htk⟩, by simp only; omega, ?_⟩
        simp only [hnx]
        exact ⟨by simp [wkT, look, AV.lo], by simp [wkL, AV.lo, AV.lo.loL], live_d hnd, nodup_d htk, rfl, rfl, by simp⟩
      · have he : j = i := by omega
        have hx : kindJ b i j = 0 := if_pos he
        rw [hx] at hnx
        refine app_slG h02 (by rw [List.length_map, kindR_len]; omega) (fun t ht => List.mem_append_right _ ht) fun tk htk => ?_
        simp only [go_sem, Nat.reduceBEq, wrap_succ (k := j) (by omega)]
        refine ⟨⟨(j + 1, some tk), hj2, (fun h => by cases h), nodup_d htk⟩, by simp only; omega, ?_⟩
        simp only [hnx]
        exact ⟨by simp [wkT, look, AV.lo], by simp [wkL, AV.lo, AV.lo.loL], live_d hnd, nodup_d htk, rfl, rfl, by simp⟩
    · have hjn : j = b.horses.length := by omega
      subst hjn
      cases o2 with
      | none => exact absurd (hok2 rfl) (by omega)
      | some tk =>
        simp only [slG]
        simp only [go_sem, Nat.reduceBEq]
        rw [← hV]
        refine app_slG h0 (by rw [rowsO_len (by rw [hts, hkl]), hkl]; omega) (fun t ht => List.mem_append_left _ ht) fun t ht => ?_
        simp only [go_sem, Nat.reduceBEq, wrap_succ (k := i) (by omega)]
        refine ⟨⟨(i + 1, some t, ts ++ [tk]), hi2, by simp [hts], (fun h => by cases h)⟩, by simp only; omega, ?_⟩
        have hn1 := kindsL_next b i
        simp only [hn1, rowsO_add2 (show ts.length = (kindsL b i).length by rw [hts, hkl])]
        exact ⟨by simp [wkT, look, AV.lo, slG], by simp [wkL, AV.lo, AV.lo.loL], by simp, by simp, rfl, rfl, by simp⟩
  · have hin : i = b.horses.length := by omega
    subst hin
    cases o with
    | none => exact absurd (hok rfl) (by omega)
    | some t => exact retQ_le rfl (PVle.rows (rowsO_le _ _ _ (by rw [hts, hkl]))) rfl
end Go.Proofs.Ytlghbmancjjdjaa
namespace Go.Proofs.Ytlghbmancjjdjaa
open Go.RowKit
def ac55 : AC := (AC.seq (AC.ops [(AOp.mk (some 4) (AK.box 2 (AX.t 0)) none 0 false true), (AOp.mk (some 8) (AK.new (PV.agg [(PV.val (Value.int IntKind.i64 0)), (PV.sl SK.full 0 [])])) none 1 false true)]) (AC.seq (AC.ops [(AOp.mk (some 10) (AK.ld (some 2) (AX.t 4)) none 0 false true), (AOp.mk (some 9) (AK.new (PV.agg [(PV.val (Value.int IntKind.i64 0)), (PV.sl SK.full 0 [])])) none 1 false true), (AOp.mk none (AK.st 2 (AX.t 9) (AX.t 10)) none 2 false true)]) (AC.seq (AC.ops [(AOp.mk (some 11) (AK.bslice false 26 1 0 [(PV.sl SK.full 0 [])] []) none 0 false true), (AOp.mk (some 12) (AK.fadr 1 (AX.t 4)) none 1 false true), (AOp.mk (some 13) (AK.ld none (AX.t 12)) none 2 false true), (AOp.mk (some 14) (AK.app true 26 1 24 [(PV.sl SK.full 0 [])] (AX.t 11) (AX.t 13)) none 3 false true), (AOp.mk (some 15) (AK.fadr 1 (AX.t 9)) none 4 false true), (AOp.mk none (AK.st 1 (AX.t 15) (AX.t 14)) none 5 false true)]) (AC.seq (AC.ops [(AOp.mk (some 16) (AK.fadr 1 (AX.t 9)) none 0 true false), (AOp.mk (some 17) (AK.ld none (AX.t 16)) none 1 true false), (AOp.mk (some 18) (AK.mv (AX.t 1)) none 2 true false), (AOp.mk (some 20) (AK.fadr 1 (AX.t 4)) none 4 true false), (AOp.mk (some 21) (AK.ld none (AX.t 20)) none 5 true false), (AOp.mk (some 22) (AK.mv (AX.t 1)) none 6 true false), (AOp.mk (some 23) (AK.iadrS 1 (AX.t 21) (AX.t 22)) none 7 true false), (AOp.mk (some 24) (AK.ld none (AX.t 23)) none 8 true false), (AOp.mk (some 19) (AK.bslice false 3 1 0 [(PV.val (Value.int IntKind.i64 0))] []) none 3 false false), (AOp.mk (some 25) (AK.app true 3 1 8 [(PV.val (Value.int IntKind.i64 0))] (AX.t 19) (AX.t 24)) none 9 false false), (AOp.mk (some 26) (AK.iadrS 1 (AX.t 17) (AX.t 18)) none 10 true true), (AOp.mk none (AK.st 1 (AX.t 26) (AX.t 25)) none 11 false true)]) (AC.seq (AC.ops [(AOp.mk (some 27) (AK.fadr 1 (AX.t 9)) none 0 true false), (AOp.mk (some 28) (AK.ld none (AX.t 27)) none 1 true false), (AOp.mk (some 29) (AK.mv (AX.t 1)) none 2 true false), (AOp.mk (some 30) (AK.iadrS 1 (AX.t 28) (AX.t 29)) none 3 true false), (AOp.mk (some 31) (AK.ld none (AX.t 30)) none 4 true false), (AOp.mk (some 32) (AK.mv (AX.t 2)) none 5 true false), (AOp.mk (some 33) (AK.mv (AX.t 3)) none 6 true false), (AOp.mk (some 34) (AK.bin false BinOp.shl (AX.c (PV.val (Value.int IntKind.i64 1))) (AX.t 33)) none 7 true false), (AOp.mk (some 35) (AK.iadrS 1 (AX.t 31) (AX.t 32)) none 8 true true), (AOp.mk none (AK.st 1 (AX.t 35) (AX.t 34)) none 9 false true)]) (AC.seq (AC.ops [(AOp.mk (some 36) (AK.ld (some 2) (AX.t 9)) none 0 false true), (AOp.mk none (AK.st 2 (AX.t 8) (AX.t 36)) none 1 false true)]) AC.ret))))))
theorem ac55_ok : cCode Try.prog (fun d => d == 14 || d == 25) Try.f55.ntmps (Try.f55.body.getD .skip) = some ac55 := by kernel_rfl
theorem purL_ps : ∀ (xs : List PV) (f : Nat) (L : List ABlk) (r : List AV) (l : List PV) (L' : List ABlk), purL f L r = some (l, L') → purL (f + xs.length) L (xs.map .p ++ r) = some (xs ++ l, L')
  | [], f, L, r, l, L', h => h
  | x :: xs, f, L, r, l, L', h => by
    have ih := purL_ps xs f L r l L' h
    have hf : f ≠ 0 := by rintro rfl; simp [purL] at h
    obtain ⟨g, hg⟩ : ∃ g, f + xs.length = g + 1 := ⟨f + xs.length - 1, by omega⟩
    rw [List.length_cons, ← Nat.add_assoc, hg]
    rw [hg] at ih
    show purL (g + 1 + 1) L (.p x :: (xs.map .p ++ r)) = _
    simp only [purL, pur]
    rw [ih]
    rfl
theorem purL_all (xs : List PV) {f : Nat} (L : List ABlk) (h : xs.length < f) : purL f L (xs.map .p) = some (xs, L) := by
  have h2 := purL_ps xs (f - xs.length) L [] [] L (by
    obtain ⟨g, hg⟩ : ∃ g, f - xs.length = g + 1 := ⟨f - xs.length - 1, by omega⟩
    rw [hg]; rfl)
  rw [List.append_nil, List.append_nil, Nat.sub_add_cancel (by omega)] at h2
  exact h2
theorem rows_one : ∀ (l : List PV), rows 1 l.length l = l.map fun x => [x]
  | [] => rfl
  | x :: l => by simp [rows, rows_one l]
theorem pur_two {L : List ABlk} {us ds l2 : List PV} {i j m n f : Nat} (hij : i ≠ j) (h3 : L[i]? = some (.cells (us.map .p ++ (.sli j m 1 :: ds.map .p)))) (h4 : L[j]? = some (.cells (l2.map .p))) (hm : l2.length = m) (hn : us.length + 1 + ds.length = n) (hf : us.length + ds.length + l2.length + 5 < f) :
    ∃ L', pur f L (.sli i n 1) = some (.sl .sh 1 ((us ++ .sl .sh 1 (l2.map fun x => [x]) :: ds).map fun x => [x]), L') := by
  obtain ⟨g, rfl⟩ : ∃ g, f = g + us.length + 1 + 1 := ⟨f - us.length - 2, by omega⟩
  obtain ⟨e, rfl⟩ : ∃ e, g = e + 1 := ⟨g - 1, by omega⟩
  have p4 : pur (e + 1) L (.sli j m 1) = some (.sl .sh 1 (l2.map fun x => [x]), L.set j (.frz l2)) := by
    simp only [pur, h4]
    rw [purL_all l2 L (by omega)]
    simp only [h4]
    rw [if_pos (by omega), ← hm, rows_one]
  have pd : purL (e + 1) (L.set j (.frz l2)) (ds.map .p) = some (ds, L.set j (.frz l2)) := purL_all ds _ (by omega)
  have pm : purL (e + 1 + 1) L (.sli j m 1 :: ds.map .p) = some (.sl .sh 1 (l2.map fun x => [x]) :: ds, L.set j (.frz l2)) := by
    simp only [purL, p4, pd]
  have pa := purL_ps us _ L _ _ _ pm
  have hlen : (us ++ .sl .sh 1 (l2.map fun x => [x]) :: ds).length = n := by simp; omega
  refine ⟨(L.set j (.frz l2)).set i (.frz (us ++ .sl .sh 1 (l2.map fun x => [x]) :: ds)), ?_⟩
  rw [show e + 1 + us.length + 1 + 1 = (e + 1 + 1 + us.length) + 1 by omega]
  have hi : (L.set j (.frz l2))[i]? = L[i]? := by
    rw [List.getElem?_set]
    rw [if_neg (fun e => hij e.symm)]
  simp only [pur, h3, pa, hi]
  rw [if_pos (by omega), ← hlen, rows_one]
theorem purL_two {f : Nat} {L L' : List ABlk} {a : AV} {x v : PV} (h : pur (f + 1) L a = some (v, L')) : purL (f + 3) L [.p x, a] = some ([x, v], L') := by
  simp only [purL]
  rw [show pur (f + 2) L (.p x) = some (x, L) by simp only [pur]]
  simp only [h]
theorem pur_pair {s : AS} {a : AV} {x v : PV} {L' : List ABlk} (h : pur 97 s.loc a = some (v, L')) : purArgs s [.agg [.p x, a]] = some ([.agg [x, v]], L') := by
  have h1 : purL 99 s.loc [.p x, a] = some ([x, v], L') := purL_two (f := 96) h
  have h2 : pur (99 + 1) s.loc (.agg [.p x, a]) = some (.agg [x, v], L') := by
    simp only [pur]
    rw [h1]
  unfold purArgs
  simp only [purArgs.purV]
  rw [show (100 : Nat) = 99 + 1 from rfl, h2]
theorem flat1 {α β : Type} (f : α → β) : ∀ l : List α, (l.map fun x => [f x]).flatten = l.map f
  | [] => rfl
  | x :: l => by simp [flat1 f l]
theorem known2_sem (k : SK) {b : DBook} (ho : okBook b) {h p s : Nat} (hh : h < b.horses.length) (hp : p < nR b) (hs : s < 4) : Sem1 55 [.agg (bookC k b), pi h, pi p, pi s] (.agg (bookC .sh (knowB b h p s))) := by
  obtain ⟨h1, h8, hn⟩ := okR ho
  have h6 := ho.2.1
  have eh := iadr_map (f := fun h => [pis h]) (kd := k) (sz := 1) hh
  refine semC_of_exec' mixed Try.func55 (by kernel_rfl) (by kernel_rfl) ac55_ok 4 rfl (by decide) [(.cell 8 24)] (by kernel_rfl) ?_
  intro hr C hC hI
  unfold ac55
  simp only [go_sem, Nat.reduceBEq, Nat.reduceAdd, putCells]
  refine ⟨by rw [List.length_map]; omega, fun e => absurd (congrArg List.length e) (by rw [List.length_map, List.length_nil]; omega), fun _ => ?_⟩
  simp only [go_sem, Nat.reduceBEq, Nat.reduceAdd, eh]
  have hRl : b.horses[h].length = nR b := by have := (ho.2.2 _ (List.getElem_mem hh)).1; omega
  have f1 : (List.map (fun h => [pis h]) b.horses).flatten = b.horses.map pis := flat1 (fun h => pis h) b.horses
  have f2 : (List.map (fun x => [pi x]) b.horses[h]).flatten = b.horses[h].map pi := flat1 (fun x => pi x) _
  refine ⟨by rw [List.length_map]; omega, fun e => absurd (congrArg List.length e) (by rw [List.length_map, List.length_nil]; omega), fun _ => ?_⟩
  rw [f1, f2]
  have i1 : iadrS' 1 (AV.sli 3 b.horses.length 1) (AV.p (pi h)) = some (.loc 3 h) := by
    simp [iadrS', hh]
  have i2 : iadrS' 1 (AV.sli 4 b.horses[h].length 1) (AV.p (pi p)) = some (.loc 4 p) := by
    simp [iadrS', show p < b.horses[h].length by omega]
  have hge : (List.take h (List.map AV.p (b.horses.map pis)) ++ [AV.sli 4 b.horses[h].length 1] ++ List.drop (h + 1) (List.map AV.p (b.horses.map pis)))[h]? = some (AV.sli 4 b.horses[h].length 1) := by
    rw [List.append_assoc, List.getElem?_append_right (by simp; omega)]
    simp [show min h b.horses.length = h by omega]
  have hh1 : h + 1 ≤ b.horses.length := hh
  have hp1 : p + 1 ≤ b.horses[h].length := by omega
  simp only [go_sem, Nat.reduceBEq, Nat.reduceAdd, i1, i2, putCells, List.length_map, hh1, hp1, hge, bin_shl (show ¬ (s : Int) < 0 by omega)]
  have hw2 : IntKind.i64.wrap (1 * 2 ^ min ((s : Int)).toNat 64) = 2 ^ s := by
    rw [pow2_small (show 0 ≤ (s : Int) ∧ (s : Int) ≤ 3 by omega), Int.toNat_natCast]
  rw [hw2]
  have hn2 : List.take p b.horses[h] ++ (2 ^ s) :: List.drop (p + 1) b.horses[h] = knowR b h p s h (nR b) := by
    apply List.ext_getElem?
    intro q
    unfold knowR
    rcases Nat.lt_trichotomy q p with hq | rfl | hq
    · rw [List.getElem?_append_left (by simp; omega), List.getElem?_take_of_lt hq, List.getElem?_map, List.getElem?_range (by omega)]
      have : ¬ (h, q) = (h, p) := by simp; omega
      simp [List.getD_eq_getElem?_getD, List.getElem?_eq_getElem hh, List.getElem?_eq_getElem (show q < b.horses[h].length by omega), show ¬ q = p by omega]
    · rw [List.getElem?_append_right (by simp; omega), List.getElem?_map, List.getElem?_range (by omega)]
      simp [show min q b.horses[h].length = q by omega]
    · rw [List.getElem?_append_right (by simp; omega), List.length_take, show q - min p b.horses[h].length = (q - p - 1) + 1 by omega, List.getElem?_cons_succ, List.getElem?_drop, show p + 1 + (q - p - 1) = q by omega, List.getElem?_map]
      rcases Nat.lt_or_ge q (nR b) with hq2 | hq2
      · rw [List.getElem?_range hq2, List.getElem?_eq_getElem (show q < b.horses[h].length by omega)]
        simp [List.getD_eq_getElem?_getD, List.getElem?_eq_getElem hh, List.getElem?_eq_getElem (show q < b.horses[h].length by omega), show ¬ q = p by omega]
      · rw [List.getElem?_eq_none (show (List.range (nR b)).length ≤ q by simpa using hq2), List.getElem?_eq_none (show b.horses[h].length ≤ q by omega)]
        rfl
  have hb2 : List.take h b.horses ++ knowR b h p s h (nR b) :: List.drop (h + 1) b.horses = (knowB b h p s).horses := by
    apply List.ext_getElem?
    intro q
    show _ = ((List.range b.horses.length).map fun i => knowR b h p s i (nR b))[q]?
    rw [List.getElem?_map]
    have hold : ∀ q, q < b.horses.length → q ≠ h → b.horses[q]? = some (knowR b h p s q (nR b)) := by
      intro q hq hne
      have hql : b.horses[q].length = nR b := by have := (ho.2.2 _ (List.getElem_mem hq)).1; omega
      rw [List.getElem?_eq_getElem hq]
      congr 1
      unfold knowR
      apply List.ext_getElem?
      intro x
      rcases Nat.lt_or_ge x (nR b) with hx | hx
      · rw [List.getElem?_map, List.getElem?_range hx, List.getElem?_eq_getElem (show x < b.horses[q].length by omega)]
        simp [List.getD_eq_getElem?_getD, List.getElem?_eq_getElem hq, List.getElem?_eq_getElem (show x < b.horses[q].length by omega), hne]
      · rw [List.getElem?_eq_none (by omega), List.getElem?_eq_none (by simpa using hx)]
    rcases Nat.lt_trichotomy q h with hq | rfl | hq
    · rw [List.getElem?_append_left (by simp; omega), List.getElem?_take_of_lt hq, List.getElem?_range (by omega), hold q (by omega) (by omega)]
      rfl
    · rw [List.getElem?_append_right (by simp; omega), List.getElem?_range hh]
      simp [show min q b.horses.length = q by omega]
    · rw [List.getElem?_append_right (by simp; omega), List.length_take, show q - min h b.horses.length = (q - h - 1) + 1 by omega, List.getElem?_cons_succ, List.getElem?_drop, show h + 1 + (q - h - 1) = q by omega]
      rcases Nat.lt_or_ge q b.horses.length with hq2 | hq2
      · rw [List.getElem?_range hq2, hold q hq2 (by omega)]
        rfl
      · rw [List.getElem?_eq_none hq2, List.getElem?_eq_none (show (List.range b.horses.length).length ≤ q by simpa using hq2)]
        rfl
  obtain ⟨L', hL⟩ := pur_two (L := [.cells [.p (pi b.round), .p (.sl k 1 (rowsC b.horses))], .cells [.p (pi b.round), .sli 3 b.horses.length 1], .cells [.p (pi b.round), .sli 3 b.horses.length 1], .cells (((b.horses.take h).map pis).map .p ++ (.sli 4 b.horses[h].length 1 :: ((b.horses.drop (h + 1)).map pis).map .p)), .cells (((List.take p b.horses[h] ++ (2 ^ s) :: List.drop (p + 1) b.horses[h]).map pi).map .p)]) (i := 3) (j := 4) (us := (b.horses.take h).map pis) (ds := (b.horses.drop (h + 1)).map pis) (l2 := (List.take p b.horses[h] ++ (2 ^ s) :: List.drop (p + 1) b.horses[h]).map pi) (m := b.horses[h].length) (n := b.horses.length) (f := 97) (by decide) rfl rfl (by simp; omega) (by simp; omega) (by simp; omega)
  have c1 : List.take h (List.map AV.p (List.map pis b.horses)) ++ [AV.sli 4 b.horses[h].length 1] ++ List.drop (h + 1) (List.map AV.p (List.map pis b.horses)) = ((b.horses.take h).map pis).map .p ++ (.sli 4 b.horses[h].length 1 :: ((b.horses.drop (h + 1)).map pis).map .p) := by
    simp [List.map_take, List.map_drop]
  have c2 : List.take p (List.map AV.p (List.map pi b.horses[h])) ++ [AV.p (PV.val (Value.int IntKind.i64 (2 ^ s)))] ++ List.drop (p + 1) (List.map AV.p (List.map pi b.horses[h])) = ((List.take p b.horses[h] ++ (2 ^ s) :: List.drop (p + 1) b.horses[h]).map pi).map .p := by
    simp [List.map_take, List.map_drop]
  rw [c1, c2]
  refine ⟨[.agg [.p (pi b.round), .sli 3 b.horses.length 1]], [.agg [pi b.round, .sl .sh 1 (((b.horses.take h).map pis ++ .sl .sh 1 (((List.take p b.horses[h] ++ (2 ^ s) :: List.drop (p + 1) b.horses[h]).map pi).map fun x => [x]) :: (b.horses.drop (h + 1)).map pis).map fun x => [x])]], L', _, ?_, ?_, PVle.refl _, ?_⟩
  · have hsh : shapeN Try.prog 24 = some (some 2) := by kernel_rfl
    simp only [resA, hsh]
    rfl
  · exact pur_pair hL
  · have e : rowsC (knowB b h p s).horses = ((b.horses.take h).map pis ++ .sl .sh 1 (((List.take p b.horses[h] ++ (2 ^ s) :: List.drop (p + 1) b.horses[h]).map pi).map fun x => [x]) :: (b.horses.drop (h + 1)).map pis).map fun x => [x] := by
      rw [← hb2, ← hn2]
      simp [Function.comp_def, List.map_take, List.map_drop]
    show PV.agg [pi b.round, _] = PV.agg [pi (knowB b h p s).round, .sl .sh 1 (rowsC (knowB b h p s).horses)]
    rw [e]
    rfl
end Go.Proofs.Ytlghbmancjjdjaa
namespace Go.Proofs.Ytlghbmancjjdjaa
open Go.RowKit
def ac11 : AC := (AC.seq (AC.ops [(AOp.mk (some 2) (AK.box 2 (AX.t 0)) none 0 false true), (AOp.mk (some 4) (AK.mv (AX.c (PV.val (Value.bool false)))) none 1 false true)]) (AC.seq (AC.ops [(AOp.mk (some 13) (AK.ld (some 2) (AX.t 2)) none 0 false true), (AOp.mk (some 14) (AK.call 28 [(AX.t 13)]) none 1 false true), (AOp.mk (some 12) (AK.mv (AX.t 14)) none 2 false true), (AOp.mk (some 15) (AK.ext (AX.t 12) 0) none 3 false true), (AOp.mk (some 16) (AK.ext (AX.t 12) 1) none 4 false true), (AOp.mk (some 5) (AK.mv (AX.t 15)) none 5 false true), (AOp.mk (some 6) (AK.mv (AX.t 16)) none 6 false true)]) (AC.seq (AC.seq (AC.ops [(AOp.mk (some 17) (AK.ld (some 2) (AX.t 2)) none 0 false true), (AOp.mk (some 18) (AK.call 38 [(AX.t 17)]) none 1 false true), (AOp.mk (some 19) (AK.un UnOp.not (AX.t 18)) none 2 false true)]) (AC.cond (AX.t 19) (AC.seq (AC.ops [(AOp.mk (some 20) (AK.mv (AX.t 6)) none 0 false true), (AOp.mk (some 21) (AK.bin false BinOp.eql (AX.t 20) (AX.c (PV.val (Value.int IntKind.i64 70)))) none 1 false true), (AOp.mk (some 22) (AK.mv (AX.t 21)) none 2 false true), (AOp.mk (some 23) (AK.mv (AX.t 5)) (some (22, true)) 3 false true), (AOp.mk (some 24) (AK.len (AX.t 23)) (some (22, true)) 4 false true), (AOp.mk (some 25) (AK.bin false BinOp.eql (AX.t 24) (AX.c (PV.val (Value.int IntKind.i64 0)))) (some (22, true)) 5 false true), (AOp.mk (some 26) (AK.pick (AX.t 22) (AX.t 25) (AX.c (PV.val (Value.bool false)))) none 6 false true), (AOp.mk (some 27) (AK.mv (AX.t 26)) none 7 false true), (AOp.mk (some 28) (AK.call 25 []) (some (27, true)) 8 false true), (AOp.mk (some 29) (AK.pick (AX.t 27) (AX.t 28) (AX.c (PV.val (Value.bool false)))) none 9 false true), (AOp.mk (some 4) (AK.mv (AX.t 29)) none 10 false true)]) AC.ret) AC.skip)) (AC.seq (AC.ops [(AOp.mk (some 30) (AK.fadr 0 (AX.t 2)) none 0 false true), (AOp.mk (some 31) (AK.ld none (AX.t 30)) none 1 false true), (AOp.mk (some 32) (AK.mv (AX.t 1)) none 2 false true), (AOp.mk (some 33) (AK.call 49 [(AX.t 31), (AX.t 32)]) none 3 false true), (AOp.mk (some 7) (AK.mv (AX.t 33)) none 4 false true)]) (AC.seq (AC.ops [(AOp.mk (some 35) (AK.ld (some 2) (AX.t 2)) none 0 false true), (AOp.mk (some 36) (AK.mv (AX.t 7)) none 1 false true), (AOp.mk (some 37) (AK.call 26 [(AX.t 35), (AX.t 36)]) none 2 false true), (AOp.mk (some 34) (AK.mv (AX.t 37)) none 3 false true), (AOp.mk (some 38) (AK.ext (AX.t 34) 0) none 4 false true), (AOp.mk (some 39) (AK.ext (AX.t 34) 1) none 5 false true), (AOp.mk (some 8) (AK.mv (AX.t 38)) none 6 false true), (AOp.mk (some 9) (AK.mv (AX.t 39)) none 7 false true)]) (AC.seq (AC.seq (AC.ops [(AOp.mk (some 40) (AK.mv (AX.t 9)) none 0 false true), (AOp.mk (some 41) (AK.bin false BinOp.neq (AX.t 40) (AX.c (PV.val (Value.int IntKind.i64 0)))) none 1 false true)]) (AC.cond (AX.t 41) (AC.seq (AC.ops [(AOp.mk (some 4) (AK.mv (AX.c (PV.val (Value.bool false)))) none 0 false true)]) AC.ret) AC.skip)) (AC.seq (AC.seq (AC.ops [(AOp.mk (some 42) (AK.mv (AX.t 6)) none 0 false true), (AOp.mk (some 43) (AK.bin false BinOp.neq (AX.t 42) (AX.c (PV.val (Value.int IntKind.i64 0)))) none 1 false true)]) (AC.cond (AX.t 43) (AC.seq (AC.ops [(AOp.mk (some 44) (AK.mv (AX.t 6)) none 0 false true), (AOp.mk (some 45) (AK.bin false BinOp.eql (AX.t 44) (AX.c (PV.val (Value.int IntKind.i64 4)))) none 1 false true), (AOp.mk (some 46) (AK.mv (AX.t 45)) none 2 false true), (AOp.mk (some 47) (AK.mv (AX.t 5)) (some (46, true)) 3 false true), (AOp.mk (some 48) (AK.len (AX.t 47)) (some (46, true)) 4 false true), (AOp.mk (some 49) (AK.bin false BinOp.eql (AX.t 48) (AX.c (PV.val (Value.int IntKind.i64 0)))) (some (46, true)) 5 false true), (AOp.mk (some 50) (AK.pick (AX.t 46) (AX.t 49) (AX.c (PV.val (Value.bool false)))) none 6 false true), (AOp.mk (some 51) (AK.mv (AX.t 50)) none 7 false true), (AOp.mk (some 52) (AK.mv (AX.t 8)) (some (51, true)) 8 false true), (AOp.mk (some 53) (AK.len (AX.t 52)) (some (51, true)) 9 false true), (AOp.mk (some 54) (AK.bin false BinOp.gtr (AX.t 53) (AX.c (PV.val (Value.int IntKind.i64 0)))) (some (51, true)) 10 false true), (AOp.mk (some 55) (AK.pick (AX.t 51) (AX.t 54) (AX.c (PV.val (Value.bool false)))) none 11 false true), (AOp.mk (some 56) (AK.mv (AX.t 55)) none 12 false true), (AOp.mk (some 57) (AK.call 25 []) (some (56, true)) 13 false true), (AOp.mk (some 58) (AK.pick (AX.t 56) (AX.t 57) (AX.c (PV.val (Value.bool false)))) none 14 false true), (AOp.mk (some 4) (AK.mv (AX.t 58)) none 15 false true)]) AC.ret) AC.skip)) (AC.seq (AC.ops [(AOp.mk (some 60) (AK.ld (some 2) (AX.t 2)) none 0 false true), (AOp.mk (some 61) (AK.mv (AX.t 5)) none 1 false true), (AOp.mk (some 62) (AK.call 26 [(AX.t 60), (AX.t 61)]) none 2 false true), (AOp.mk (some 59) (AK.mv (AX.t 62)) none 3 false true), (AOp.mk (some 63) (AK.ext (AX.t 59) 0) none 4 false true), (AOp.mk (some 64) (AK.ext (AX.t 59) 1) none 5 false true), (AOp.mk (some 10) (AK.mv (AX.t 63)) none 6 false true), (AOp.mk (some 11) (AK.mv (AX.t 64)) none 7 false true)]) (AC.seq (AC.ops [(AOp.mk (some 65) (AK.mv (AX.t 11)) none 0 false true), (AOp.mk (some 66) (AK.bin false BinOp.eql (AX.t 65) (AX.c (PV.val (Value.int IntKind.i64 0)))) none 1 false true), (AOp.mk (some 67) (AK.mv (AX.t 66)) none 2 false true), (AOp.mk (some 68) (AK.mv (AX.t 10)) (some (67, true)) 3 false true), (AOp.mk (some 69) (AK.len (AX.t 68)) (some (67, true)) 4 false true), (AOp.mk (some 70) (AK.bin false BinOp.eql (AX.t 69) (AX.c (PV.val (Value.int IntKind.i64 0)))) (some (67, true)) 5 false true), (AOp.mk (some 71) (AK.pick (AX.t 67) (AX.t 70) (AX.c (PV.val (Value.bool false)))) none 6 false true), (AOp.mk (some 72) (AK.mv (AX.t 71)) none 7 false true), (AOp.mk (some 73) (AK.mv (AX.t 7)) (some (72, true)) 8 false true), (AOp.mk (some 74) (AK.mv (AX.t 5)) (some (72, true)) 9 false true), (AOp.mk (some 75) (AK.call 51 [(AX.t 73), (AX.t 74)]) (some (72, true)) 10 false true), (AOp.mk (some 76) (AK.un UnOp.not (AX.t 75)) (some (72, true)) 11 false true), (AOp.mk (some 77) (AK.mv (AX.t 76)) (some (72, true)) 12 false true), (AOp.mk (some 78) (AK.mv (AX.t 8)) (some (77, false)) 13 false true), (AOp.mk (some 79) (AK.len (AX.t 78)) (some (77, false)) 14 false true), (AOp.mk (some 80) (AK.bin false BinOp.gtr (AX.t 79) (AX.c (PV.val (Value.int IntKind.i64 0)))) (some (77, false)) 15 false true), (AOp.mk (some 81) (AK.pick (AX.t 77) (AX.c (PV.val (Value.bool true))) (AX.t 80)) (some (72, true)) 16 false true), (AOp.mk (some 82) (AK.pick (AX.t 72) (AX.t 81) (AX.c (PV.val (Value.bool false)))) none 17 false true), (AOp.mk (some 83) (AK.mv (AX.t 82)) none 18 false true), (AOp.mk (some 84) (AK.call 25 []) (some (83, true)) 19 false true), (AOp.mk (some 85) (AK.pick (AX.t 83) (AX.t 84) (AX.c (PV.val (Value.bool false)))) none 20 false true), (AOp.mk (some 4) (AK.mv (AX.t 85)) none 21 false true)]) AC.ret)))))))))
theorem ac11_ok : cCode Try.prog (fun _ => false) Try.f11.ntmps (Try.f11.body.getD .skip) = some ac11 := by kernel_rfl
theorem New_bad (k : SK) {b : DBook} (ho : ¬ okBook b) : Sem1 28 [.agg (bookC k b)] (.tup [pis [], pi 70]) :=
  (New_sem k b).mono fun _ e => e.trans (by unfold newR; rw [if_neg ho])
theorem New_none (k : SK) {b : DBook} (ho : okBook b) (hf : freeL b = []) : Sem1 28 [.agg (bookC k b)] (.tup [pis [], pi 4]) :=
  (New_sem k b).mono fun _ e => e.trans (by unfold newR; rw [if_pos ho, hf])
theorem New_some (k : SK) {b : DBook} (ho : okBook b) {z : List Int} {zs : List (List Int)} (hf : freeL b = z :: zs) : Sem1 28 [.agg (bookC k b)] (.tup [pis z, pi 0]) :=
  (New_sem k b).mono fun _ e => e.trans (by unfold newR; rw [if_pos ho, hf])
theorem Whose_ok (k : SK) {b : DBook} (ho : okBook b) {r : List Int} (hr : r ∈ sufs (nR b)) : Sem1 26 [.agg (bookC k b), pis r] (.tup [pis (natL (whoseI b (knownN r))), pi 0]) := by
  obtain ⟨h1, h2⟩ := mem_sufs.1 hr
  have he : errI b (decide (okRow b r)) = 0 := by
    unfold errI
    rw [if_pos ho, decide_eq_true (show okRow b r from ⟨by have := (okR ho).2.2; omega, h2⟩)]
    rfl
  exact (Whose_sem k b r).mono fun _ e => e.trans (by rw [if_pos he])
theorem sizesJ_mem (r : Nat) (bits : List Int) : sizesJ r bits ∈ sufs r := mem_sufs.2 ⟨sizesJ_len r bits, sizesJ_ok r bits⟩
theorem natL_len {l : List Nat} : (natL l).length = l.length := by unfold natL; rw [List.length_map]
set_option maxRecDepth 100000 in
theorem New_law (k : SK) (b : DBook) (bits : List Int) : Sem1 11 [.agg (bookC k b), pis bits] (pb true) := by
  by_cases ho : okBook b
  rotate_left
  · refine semC_of_exec' mixed Try.func11 (by kernel_rfl) (by kernel_rfl) ac11_ok 2 rfl (by decide) [(.tmp 4)] (by kernel_rfl) ?_
    intro hr C hC hI
    unfold ac11
    simp only [go_sem, Nat.reduceBEq, Nat.reduceAdd]
    refine call_pure2 hC (New_bad k ho) rfl (PVleL_refl _) ?_
    rintro r rfl
    simp only [go_sem, Nat.reduceBEq, Nat.reduceAdd]
    refine call_pure2 hC (sound_sem k b) rfl (PVleL_refl _) ?_
    rintro r rfl
    simp only [go_sem, Nat.reduceBEq, decide_true, List.length_nil, Int.natCast_zero]
    refine ⟨fun _ => ?_, fun h => absurd h ho⟩
    refine call_pure2 hC (pressed_sem) rfl (PVleL_refl _) ?_
    rintro r rfl
    simp only [go_sem, Nat.reduceBEq]
    exact retQ_one rfl rfl
  obtain ⟨h1, h8, hn⟩ := okR ho
  have hw := Whose_ok k ho (sizesJ_mem (nR b) bits)
  have hsz : Sem1 49 [pi b.round, pis bits] (pis (sizesJ (nR b) bits)) := by
    rw [hn]
    exact sizes2_sem (nR b) (by omega) bits
  cases hf : freeL b with
  | nil =>
    have hne := free_none ho hf (sizesJ_mem (nR b) bits)
    have hlen : (0 : Int) < (natL (whoseI b (knownN (sizesJ (nR b) bits)))).length := by
      rw [natL_len]
      have := List.length_pos_iff.2 hne
      omega
    refine semC_of_exec' mixed Try.func11 (by kernel_rfl) (by kernel_rfl) ac11_ok 2 rfl (by decide) [(.tmp 4)] (by kernel_rfl) ?_
    intro hr C hC hI
    unfold ac11
    simp only [go_sem, Nat.reduceBEq, Nat.reduceAdd]
    refine call_pure2 hC (New_none k ho hf) rfl (PVleL_refl _) ?_
    rintro r rfl
    simp only [go_sem, Nat.reduceBEq, Nat.reduceAdd]
    refine call_pure2 hC (sound_sem k b) rfl (PVleL_refl _) ?_
    rintro r rfl
    simp only [go_sem, Nat.reduceBEq]
    refine ⟨fun h => absurd ho h, fun _ => ?_⟩
    refine call_pure2 hC (hsz) rfl (PVleL_refl _) ?_
    rintro r rfl
    simp only [go_sem, Nat.reduceBEq, Nat.reduceAdd]
    refine call_pure2 hC (hw) rfl (PVleL_refl _) ?_
    rintro r rfl
    simp only [go_sem, Nat.reduceBEq, decide_true, decide_false, not_true_eq_false, not_false_eq_true, Int.reduceEq, List.length_map, List.length_nil, Int.natCast_zero, hlen]
    refine call_pure2 hC (pressed_sem) rfl (PVleL_refl _) ?_
    rintro r rfl
    simp only [go_sem, Nat.reduceBEq]
    exact retQ_one rfl rfl
  | cons z zs =>
    obtain ⟨hz, hz0, hlt⟩ := free_first ho hf
    have hwz := Whose_ok k ho hz
    rw [hz0, show natL [] = [] from rfl] at hwz
    obtain ⟨hz1, hz2⟩ := mem_sufs.1 hz
    refine semC_of_exec' mixed Try.func11 (by kernel_rfl) (by kernel_rfl) ac11_ok 2 rfl (by decide) [(.tmp 4)] (by kernel_rfl) ?_
    intro hr C hC hI
    unfold ac11
    simp only [go_sem, Nat.reduceBEq, Nat.reduceAdd]
    refine call_pure2 hC (New_some k ho hf) rfl (PVleL_refl _) ?_
    rintro r rfl
    simp only [go_sem, Nat.reduceBEq, Nat.reduceAdd]
    refine call_pure2 hC (sound_sem k b) rfl (PVleL_refl _) ?_
    rintro r rfl
    simp only [go_sem, Nat.reduceBEq]
    refine ⟨fun h => absurd ho h, fun _ => ?_⟩
    refine call_pure2 hC (hsz) rfl (PVleL_refl _) ?_
    rintro r rfl
    simp only [go_sem, Nat.reduceBEq, Nat.reduceAdd]
    refine call_pure2 hC (hw) rfl (PVleL_refl _) ?_
    rintro r rfl
    simp only [go_sem, Nat.reduceBEq, Nat.reduceAdd, decide_false, not_true_eq_false]
    refine call_pure2 hC (hwz) rfl (PVleL_refl _) ?_
    rintro r rfl
    simp only [go_sem, Nat.reduceBEq, decide_true, List.length_nil, Int.natCast_zero]
    refine call_pure2 hC (Less_sem (sizesJ (nR b) bits) z (by rw [sizesJ_len, hz1])) rfl (PVleL_refl _) ?_
    rintro r rfl
    simp only [go_sem, Nat.reduceBEq]
    cases hl : lexB (sizesJ (nR b) bits) z
    · simp only [go_sem, Nat.reduceBEq]
      refine call_pure2 hC (pressed_sem) rfl (PVleL_refl _) ?_
      rintro r rfl
      simp only [go_sem, Nat.reduceBEq]
      exact retQ_one rfl rfl
    · have hne := hlt _ (sizesJ_mem (nR b) bits) hl
      have hlen : (0 : Int) < (natL (whoseI b (knownN (sizesJ (nR b) bits)))).length := by
        rw [natL_len]
        have := List.length_pos_iff.2 hne
        omega
      simp only [go_sem, Nat.reduceBEq, decide_true, List.length_map, hlen]
      refine call_pure2 hC (pressed_sem) rfl (PVleL_refl _) ?_
      rintro r rfl
      simp only [go_sem, Nat.reduceBEq]
      exact retQ_one rfl rfl
set_option maxRecDepth 100000 in
theorem New_row {l0 l1 : List PV} (T0 : Ty Try.prog 10 24 l0) (T1 : Ty Try.prog 10 26 l1) : SemC Try.prog 11 [argPV Try.prog 24 l0, argPV Try.prog 26 l1] (fun r => r = pb true) := by
  obtain ⟨b, rfl⟩ := ty_book T0
  obtain ⟨l, rfl⟩ := ty_ints T1
  rw [argStruct Try.underlying24, argSlice Try.underlying26]
  exact New_law .sh b l
end Go.Proofs.Ytlghbmancjjdjaa
