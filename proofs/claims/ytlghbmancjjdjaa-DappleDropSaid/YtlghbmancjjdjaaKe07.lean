/- Contracts of dapple's statements: any row; what is told of all pairs. Contracts of dapple's statements: what is told of all pairs. Law: DappleClash. -/
import Derived.Test.YtlghbmancjjdjaaKe06
import Derived.Test.YtlghbmancjjdjaaKe05
namespace Go.Proofs.Ytlghbmancjjdjaa
open Go.RowKit
def ac49 : AC := (AC.seq (AC.ops [(AOp.mk (some 4) (AK.mv (AX.c (PV.sl SK.full 0 []))) none 0 false true)]) (AC.seq (AC.ops [(AOp.mk (some 7) (AK.bslice false 3 1 0 [(PV.val (Value.int IntKind.i64 0))] []) none 0 false true), (AOp.mk (some 5) (AK.mv (AX.t 7)) none 1 false true)]) (AC.seq (AC.seq (AC.ops [(AOp.mk (some 6) (AK.mv (AX.c (PV.val (Value.int IntKind.i64 0)))) none 0 false true)]) (AC.block 0 (AC.loop (AC.seq (AC.seq (AC.ops [(AOp.mk (some 8) (AK.mv (AX.t 6)) none 0 false true), (AOp.mk (some 9) (AK.mv (AX.t 0)) none 1 false true), (AOp.mk (some 10) (AK.bin false BinOp.lss (AX.t 8) (AX.t 9)) none 2 false true)]) (AC.cond (AX.t 10) AC.skip (AC.exit 0))) (AC.seq (AC.block 1 (AC.ops [(AOp.mk (some 13) (AK.mv (AX.t 5)) none 0 false true), (AOp.mk (some 14) (AK.mv (AX.t 1)) none 1 false true), (AOp.mk (some 15) (AK.mv (AX.t 6)) none 2 false true), (AOp.mk (some 16) (AK.call 56 [(AX.t 14), (AX.t 15)]) none 3 false true), (AOp.mk (some 17) (AK.mv (AX.t 6)) none 4 false true), (AOp.mk (some 18) (AK.mv (AX.t 1)) none 5 false true), (AOp.mk (some 19) (AK.call 56 [(AX.t 18), (AX.c (PV.val (Value.int IntKind.i64 2)))]) none 6 false true), (AOp.mk (some 20) (AK.bin false BinOp.mul (AX.t 17) (AX.t 19)) none 7 false true), (AOp.mk (some 21) (AK.bin false BinOp.add (AX.t 16) (AX.t 20)) none 8 false true), (AOp.mk (some 22) (AK.call 46 [(AX.t 21), (AX.c (PV.val (Value.int IntKind.i64 4)))]) none 9 false true), (AOp.mk (some 23) (AK.bslice false 3 1 1 [(PV.val (Value.int IntKind.i64 0))] [(0, (1, (AX.t 22)))]) none 10 false true), (AOp.mk (some 24) (AK.app false 3 1 8 [(PV.val (Value.int IntKind.i64 0))] (AX.t 13) (AX.t 23)) none 11 false true), (AOp.mk (some 5) (AK.mv (AX.t 24)) none 12 false true)])) (AC.ops [(AOp.mk (some 11) (AK.mv (AX.t 6)) none 0 false true), (AOp.mk (some 12) (AK.bin false BinOp.add (AX.t 11) (AX.c (PV.val (Value.int IntKind.i64 1)))) none 1 false true), (AOp.mk (some 6) (AK.mv (AX.t 12)) none 2 false true)])))))) (AC.seq (AC.ops [(AOp.mk (some 25) (AK.mv (AX.t 5)) none 0 false true), (AOp.mk (some 4) (AK.mv (AX.t 25)) none 1 false true)]) AC.ret))))
theorem ac49_ok : cCode Try.prog (fun _ => false) Try.f49.ntmps (Try.f49.body.getD .skip) = some ac49 := by kernel_rfl
def ac47 : AC := (AC.seq (AC.ops [(AOp.mk (some 1) (AK.box 2 (AX.t 0)) none 0 false true), (AOp.mk (some 2) (AK.mv (AX.c (PV.sl SK.full 0 []))) none 1 false true)]) (AC.seq (AC.ops [(AOp.mk (some 10) (AK.bslice false 26 1 0 [(PV.sl SK.full 0 [])] []) none 0 false true), (AOp.mk (some 3) (AK.mv (AX.t 10)) none 1 false true)]) (AC.seq (AC.seq (AC.ops [(AOp.mk (some 4) (AK.mv (AX.c (PV.val (Value.int IntKind.i64 0)))) none 0 false true)]) (AC.block 0 (AC.loop (AC.seq (AC.seq (AC.ops [(AOp.mk (some 11) (AK.mv (AX.t 4)) none 0 false true), (AOp.mk (some 12) (AK.fadr 1 (AX.t 1)) none 1 false true), (AOp.mk (some 13) (AK.ld none (AX.t 12)) none 2 false true), (AOp.mk (some 14) (AK.len (AX.t 13)) none 3 false true), (AOp.mk (some 15) (AK.bin false BinOp.lss (AX.t 11) (AX.t 14)) none 4 false true)]) (AC.cond (AX.t 15) AC.skip (AC.exit 0))) (AC.seq (AC.block 1 (AC.seq (AC.ops [(AOp.mk (some 18) (AK.bslice false 3 1 0 [(PV.val (Value.int IntKind.i64 0))] []) none 0 false true), (AOp.mk (some 5) (AK.mv (AX.t 18)) none 1 false true)]) (AC.seq (AC.seq (AC.ops [(AOp.mk (some 6) (AK.mv (AX.c (PV.val (Value.int IntKind.i64 0)))) none 0 false true)]) (AC.block 2 (AC.loop (AC.seq (AC.seq (AC.ops [(AOp.mk (some 19) (AK.mv (AX.t 6)) none 0 false true), (AOp.mk (some 20) (AK.fadr 1 (AX.t 1)) none 1 false true), (AOp.mk (some 21) (AK.ld none (AX.t 20)) none 2 false true), (AOp.mk (some 22) (AK.len (AX.t 21)) none 3 false true), (AOp.mk (some 23) (AK.bin false BinOp.lss (AX.t 19) (AX.t 22)) none 4 false true)]) (AC.cond (AX.t 23) AC.skip (AC.exit 2))) (AC.seq (AC.block 3 (AC.seq (AC.ops [(AOp.mk (some 7) (AK.mv (AX.c (PV.val (Value.int IntKind.i64 0)))) none 0 false true)]) (AC.seq (AC.seq (AC.ops [(AOp.mk (some 26) (AK.mv (AX.t 6)) none 0 false true), (AOp.mk (some 27) (AK.mv (AX.t 4)) none 1 false true), (AOp.mk (some 28) (AK.bin false BinOp.neq (AX.t 26) (AX.t 27)) none 2 false true)]) (AC.cond (AX.t 28) (AC.seq (AC.ops [(AOp.mk (some 30) (AK.ld (some 2) (AX.t 1)) none 0 false true), (AOp.mk (some 31) (AK.mv (AX.t 4)) none 1 false true), (AOp.mk (some 32) (AK.mv (AX.t 6)) none 2 false true), (AOp.mk (some 33) (AK.call 23 [(AX.t 30), (AX.t 31), (AX.t 32)]) none 3 false true), (AOp.mk (some 29) (AK.mv (AX.t 33)) none 4 false true), (AOp.mk (some 34) (AK.ext (AX.t 29) 0) none 5 false true), (AOp.mk (some 35) (AK.ext (AX.t 29) 1) none 6 false true), (AOp.mk (some 8) (AK.mv (AX.t 34)) none 7 false true), (AOp.mk (some 9) (AK.mv (AX.t 35)) none 8 false true)]) (AC.seq (AC.seq (AC.ops [(AOp.mk (some 36) (AK.mv (AX.t 9)) none 0 false true), (AOp.mk (some 37) (AK.bin false BinOp.neq (AX.t 36) (AX.c (PV.val (Value.int IntKind.i64 0)))) none 1 false true)]) (AC.cond (AX.t 37) (AC.seq (AC.ops [(AOp.mk (some 2) (AK.mv (AX.c (PV.sl SK.full 0 []))) none 0 false true)]) AC.ret) AC.skip)) (AC.ops [(AOp.mk (some 38) (AK.mv (AX.t 8)) none 0 false true), (AOp.mk (some 7) (AK.mv (AX.t 38)) none 1 false true)]))) AC.skip)) (AC.ops [(AOp.mk (some 39) (AK.mv (AX.t 5)) none 0 false true), (AOp.mk (some 40) (AK.mv (AX.t 7)) none 1 false true), (AOp.mk (some 41) (AK.bslice false 3 1 1 [(PV.val (Value.int IntKind.i64 0))] [(0, (1, (AX.t 40)))]) none 2 false true), (AOp.mk (some 42) (AK.app false 3 1 8 [(PV.val (Value.int IntKind.i64 0))] (AX.t 39) (AX.t 41)) none 3 false true), (AOp.mk (some 5) (AK.mv (AX.t 42)) none 4 false true)])))) (AC.ops [(AOp.mk (some 24) (AK.mv (AX.t 6)) none 0 false true), (AOp.mk (some 25) (AK.bin false BinOp.add (AX.t 24) (AX.c (PV.val (Value.int IntKind.i64 1)))) none 1 false true), (AOp.mk (some 6) (AK.mv (AX.t 25)) none 2 false true)])))))) (AC.ops [(AOp.mk (some 43) (AK.mv (AX.t 3)) none 0 false true), (AOp.mk (some 44) (AK.mv (AX.t 5)) none 1 false true), (AOp.mk (some 45) (AK.bslice false 26 1 1 [(PV.sl SK.full 0 [])] [(0, (1, (AX.t 44)))]) none 2 false true), (AOp.mk (some 46) (AK.app false 26 1 24 [(PV.sl SK.full 0 [])] (AX.t 43) (AX.t 45)) none 3 false true), (AOp.mk (some 3) (AK.mv (AX.t 46)) none 4 false true)])))) (AC.ops [(AOp.mk (some 16) (AK.mv (AX.t 4)) none 0 false true), (AOp.mk (some 17) (AK.bin false BinOp.add (AX.t 16) (AX.c (PV.val (Value.int IntKind.i64 1)))) none 1 false true), (AOp.mk (some 4) (AK.mv (AX.t 17)) none 2 false true)])))))) (AC.seq (AC.ops [(AOp.mk (some 47) (AK.mv (AX.t 3)) none 0 false true), (AOp.mk (some 2) (AK.mv (AX.t 47)) none 1 false true)]) AC.ret))))
theorem ac47_ok : cCode Try.prog (fun _ => false) Try.f47.ntmps (Try.f47.body.getD .skip) = some ac47 := by kernel_rfl
def sizeJ (bits : List Int) (p : Nat) : Int := rndI (IntKind.i64.wrap (takeL bits p + IntKind.i64.wrap ((p : Int) * takeL bits 2))) 4
def sizesJ (r : Nat) (bits : List Int) : List Int := (List.range r).map (sizeJ bits)
theorem sizesJ_len (r : Nat) (bits : List Int) : (sizesJ r bits).length = r := by simp [sizesJ]
theorem sizesJ_ok (r : Nat) (bits : List Int) : ∀ x ∈ sizesJ r bits, 0 ≤ x ∧ x ≤ 3 := by
  intro x hx
  obtain ⟨p, -, rfl⟩ := List.mem_map.1 hx
  have := rndI_range (n := IntKind.i64.wrap (takeL bits p + IntKind.i64.wrap ((p : Int) * takeL bits 2))) (m := 4) (by omega)
  unfold sizeJ
  omega
theorem sizesJ_next (r : Nat) (bits : List Int) : ((sizesJ (r + 1) bits).map fun x => [pi x]) = ((sizesJ r bits).map fun x => [pi x]) ++ [[pi (sizeJ bits r)]] := by
  unfold sizesJ
  rw [List.range_succ, List.map_append, List.map_append]
  rfl
theorem sizes2_sem (r : Nat) (hr8 : r ≤ 1000) (bits : List Int) : Sem1 49 [pi r, pis bits] (pis (sizesJ r bits)) := by
  refine semC_of_exec' mixed Try.func49 (by kernel_rfl) (by kernel_rfl) ac49_ok 2 rfl (by decide) [(.tmp 4)] (by kernel_rfl) ?_
  intro hr C hC hI
  unfold ac49
  simp only [go_sem, Nat.reduceBEq]
  refine loop_g (α := Nat × Option Nat) (fun a => a.1 ≤ r ∧ (a.2 = none → a.1 = 0)) (fun a => r - a.1) [0, 1] (fun a => [(5, .p (slG 3 a.2 ((sizesJ a.1 bits).map fun x => [pi x]))), (6, .p (pi a.1))]) (fun _ => []) (fun a => a.2.toList) (0, none) ⟨by omega, fun _ => rfl⟩ (by simp [Wk, wkT, wkL, look, AV.lo, upS_eq, keepS_nil, keepS_cons, slG]) ?_
  rintro ⟨j, o⟩ ⟨hj, hok⟩
  replace hj : j ≤ r := hj
  replace hok : o = none → j = 0 := hok
  have hnx := sizesJ_next j bits
  have h0 : o = none → ((sizesJ j bits).map fun x => [pi x]) = [] := fun e => by rw [hok e]; rfl
  simp only [go_sem, Nat.reduceBEq]
  refine ⟨fun h5 => ?_, fun h5 => ?_⟩
  · have hj2 : j < r := by omega
    refine call_pure2 hC (Take_sem bits j) rfl (PVleL_refl _) ?_
    rintro r rfl
    simp only [go_sem, Nat.reduceBEq]
    refine call_pure2 hC (Take_sem bits 2) rfl (PVleL_refl _) ?_
    rintro r rfl
    simp only [go_sem, Nat.reduceBEq]
    refine call_pure2 hC (Round_sem ..) rfl (PVleL_refl _) ?_
    rintro r rfl
    simp only [go_sem, Nat.reduceBEq]
    refine app_slG h0 (by rw [List.length_map, sizesJ_len]; omega) (by simp) fun tk htk => ?_
    simp only [go_sem, Nat.reduceBEq, wrap_succ (k := j) (by omega)]
    refine ⟨⟨(j + 1, some tk), hj2, (fun h => by cases h)⟩, by simp only; omega, ?_⟩
    simp only [hnx]
    refine ⟨by simp [wkT, look, AV.lo, sizeJ], trivial, by simp, by simp, rfl, rfl, by simp⟩
  · have hjn : j = r := by omega
    subst hjn
    exact retQ_slG h0 rfl rfl
def kindJ (b : DBook) (i q : Nat) : Int := if q = i then 0 else sameI b i q
def kindR (b : DBook) (i j : Nat) : List Int := (List.range j).map (kindJ b i)
def kindsL (b : DBook) (i : Nat) : List (List Int) := (List.range i).map fun x => kindR b x b.horses.length
theorem kindR_next (b : DBook) (i j : Nat) : ((kindR b i (j + 1)).map fun x => [pi x]) = ((kindR b i j).map fun x => [pi x]) ++ [[pi (kindJ b i j)]] := by
  unfold kindR
  rw [List.range_succ, List.map_append, List.map_append]
  rfl
theorem kindsL_next (b : DBook) (i : Nat) : kindsL b (i + 1) = kindsL b i ++ [kindR b i b.horses.length] := by
  unfold kindsL
  rw [List.range_succ, List.map_append]
  rfl
def rowsG (e : TypeId) (os : List (Option Nat)) (rows : List (List Int)) : List (List PV) := List.zipWith (fun o r => [slG e o (r.map fun x => [pi x])]) os rows
theorem kindR_len (b : DBook) (i j : Nat) : (kindR b i j).length = j := by simp [kindR]
theorem kindsL_len (b : DBook) (i : Nat) : (kindsL b i).length = i := by simp [kindsL]
theorem kindsL_end {b : DBook} {i : Nat} : kindsL b i = (List.range i).map fun x => kindR b x b.horses.length := rfl
end Go.Proofs.Ytlghbmancjjdjaa
namespace Go.Proofs.Ytlghbmancjjdjaa
open Go.RowKit
theorem live_d {o o2 : Option Nat} {t : Nat} (h : (o.toList ++ o2.toList).Nodup) : ∀ x ∈ o.toList ++ (some t).toList, x ∈ t :: dropT o2 (o.toList ++ o2.toList) := by
  cases o2 with
  | none => exact live_a
  | some t2 => exact live_b h
theorem nodup_d {o o2 : Option Nat} {t : Nat} (ht : ¬ t ∈ o.toList ++ o2.toList) : (o.toList ++ (some t).toList).Nodup := by
  cases o with
  | none => simp
  | some x => simp at ht ⊢; exact fun e => ht.1 e.symm
theorem rowsO_add2 {e : TypeId} {ts : List Nat} {rows : List (List Int)} (h : ts.length = rows.length) (t : Nat) (r : List Int) : rowsO e (ts ++ [t]) (rows ++ [r]) = rowsO e ts rows ++ [[slG e (some t) (r.map fun x => [pi x])]] := rowsO_add h t r
set_option maxRecDepth 100000 in
theorem kinds_sem (k : SK) {b : DBook} (ho : okBook b) : Sem1 47 [.agg (bookC k b)] (.sl .sh 1 (rowsC (kindsL b b.horses.length))) := by
  obtain ⟨h1, h8, hn⟩ := okR ho
  have h6 := ho.2.1
  refine semC_of_exec' mixed Try.func47 (by kernel_rfl) (by kernel_rfl) ac47_ok 1 rfl (by decide) [(.tmp 2)] (by kernel_rfl) ?_
  intro hr C hC hI
  unfold ac47
  simp only [go_sem, Nat.reduceBEq, Nat.reduceAdd]
  refine loop_g (α := Nat × Option Nat × List Nat) (fun a => a.1 ≤ b.horses.length ∧ a.2.2.length = a.1 ∧ (a.2.1 = none → a.1 = 0)) (fun a => b.horses.length - a.1) [1] (fun a => [(3, .p (slG 26 a.2.1 (rowsO 3 a.2.2 (kindsL b a.1)))), (4, .p (pi a.1))]) (fun _ => [.cells ((bookC k b).map .p)]) (fun a => a.2.1.toList) (0, none, []) ⟨by omega, rfl, fun _ => rfl⟩ (by simp [Wk, wkT, wkL, look, AV.lo, AV.lo.loL, upS_eq, keepS_nil, keepS_cons, slG]) ?_
  rintro ⟨i, o, ts⟩ ⟨hi, hts, hok⟩
  replace hi : i ≤ b.horses.length := hi
  replace hts : ts.length = i := hts
  replace hok : o = none → i = 0 := hok
  have hkl := kindsL_len b i
  have h0 : o = none → rowsO 3 ts (kindsL b i) = [] := fun e => List.eq_nil_of_length_eq_zero (by rw [rowsO_len (by rw [hts, hkl]), hkl]; exact hok e)
  simp only [go_sem, Nat.reduceBEq, List.length_map]
  refine ⟨fun h5 => ?_, fun h5 => ?_⟩
  · have hi2 : i < b.horses.length := by omega
    obtain ⟨V, hV⟩ : ∃ V, slG 26 o (rowsO 3 ts (kindsL b i)) = V := ⟨_, rfl⟩
    rw [hV]
    refine loop_g (α := Nat × Option Nat) (fun a => a.1 ≤ b.horses.length ∧ (a.2 = none → a.1 = 0) ∧ (o.toList ++ a.2.toList).Nodup) (fun a => b.horses.length - a.1) [1, 3, 4] (fun a => [(5, .p (slG 3 a.2 ((kindR b i a.1).map fun x => [pi x]))), (6, .p (pi a.1))]) (fun _ => [.cells ((bookC k b).map .p)]) (fun a => o.toList ++ a.2.toList) (0, none) ⟨by omega, fun _ => rfl, by cases o <;> simp⟩ (by cases o <;> simp [Wk, wkT, wkL, look, AV.lo, AV.lo.loL, upS_eq, keepS_nil, keepS_cons, slG]) ?_
    rintro ⟨j, o2⟩ ⟨hj, hok2, hnd⟩
    replace hj : j ≤ b.horses.length := hj
    replace hok2 : o2 = none → j = 0 := hok2
    replace hnd : (o.toList ++ o2.toList).Nodup := hnd
    have h02 : o2 = none → ((kindR b i j).map fun x => [pi x]) = [] := fun e => by rw [hok2 e]; rfl
    have hnx := kindR_next b i j
    simp only [go_sem, Nat.reduceBEq, Nat.reduceAdd, List.length_map]
    refine ⟨fun h6 => ?_, fun h6 => ?_⟩
    · have hj2 : j < b.horses.length := by omega
      refine ⟨fun h7 => ?_, fun h7 => ?_⟩
      · have hne : ¬ j = i := by omega
        have hx : kindJ b i j = sameI b i j := if_neg hne
        rw [hx] at hnx
        refine call_pure2 hC (Same_ok k ho hi2 hj2 (fun e => hne e.symm)) rfl (PVleL_refl _) ?_
        rintro r rfl
        simp only [go_sem, Nat.reduceBEq, decide_false, not_true_eq_false]
        refine app_slG h02 (by rw [List.length_map, kindR_len]; omega) (fun t ht => List.mem_append_right _ ht) fun tk htk => ?_
        simp only [go_sem, Nat.reduceBEq, wrap_succ (k := j) (by omega)]
        refine ⟨⟨(j + 1, some tk), hj2, (fun h => by cases h), nodup_d htk⟩, by simp only; omega, ?_⟩
        simp only [hnx]
        exact ⟨by simp [wkT, look, AV.lo], by simp [wkL, AV.lo, AV.lo.loL], live_d hnd, nodup_d htk, rfl, rfl, by simp⟩
      · have he : j = i := by omega
        have hx : kindJ b i j = 0 := if_pos he
        rw [hx] at hnx
        refine app_slG h02 (by rw [List.length_map, kindR_len]; omega) (fun t ht => List.mem_append_right _ ht) fun tk htk => ?_
        simp only [go_sem, Nat.reduceBEq, wrap_succ (k := j) (by omega)]
        refine ⟨⟨(j + 1, some tk), hj2, (fun h => by cases h), nodup_d htk⟩, by simp only; omega, ?_⟩
        simp only [hnx]
        exact ⟨by simp [wkT, look, AV.lo], by simp [wkL, AV.lo, AV.lo.loL], live_d hnd, nodup_d htk, rfl, rfl, by simp⟩
    · have hjn : j = b.horses.length := by omega
      subst hjn
      cases o2 with
      | none => exact absurd (hok2 rfl) (by omega)
      | some tk =>
        simp only [slG]
        simp only [go_sem, Nat.reduceBEq]
        rw [← hV]
        refine app_slG h0 (by rw [rowsO_len (by rw [hts, hkl]), hkl]; omega) (fun t ht => List.mem_append_left _ ht) fun t ht => ?_
        simp only [go_sem, Nat.reduceBEq, wrap_succ (k := i) (by omega)]
        refine ⟨⟨(i + 1, some t, ts ++ [tk]), hi2, by simp [hts], (fun h => by cases h)⟩, by simp only; omega, ?_⟩
        have hn1 := kindsL_next b i
        simp only [hn1, rowsO_add2 (show ts.length = (kindsL b i).length by rw [hts, hkl])]
        exact ⟨by simp [wkT, look, AV.lo, slG], by simp [wkL, AV.lo, AV.lo.loL], by simp, by simp, rfl, rfl, by simp⟩
  · have hin : i = b.horses.length := by omega
    subst hin
    cases o with
    | none => exact absurd (hok rfl) (by omega)
    | some t => exact retQ_le rfl (PVle.rows (rowsO_le _ _ _ (by rw [hts, hkl]))) rfl
end Go.Proofs.Ytlghbmancjjdjaa
namespace Go.Proofs.Ytlghbmancjjdjaa
open Go.RowKit
def ac8 : AC := (AC.seq (AC.ops [(AOp.mk (some 2) (AK.box 2 (AX.t 0)) none 0 false true), (AOp.mk (some 3) (AK.box 2 (AX.t 1)) none 1 false true), (AOp.mk (some 4) (AK.mv (AX.c (PV.val (Value.bool false)))) none 2 false true)]) (AC.seq (AC.ops [(AOp.mk (some 15) (AK.ld (some 2) (AX.t 2)) none 0 false true), (AOp.mk (some 16) (AK.call 30 [(AX.t 15)]) none 1 false true), (AOp.mk (some 14) (AK.mv (AX.t 16)) none 2 false true), (AOp.mk (some 17) (AK.ext (AX.t 14) 0) none 3 false true), (AOp.mk (some 18) (AK.ext (AX.t 14) 1) none 4 false true), (AOp.mk (some 19) (AK.ext (AX.t 14) 2) none 5 false true), (AOp.mk (some 5) (AK.mv (AX.t 17)) none 6 false true), (AOp.mk (some 6) (AK.mv (AX.t 18)) none 7 false true), (AOp.mk (some 7) (AK.mv (AX.t 19)) none 8 false true)]) (AC.seq (AC.ops [(AOp.mk (some 21) (AK.ld (some 2) (AX.t 2)) none 0 false true), (AOp.mk (some 22) (AK.call 32 [(AX.t 21)]) none 1 false true), (AOp.mk (some 20) (AK.mv (AX.t 22)) none 2 false true), (AOp.mk (some 23) (AK.ext (AX.t 20) 0) none 3 false true), (AOp.mk (some 24) (AK.ext (AX.t 20) 1) none 4 false true), (AOp.mk (some 25) (AK.ext (AX.t 20) 2) none 5 false true), (AOp.mk (some 8) (AK.mv (AX.t 23)) none 6 false true), (AOp.mk (some 9) (AK.mv (AX.t 24)) none 7 false true), (AOp.mk (some 10) (AK.mv (AX.t 25)) none 8 false true)]) (AC.seq (AC.seq (AC.ops [(AOp.mk (some 26) (AK.ld (some 2) (AX.t 2)) none 0 false true), (AOp.mk (some 27) (AK.call 38 [(AX.t 26)]) none 1 false true), (AOp.mk (some 28) (AK.un UnOp.not (AX.t 27)) none 2 false true)]) (AC.cond (AX.t 28) (AC.seq (AC.ops [(AOp.mk (some 29) (AK.mv (AX.t 7)) none 0 false true), (AOp.mk (some 30) (AK.bin false BinOp.eql (AX.t 29) (AX.c (PV.val (Value.int IntKind.i64 70)))) none 1 false true), (AOp.mk (some 31) (AK.mv (AX.t 30)) none 2 false true), (AOp.mk (some 32) (AK.mv (AX.t 10)) (some (31, true)) 3 false true), (AOp.mk (some 33) (AK.mv (AX.t 7)) (some (31, true)) 4 false true), (AOp.mk (some 34) (AK.bin false BinOp.eql (AX.t 32) (AX.t 33)) (some (31, true)) 5 false true), (AOp.mk (some 35) (AK.pick (AX.t 31) (AX.t 34) (AX.c (PV.val (Value.bool false)))) none 6 false true), (AOp.mk (some 36) (AK.mv (AX.t 35)) none 7 false true), (AOp.mk (some 37) (AK.mv (AX.t 5)) (some (36, true)) 8 false true), (AOp.mk (some 38) (AK.mv (AX.t 6)) (some (36, true)) 9 false true), (AOp.mk (some 39) (AK.bin false BinOp.add (AX.t 37) (AX.t 38)) (some (36, true)) 10 false true), (AOp.mk (some 40) (AK.mv (AX.t 8)) (some (36, true)) 11 false true), (AOp.mk (some 41) (AK.bin false BinOp.add (AX.t 39) (AX.t 40)) (some (36, true)) 12 false true), (AOp.mk (some 42) (AK.mv (AX.t 9)) (some (36, true)) 13 false true), (AOp.mk (some 43) (AK.bin false BinOp.add (AX.t 41) (AX.t 42)) (some (36, true)) 14 false true), (AOp.mk (some 44) (AK.bin false BinOp.eql (AX.t 43) (AX.c (PV.val (Value.int IntKind.i64 0)))) (some (36, true)) 15 false true), (AOp.mk (some 45) (AK.pick (AX.t 36) (AX.t 44) (AX.c (PV.val (Value.bool false)))) none 16 false true), (AOp.mk (some 46) (AK.mv (AX.t 45)) none 17 false true), (AOp.mk (some 47) (AK.call 25 []) (some (46, true)) 18 false true), (AOp.mk (some 48) (AK.pick (AX.t 46) (AX.t 47) (AX.c (PV.val (Value.bool false)))) none 19 false true), (AOp.mk (some 4) (AK.mv (AX.t 48)) none 20 false true)]) AC.ret) AC.skip)) (AC.seq (AC.seq (AC.ops [(AOp.mk (some 49) (AK.mv (AX.t 7)) none 0 false true), (AOp.mk (some 50) (AK.bin false BinOp.neq (AX.t 49) (AX.c (PV.val (Value.int IntKind.i64 0)))) none 1 false true), (AOp.mk (some 51) (AK.mv (AX.t 50)) none 2 false true), (AOp.mk (some 52) (AK.mv (AX.t 7)) (some (51, true)) 3 false true), (AOp.mk (some 53) (AK.bin false BinOp.neq (AX.t 52) (AX.c (PV.val (Value.int IntKind.i64 4)))) (some (51, true)) 4 false true), (AOp.mk (some 54) (AK.mv (AX.t 53)) (some (51, true)) 5 false true), (AOp.mk (some 55) (AK.mv (AX.t 5)) (some (54, false)) 6 false true), (AOp.mk (some 56) (AK.mv (AX.t 6)) (some (54, false)) 7 false true), (AOp.mk (some 57) (AK.bin false BinOp.add (AX.t 55) (AX.t 56)) (some (54, false)) 8 false true), (AOp.mk (some 58) (AK.bin false BinOp.neq (AX.t 57) (AX.c (PV.val (Value.int IntKind.i64 0)))) (some (54, false)) 9 false true), (AOp.mk (some 59) (AK.pick (AX.t 54) (AX.c (PV.val (Value.bool true))) (AX.t 58)) (some (51, true)) 10 false true), (AOp.mk (some 60) (AK.mv (AX.t 59)) (some (51, true)) 11 false true), (AOp.mk (some 61) (AK.mv (AX.t 10)) (some (60, false)) 12 false true), (AOp.mk (some 62) (AK.mv (AX.t 7)) (some (60, false)) 13 false true), (AOp.mk (some 63) (AK.bin false BinOp.neq (AX.t 61) (AX.t 62)) (some (60, false)) 14 false true), (AOp.mk (some 64) (AK.pick (AX.t 60) (AX.c (PV.val (Value.bool true))) (AX.t 63)) (some (51, true)) 15 false true), (AOp.mk (some 65) (AK.pick (AX.t 51) (AX.t 64) (AX.c (PV.val (Value.bool false)))) none 16 false true), (AOp.mk (some 66) (AK.mv (AX.t 65)) none 17 false true), (AOp.mk (some 67) (AK.mv (AX.t 10)) (some (66, false)) 18 false true), (AOp.mk (some 68) (AK.bin false BinOp.neq (AX.t 67) (AX.c (PV.val (Value.int IntKind.i64 0)))) (some (66, false)) 19 false true), (AOp.mk (some 69) (AK.mv (AX.t 68)) (some (66, false)) 20 false true), (AOp.mk (some 70) (AK.mv (AX.t 10)) (some (69, true)) 21 false true), (AOp.mk (some 71) (AK.bin false BinOp.neq (AX.t 70) (AX.c (PV.val (Value.int IntKind.i64 4)))) (some (69, true)) 22 false true), (AOp.mk (some 72) (AK.mv (AX.t 71)) (some (69, true)) 23 false true), (AOp.mk (some 73) (AK.mv (AX.t 8)) (some (72, false)) 24 false true), (AOp.mk (some 74) (AK.mv (AX.t 9)) (some (72, false)) 25 false true), (AOp.mk (some 75) (AK.bin false BinOp.add (AX.t 73) (AX.t 74)) (some (72, false)) 26 false true), (AOp.mk (some 76) (AK.bin false BinOp.neq (AX.t 75) (AX.c (PV.val (Value.int IntKind.i64 0)))) (some (72, false)) 27 false true), (AOp.mk (some 77) (AK.pick (AX.t 72) (AX.c (PV.val (Value.bool true))) (AX.t 76)) (some (69, true)) 28 false true), (AOp.mk (some 78) (AK.pick (AX.t 69) (AX.t 77) (AX.c (PV.val (Value.bool false)))) (some (66, false)) 29 false true), (AOp.mk (some 79) (AK.pick (AX.t 66) (AX.c (PV.val (Value.bool true))) (AX.t 78)) none 30 false true)]) (AC.cond (AX.t 79) (AC.seq (AC.ops [(AOp.mk (some 4) (AK.mv (AX.c (PV.val (Value.bool false)))) none 0 false true)]) AC.ret) AC.skip)) (AC.seq (AC.ops [(AOp.mk (some 80) (AK.ld (some 2) (AX.t 2)) none 0 false true), (AOp.mk (some 81) (AK.call 47 [(AX.t 80)]) none 1 false true), (AOp.mk (some 11) (AK.mv (AX.t 81)) none 2 false true)]) (AC.seq (AC.seq (AC.ops [(AOp.mk (some 82) (AK.mv (AX.t 11)) none 0 false true), (AOp.mk (some 83) (AK.len (AX.t 82)) none 1 false true), (AOp.mk (some 84) (AK.fadr 1 (AX.t 2)) none 2 false true), (AOp.mk (some 85) (AK.ld none (AX.t 84)) none 3 false true), (AOp.mk (some 86) (AK.len (AX.t 85)) none 4 false true), (AOp.mk (some 87) (AK.bin false BinOp.neq (AX.t 83) (AX.t 86)) none 5 false true)]) (AC.cond (AX.t 87) (AC.seq (AC.ops [(AOp.mk (some 4) (AK.mv (AX.c (PV.val (Value.bool false)))) none 0 false true)]) AC.ret) AC.skip)) (AC.seq (AC.seq (AC.ops [(AOp.mk (some 88) (AK.mv (AX.t 7)) none 0 false true), (AOp.mk (some 89) (AK.bin false BinOp.eql (AX.t 88) (AX.c (PV.val (Value.int IntKind.i64 0)))) none 1 false true), (AOp.mk (some 90) (AK.mv (AX.t 89)) none 2 false true), (AOp.mk (some 91) (AK.mv (AX.t 5)) (some (90, true)) 3 false true), (AOp.mk (some 92) (AK.mv (AX.t 6)) (some (90, true)) 4 false true), (AOp.mk (some 93) (AK.bin false BinOp.sub (AX.t 92) (AX.c (PV.val (Value.int IntKind.i64 1)))) (some (90, true)) 5 false true), (AOp.mk (some 94) (AK.call 45 [(AX.t 91), (AX.c (PV.val (Value.int IntKind.i64 0))), (AX.t 93)]) (some (90, true)) 6 false true), (AOp.mk (some 95) (AK.un UnOp.not (AX.t 94)) (some (90, true)) 7 false true), (AOp.mk (some 96) (AK.mv (AX.t 95)) (some (90, true)) 8 false true), (AOp.mk (some 97) (AK.mv (AX.t 6)) (some (96, false)) 9 false true), (AOp.mk (some 98) (AK.mv (AX.t 11)) (some (96, false)) 10 false true), (AOp.mk (some 99) (AK.len (AX.t 98)) (some (96, false)) 11 false true), (AOp.mk (some 100) (AK.bin false BinOp.geq (AX.t 97) (AX.t 99)) (some (96, false)) 12 false true), (AOp.mk (some 101) (AK.pick (AX.t 96) (AX.c (PV.val (Value.bool true))) (AX.t 100)) (some (90, true)) 13 false true), (AOp.mk (some 102) (AK.mv (AX.t 101)) (some (90, true)) 14 false true), (AOp.mk (some 103) (AK.mv (AX.t 11)) (some (102, false)) 15 false true), (AOp.mk (some 104) (AK.mv (AX.t 5)) (some (102, false)) 16 false true), (AOp.mk (some 105) (AK.iadrS 1 (AX.t 103) (AX.t 104)) (some (102, false)) 17 false true), (AOp.mk (some 106) (AK.ld none (AX.t 105)) (some (102, false)) 18 false true), (AOp.mk (some 107) (AK.mv (AX.t 6)) (some (102, false)) 19 false true), (AOp.mk (some 108) (AK.iadrS 1 (AX.t 106) (AX.t 107)) (some (102, false)) 20 false true), (AOp.mk (some 109) (AK.ld none (AX.t 108)) (some (102, false)) 21 false true), (AOp.mk (some 110) (AK.bin false BinOp.lss (AX.t 109) (AX.c (PV.val (Value.int IntKind.i64 1)))) (some (102, false)) 22 false true), (AOp.mk (some 111) (AK.pick (AX.t 102) (AX.c (PV.val (Value.bool true))) (AX.t 110)) (some (90, true)) 23 false true), (AOp.mk (some 112) (AK.pick (AX.t 90) (AX.t 111) (AX.c (PV.val (Value.bool false)))) none 24 false true), (AOp.mk (some 113) (AK.mv (AX.t 112)) none 25 false true), (AOp.mk (some 114) (AK.mv (AX.t 10)) (some (113, false)) 26 false true), (AOp.mk (some 115) (AK.bin false BinOp.eql (AX.t 114) (AX.c (PV.val (Value.int IntKind.i64 0)))) (some (113, false)) 27 false true), (AOp.mk (some 116) (AK.mv (AX.t 115)) (some (113, false)) 28 false true), (AOp.mk (some 117) (AK.mv (AX.t 8)) (some (116, true)) 29 false true), (AOp.mk (some 118) (AK.mv (AX.t 9)) (some (116, true)) 30 false true), (AOp.mk (some 119) (AK.bin false BinOp.sub (AX.t 118) (AX.c (PV.val (Value.int IntKind.i64 1)))) (some (116, true)) 31 false true), (AOp.mk (some 120) (AK.call 45 [(AX.t 117), (AX.c (PV.val (Value.int IntKind.i64 0))), (AX.t 119)]) (some (116, true)) 32 false true), (AOp.mk (some 121) (AK.un UnOp.not (AX.t 120)) (some (116, true)) 33 false true), (AOp.mk (some 122) (AK.mv (AX.t 121)) (some (116, true)) 34 false true), (AOp.mk (some 123) (AK.mv (AX.t 9)) (some (122, false)) 35 false true), (AOp.mk (some 124) (AK.mv (AX.t 11)) (some (122, false)) 36 false true), (AOp.mk (some 125) (AK.len (AX.t 124)) (some (122, false)) 37 false true), (AOp.mk (some 126) (AK.bin false BinOp.geq (AX.t 123) (AX.t 125)) (some (122, false)) 38 false true), (AOp.mk (some 127) (AK.pick (AX.t 122) (AX.c (PV.val (Value.bool true))) (AX.t 126)) (some (116, true)) 39 false true), (AOp.mk (some 128) (AK.mv (AX.t 127)) (some (116, true)) 40 false true), (AOp.mk (some 129) (AK.mv (AX.t 11)) (some (128, false)) 41 false true), (AOp.mk (some 130) (AK.mv (AX.t 8)) (some (128, false)) 42 false true), (AOp.mk (some 131) (AK.iadrS 1 (AX.t 129) (AX.t 130)) (some (128, false)) 43 false true), (AOp.mk (some 132) (AK.ld none (AX.t 131)) (some (128, false)) 44 false true), (AOp.mk (some 133) (AK.mv (AX.t 9)) (some (128, false)) 45 false true), (AOp.mk (some 134) (AK.iadrS 1 (AX.t 132) (AX.t 133)) (some (128, false)) 46 false true), (AOp.mk (some 135) (AK.ld none (AX.t 134)) (some (128, false)) 47 false true), (AOp.mk (some 136) (AK.bin false BinOp.neq (AX.t 135) (AX.c (PV.val (Value.int IntKind.i64 2)))) (some (128, false)) 48 false true), (AOp.mk (some 137) (AK.pick (AX.t 128) (AX.c (PV.val (Value.bool true))) (AX.t 136)) (some (116, true)) 49 false true), (AOp.mk (some 138) (AK.pick (AX.t 116) (AX.t 137) (AX.c (PV.val (Value.bool false)))) (some (113, false)) 50 false true), (AOp.mk (some 139) (AK.pick (AX.t 113) (AX.c (PV.val (Value.bool true))) (AX.t 138)) none 51 false true)]) (AC.cond (AX.t 139) (AC.seq (AC.ops [(AOp.mk (some 4) (AK.mv (AX.c (PV.val (Value.bool false)))) none 0 false true)]) AC.ret) AC.skip)) (AC.seq (AC.seq (AC.ops [(AOp.mk (some 140) (AK.mv (AX.t 11)) none 0 false true), (AOp.mk (some 141) (AK.len (AX.t 140)) none 1 false true), (AOp.mk (some 142) (AK.bin false BinOp.lss (AX.t 141) (AX.c (PV.val (Value.int IntKind.i64 2)))) none 2 false true)]) (AC.cond (AX.t 142) (AC.seq (AC.ops [(AOp.mk (some 143) (AK.mv (AX.t 7)) none 0 false true), (AOp.mk (some 144) (AK.bin false BinOp.eql (AX.t 143) (AX.c (PV.val (Value.int IntKind.i64 4)))) none 1 false true), (AOp.mk (some 145) (AK.mv (AX.t 144)) none 2 false true), (AOp.mk (some 146) (AK.call 25 []) (some (145, true)) 3 false true), (AOp.mk (some 147) (AK.pick (AX.t 145) (AX.t 146) (AX.c (PV.val (Value.bool false)))) none 4 false true), (AOp.mk (some 4) (AK.mv (AX.t 147)) none 5 false true)]) AC.ret) AC.skip)) (AC.seq (AC.ops [(AOp.mk (some 149) (AK.ld (some 2) (AX.t 2)) none 0 false true), (AOp.mk (some 150) (AK.iadrA 1 2 (AX.t 3) (AX.c (PV.val (Value.int IntKind.i64 0)))) none 1 false true), (AOp.mk (some 151) (AK.ld none (AX.t 150)) none 2 false true), (AOp.mk (some 152) (AK.iadrA 1 2 (AX.t 3) (AX.c (PV.val (Value.int IntKind.i64 1)))) none 3 false true), (AOp.mk (some 153) (AK.ld none (AX.t 152)) none 4 false true), (AOp.mk (some 154) (AK.call 44 [(AX.t 149), (AX.t 151), (AX.t 153)]) none 5 false true), (AOp.mk (some 148) (AK.mv (AX.t 154)) none 6 false true), (AOp.mk (some 155) (AK.ext (AX.t 148) 0) none 7 false true), (AOp.mk (some 156) (AK.ext (AX.t 148) 1) none 8 false true), (AOp.mk (some 12) (AK.mv (AX.t 155)) none 9 false true), (AOp.mk (some 13) (AK.mv (AX.t 156)) none 10 false true)]) (AC.seq (AC.ops [(AOp.mk (some 157) (AK.mv (AX.t 12)) none 0 false true), (AOp.mk (some 158) (AK.mv (AX.t 13)) none 1 false true), (AOp.mk (some 159) (AK.mx false [(AX.t 157), (AX.t 158)]) none 2 false true), (AOp.mk (some 160) (AK.mv (AX.t 12)) none 3 false true), (AOp.mk (some 161) (AK.mv (AX.t 13)) none 4 false true), (AOp.mk (some 162) (AK.mx true [(AX.t 160), (AX.t 161)]) none 5 false true), (AOp.mk (some 12) (AK.mv (AX.t 159)) none 6 false true), (AOp.mk (some 13) (AK.mv (AX.t 162)) none 7 false true)]) (AC.seq (AC.seq (AC.ops [(AOp.mk (some 163) (AK.mv (AX.t 11)) none 0 false true), (AOp.mk (some 164) (AK.mv (AX.t 12)) none 1 false true), (AOp.mk (some 165) (AK.iadrS 1 (AX.t 163) (AX.t 164)) none 2 false true), (AOp.mk (some 166) (AK.ld none (AX.t 165)) none 3 false true), (AOp.mk (some 167) (AK.mv (AX.t 13)) none 4 false true), (AOp.mk (some 168) (AK.iadrS 1 (AX.t 166) (AX.t 167)) none 5 false true), (AOp.mk (some 169) (AK.ld none (AX.t 168)) none 6 false true), (AOp.mk (some 170) (AK.bin false BinOp.gtr (AX.t 169) (AX.c (PV.val (Value.int IntKind.i64 0)))) none 7 false true), (AOp.mk (some 171) (AK.mv (AX.t 170)) none 8 false true), (AOp.mk (some 172) (AK.mv (AX.t 7)) (some (171, true)) 9 false true), (AOp.mk (some 173) (AK.bin false BinOp.neq (AX.t 172) (AX.c (PV.val (Value.int IntKind.i64 0)))) (some (171, true)) 10 false true), (AOp.mk (some 174) (AK.mv (AX.t 173)) (some (171, true)) 11 false true), (AOp.mk (some 175) (AK.mv (AX.t 5)) (some (174, false)) 12 false true), (AOp.mk (some 176) (AK.mv (AX.t 12)) (some (174, false)) 13 false true), (AOp.mk (some 177) (AK.bin false BinOp.gtr (AX.t 175) (AX.t 176)) (some (174, false)) 14 false true), (AOp.mk (some 178) (AK.pick (AX.t 174) (AX.c (PV.val (Value.bool true))) (AX.t 177)) (some (171, true)) 15 false true), (AOp.mk (some 179) (AK.mv (AX.t 178)) (some (171, true)) 16 false true), (AOp.mk (some 180) (AK.mv (AX.t 5)) (some (179, false)) 17 false true), (AOp.mk (some 181) (AK.mv (AX.t 12)) (some (179, false)) 18 false true), (AOp.mk (some 182) (AK.bin false BinOp.eql (AX.t 180) (AX.t 181)) (some (179, false)) 19 false true), (AOp.mk (some 183) (AK.mv (AX.t 182)) (some (179, false)) 20 false true), (AOp.mk (some 184) (AK.mv (AX.t 6)) (some (183, true)) 21 false true), (AOp.mk (some 185) (AK.mv (AX.t 13)) (some (183, true)) 22 false true), (AOp.mk (some 186) (AK.bin false BinOp.gtr (AX.t 184) (AX.t 185)) (some (183, true)) 23 false true), (AOp.mk (some 187) (AK.pick (AX.t 183) (AX.t 186) (AX.c (PV.val (Value.bool false)))) (some (179, false)) 24 false true), (AOp.mk (some 188) (AK.pick (AX.t 179) (AX.c (PV.val (Value.bool true))) (AX.t 187)) (some (171, true)) 25 false true), (AOp.mk (some 189) (AK.pick (AX.t 171) (AX.t 188) (AX.c (PV.val (Value.bool false)))) none 26 false true), (AOp.mk (some 190) (AK.mv (AX.t 189)) none 27 false true), (AOp.mk (some 191) (AK.mv (AX.t 11)) (some (190, false)) 28 false true), (AOp.mk (some 192) (AK.mv (AX.t 12)) (some (190, false)) 29 false true), (AOp.mk (some 193) (AK.iadrS 1 (AX.t 191) (AX.t 192)) (some (190, false)) 30 false true), (AOp.mk (some 194) (AK.ld none (AX.t 193)) (some (190, false)) 31 false true), (AOp.mk (some 195) (AK.mv (AX.t 13)) (some (190, false)) 32 false true), (AOp.mk (some 196) (AK.iadrS 1 (AX.t 194) (AX.t 195)) (some (190, false)) 33 false true), (AOp.mk (some 197) (AK.ld none (AX.t 196)) (some (190, false)) 34 false true), (AOp.mk (some 198) (AK.bin false BinOp.eql (AX.t 197) (AX.c (PV.val (Value.int IntKind.i64 2)))) (some (190, false)) 35 false true), (AOp.mk (some 199) (AK.mv (AX.t 198)) (some (190, false)) 36 false true), (AOp.mk (some 200) (AK.mv (AX.t 10)) (some (199, true)) 37 false true), (AOp.mk (some 201) (AK.bin false BinOp.neq (AX.t 200) (AX.c (PV.val (Value.int IntKind.i64 0)))) (some (199, true)) 38 false true), (AOp.mk (some 202) (AK.mv (AX.t 201)) (some (199, true)) 39 false true), (AOp.mk (some 203) (AK.mv (AX.t 8)) (some (202, false)) 40 false true), (AOp.mk (some 204) (AK.mv (AX.t 12)) (some (202, false)) 41 false true), (AOp.mk (some 205) (AK.bin false BinOp.gtr (AX.t 203) (AX.t 204)) (some (202, false)) 42 false true), (AOp.mk (some 206) (AK.pick (AX.t 202) (AX.c (PV.val (Value.bool true))) (AX.t 205)) (some (199, true)) 43 false true), (AOp.mk (some 207) (AK.mv (AX.t 206)) (some (199, true)) 44 false true), (AOp.mk (some 208) (AK.mv (AX.t 8)) (some (207, false)) 45 false true), (AOp.mk (some 209) (AK.mv (AX.t 12)) (some (207, false)) 46 false true), (AOp.mk (some 210) (AK.bin false BinOp.eql (AX.t 208) (AX.t 209)) (some (207, false)) 47 false true), (AOp.mk (some 211) (AK.mv (AX.t 210)) (some (207, false)) 48 false true), (AOp.mk (some 212) (AK.mv (AX.t 9)) (some (211, true)) 49 false true), (AOp.mk (some 213) (AK.mv (AX.t 13)) (some (211, true)) 50 false true), (AOp.mk (some 214) (AK.bin false BinOp.gtr (AX.t 212) (AX.t 213)) (some (211, true)) 51 false true), (AOp.mk (some 215) (AK.pick (AX.t 211) (AX.t 214) (AX.c (PV.val (Value.bool false)))) (some (207, false)) 52 false true), (AOp.mk (some 216) (AK.pick (AX.t 207) (AX.c (PV.val (Value.bool true))) (AX.t 215)) (some (199, true)) 53 false true), (AOp.mk (some 217) (AK.pick (AX.t 199) (AX.t 216) (AX.c (PV.val (Value.bool false)))) (some (190, false)) 54 false true), (AOp.mk (some 218) (AK.pick (AX.t 190) (AX.c (PV.val (Value.bool true))) (AX.t 217)) none 55 false true)]) (AC.cond (AX.t 218) (AC.seq (AC.ops [(AOp.mk (some 4) (AK.mv (AX.c (PV.val (Value.bool false)))) none 0 false true)]) AC.ret) AC.skip)) (AC.seq (AC.ops [(AOp.mk (some 219) (AK.call 25 []) none 0 false true), (AOp.mk (some 4) (AK.mv (AX.t 219)) none 1 false true)]) AC.ret)))))))))))))
theorem ac8_ok : cCode Try.prog (fun _ => false) Try.f8.ntmps (Try.f8.body.getD .skip) = some ac8 := by kernel_rfl
theorem Clash_bad (k : SK) {b : DBook} (ho : ¬ okBook b) : Sem1 30 [.agg (bookC k b)] (.tup [pi 0, pi 0, pi 70]) :=
  (Clash_sem k b).mono fun _ e => e.trans (by unfold twoE; rw [if_neg ho])
theorem Sure_bad (k : SK) {b : DBook} (ho : ¬ okBook b) : Sem1 32 [.agg (bookC k b)] (.tup [pi 0, pi 0, pi 70]) :=
  (Sure_sem k b).mono fun _ e => e.trans (by unfold twoE; rw [if_neg ho])
/-- What is told of the first two. -/
structure FirstT (b : DBook) (P : Nat → Nat → Bool) (x y e : Int) : Prop where
  none : e = 4 → x = 0 ∧ y = 0 ∧ ∀ p q, p < q → q < b.horses.length → P p q = false
  some : e = 0 → ∃ i k : Nat, x = i ∧ y = k ∧ i < k ∧ k < b.horses.length ∧ P i k = true ∧ ∀ p q, p < q → q < b.horses.length → (p < i ∨ p = i ∧ q < k) → P p q = false
  one : e = 4 ∨ e = 0
theorem twoE_first {b : DBook} (ho : okBook b) (P : Nat → Nat → Bool) : ∃ x y e, twoE b ((listsL b.horses.length 2).find? (pairP P)) = .tup [pi x, pi y, pi e] ∧ FirstT b P x y e := by
  unfold twoE
  rw [if_pos ho]
  cases h : (listsL b.horses.length 2).find? (pairP P) with
  | none => exact ⟨0, 0, 4, rfl, fun _ => ⟨rfl, rfl, fun p q hp hq => pair_none h hp hq⟩, fun h => by omega, .inl rfl⟩
  | some l =>
    obtain ⟨i, k, rfl, h1, h2, h3, h4⟩ := pair_some h
    exact ⟨i, k, 0, rfl, fun h => by omega, fun _ => ⟨i, k, rfl, rfl, h1, h2, h3, h4⟩, .inr rfl⟩
theorem kinds_at {b : DBook} {i : Nat} (h : i < b.horses.length) : iadrS' 1 (.p (.sl .sh 1 (rowsC (kindsL b b.horses.length)))) (.p (pi i)) = some (.p (.ptr [pis (kindR b i b.horses.length)] 0)) := by
  have hl : i < (kindsL b b.horses.length).length := by rw [kindsL_len]; exact h
  have e := iadr_map (f := fun h => [pis h]) (kd := .sh) (sz := 1) hl
  rw [e]
  simp [kindsL]
theorem kind_at {b : DBook} {i q : Nat} (hq : q < b.horses.length) (hne : q ≠ i) : iadrS' 1 (.p (pis (kindR b i b.horses.length))) (.p (pi q)) = some (.p (.ptr [pi (sameI b i q)] 0)) := by
  have hl : q < (kindR b i b.horses.length).length := by rw [kindR_len]; exact hq
  rw [iadr_pis hl]
  simp [kindR, kindJ, hne]
theorem min_max {h o n : Nat} (hh : h < n) (hoo : o < n) (hne : h ≠ o) : ∃ p q : Nat, maxI false (h : Int) o = p ∧ maxI true (h : Int) o = q ∧ p < q ∧ q < n := by
  unfold maxI
  simp only [if_true, Bool.false_eq_true, if_false]
  rcases Nat.lt_or_ge h o with hlt | hge
  · refine ⟨h, o, ?_, ?_, hlt, hoo⟩
    · split <;> omega
    · split <;> omega
  · refine ⟨o, h, ?_, ?_, by omega, hh⟩
    · split <;> omega
    · split <;> omega
set_option maxRecDepth 100000 in
set_option maxHeartbeats 2000000 in
theorem Clash_law (k : SK) (b : DBook) (n m : Int) : Sem1 8 [.agg (bookC k b), .agg [pi n, pi m]] (pb true) := by
  by_cases ho : okBook b
  rotate_left
  · refine semC_of_exec' mixed Try.func8 (by kernel_rfl) (by kernel_rfl) ac8_ok 2 rfl (by decide) [(.tmp 4)] (by kernel_rfl) ?_
    intro hr C hC hI
    unfold ac8
    simp only [go_sem, Nat.reduceBEq, Nat.reduceAdd]
    refine call_pure2 hC (Clash_bad k ho) rfl (PVleL_refl _) ?_
    rintro r rfl
    simp only [go_sem, Nat.reduceBEq, Nat.reduceAdd]
    refine call_pure2 hC (Sure_bad k ho) rfl (PVleL_refl _) ?_
    rintro r rfl
    simp only [go_sem, Nat.reduceBEq, Nat.reduceAdd]
    refine call_pure2 hC (sound_sem k b) rfl (PVleL_refl _) ?_
    rintro r rfl
    simp only [go_sem, Nat.reduceBEq, decide_true, not_false_eq_true, Int.reduceEq, show IntKind.i64.wrap (0 + 0) = 0 from rfl]
    refine ⟨fun _ => ?_, fun h => absurd h ho⟩
    refine call_pure2 hC (pressed_sem) rfl (PVleL_refl _) ?_
    rintro r rfl
    simp only [go_sem, Nat.reduceBEq]
    exact retQ_one rfl rfl
  obtain ⟨h1, h8, hn⟩ := okR ho
  have h6 := ho.2.1
  obtain ⟨x, y, e, hce, hc⟩ := twoE_first ho fun i j => decide (sameI b i j ≠ 0)
  obtain ⟨x', y', e', hse, hs⟩ := twoE_first ho fun i j => decide (sameI b i j = 2)
  have hC1 := (Clash_sem k b).mono fun _ e => e.trans hce
  have hS1 := (Sure_sem k b).mono fun _ e => e.trans hse
  have hrg := fun p q => same_range ho p q
  have w00 : IntKind.i64.wrap (0 + 0) = 0 := rfl
  have hkl : (kindsL b b.horses.length).length = b.horses.length := kindsL_len ..
  have hks := kinds_sem k ho
  rcases hc.one with rfl | rfl
  · obtain ⟨rfl, rfl, hcn⟩ := hc.none rfl
    rcases hs.one with rfl | rfl
    rotate_left
    · obtain ⟨i, q, -, -, h3, h4, h5, -⟩ := hs.some rfl
      have := hcn i q h3 h4
      simp at this h5
      omega
    obtain ⟨rfl, rfl, hsn⟩ := hs.none rfl
    refine semC_of_exec' mixed Try.func8 (by kernel_rfl) (by kernel_rfl) ac8_ok 2 rfl (by decide) [(.tmp 4)] (by kernel_rfl) ?_
    intro hr C hC hI
    unfold ac8
    simp only [go_sem, Nat.reduceBEq, Nat.reduceAdd]
    refine call_pure2 hC (hC1) rfl (PVleL_refl _) ?_
    rintro r rfl
    simp only [go_sem, Nat.reduceBEq, Nat.reduceAdd]
    refine call_pure2 hC (hS1) rfl (PVleL_refl _) ?_
    rintro r rfl
    simp only [go_sem, Nat.reduceBEq, Nat.reduceAdd]
    refine call_pure2 hC (sound_sem k b) rfl (PVleL_refl _) ?_
    rintro r rfl
    simp only [go_sem, Nat.reduceBEq, Nat.reduceAdd, decide_true, decide_false, not_true_eq_false, not_false_eq_true, Int.reduceEq, w00]
    refine ⟨fun h => absurd ho h, fun _ => ?_⟩
    refine call_pure2 hC (hks) rfl (PVleL_refl _) ?_
    rintro r rfl
    simp only [go_sem, Nat.reduceBEq, Nat.reduceAdd, List.length_map, hkl, decide_true, decide_false, not_true_eq_false, Int.reduceEq]
    refine ⟨fun h2 => ?_, fun h2 => ?_⟩
    · refine call_pure2 hC (pressed_sem) rfl (PVleL_refl _) ?_
      rintro r rfl
      simp only [go_sem, Nat.reduceBEq]
      exact retQ_one rfl rfl
    obtain ⟨h, o, e1, e2, hh, hoo, hne⟩ := two_range (b := b) (by omega) n m
    obtain ⟨P, Q, eP, eQ, hPQ, hQ⟩ := min_max hh hoo hne
    have hK0 : sameI b P Q = 0 := by have := hcn P Q hPQ hQ; simpa using this
    refine call_pure2 hC (two_sem k ho (by omega) n m) rfl (PVleL_refl _) ?_
    rintro r rfl
    simp only [go_sem, Nat.reduceBEq, e1, e2, eP, eQ, kinds_at (show P < b.horses.length by omega), kind_at hQ (show Q ≠ P by omega), hK0, decide_false, Int.reduceEq, Int.reduceLT]
    refine call_pure2 hC (pressed_sem) rfl (PVleL_refl _) ?_
    rintro r rfl
    simp only [go_sem, Nat.reduceBEq]
    exact retQ_one rfl rfl
  · obtain ⟨i, q, rfl, rfl, h3, h4, h5, h6'⟩ := hc.some rfl
    have hn0 : sameI b i q ≠ 0 := of_decide_eq_true h5
    have hiq := hrg i q
    have hmin : ∀ P Q, P < Q → Q < b.horses.length → sameI b P Q ≠ 0 → ¬ (P < i ∨ P = i ∧ Q < q) := fun P Q h1 h2 h3 h4 => by have := h6' P Q h1 h2 h4; simp at this; exact h3 this
    rcases hs.one with rfl | rfl
    · obtain ⟨rfl, rfl, hsn⟩ := hs.none rfl
      refine semC_of_exec' mixed Try.func8 (by kernel_rfl) (by kernel_rfl) ac8_ok 2 rfl (by decide) [(.tmp 4)] (by kernel_rfl) ?_
      intro hr C hC hI
      unfold ac8
      simp only [go_sem, Nat.reduceBEq, Nat.reduceAdd]
      refine call_pure2 hC (hC1) rfl (PVleL_refl _) ?_
      rintro r rfl
      simp only [go_sem, Nat.reduceBEq, Nat.reduceAdd]
      refine call_pure2 hC (hS1) rfl (PVleL_refl _) ?_
      rintro r rfl
      simp only [go_sem, Nat.reduceBEq, Nat.reduceAdd]
      refine call_pure2 hC (sound_sem k b) rfl (PVleL_refl _) ?_
      rintro r rfl
      simp only [go_sem, Nat.reduceBEq, Nat.reduceAdd, decide_true, decide_false, not_true_eq_false, not_false_eq_true, Int.reduceEq, w00]
      refine ⟨fun h => absurd ho h, fun _ => ?_⟩
      refine call_pure2 hC (hks) rfl (PVleL_refl _) ?_
      rintro r rfl
      simp only [go_sem, Nat.reduceBEq, List.length_map, hkl, decide_true, decide_false, not_true_eq_false, wrap_id (n := (q : Int) - 1) (by omega) (by omega)]
      have hd2 : (sameI b i q < 1) = False := eq_false (by omega)
      have hd1 : ((b.horses.length : Int) ≤ q) = False := eq_false (by omega)
      have hd3 : ((b.horses.length : Int) < 2) = False := eq_false (by omega)
      refine call_pure2 hC (In_sem ..) rfl (PVleL_refl _) ?_
      rintro r rfl
      simp only [go_sem, Nat.reduceBEq, Nat.reduceAdd, decide_eq_true (show (0 : Int) ≤ (i : Int) ∧ (i : Int) ≤ (q : Int) - 1 by omega), decide_false, Int.reduceEq, List.length_map, hkl, kinds_at (show i < b.horses.length by omega), kind_at h4 (show q ≠ i by omega), hd1, hd2, hd3]
      obtain ⟨h, o, e1, e2, hh, hoo, hne⟩ := two_range (b := b) (by omega) n m
      obtain ⟨P, Q, eP, eQ, hPQ, hQ⟩ := min_max hh hoo hne
      have hK2 : sameI b P Q ≠ 2 := by have := hsn P Q hPQ hQ; simpa using this
      have hKm := hmin P Q hPQ hQ
      have hKr := hrg P Q
      refine call_pure2 hC (two_sem k ho (by omega) n m) rfl (PVleL_refl _) ?_
      rintro r rfl
      simp only [go_sem, Nat.reduceBEq, e1, e2, eP, eQ, kinds_at (show P < b.horses.length by omega), kind_at hQ (show Q ≠ P by omega), decide_true, decide_false, not_true_eq_false, not_false_eq_true, Int.reduceEq]
      repeat' (first | (exfalso; omega) | (guard_target =~ _ ∧ _; refine ⟨fun _ => ?_, fun _ => ?_⟩))
      · refine call_pure2 hC (pressed_sem) rfl (PVleL_refl _) ?_
        rintro r rfl
        simp only [go_sem, Nat.reduceBEq]
        exact retQ_one rfl rfl
      · refine call_pure2 hC (pressed_sem) rfl (PVleL_refl _) ?_
        rintro r rfl
        simp only [go_sem, Nat.reduceBEq]
        exact retQ_one rfl rfl
      · refine call_pure2 hC (pressed_sem) rfl (PVleL_refl _) ?_
        rintro r rfl
        simp only [go_sem, Nat.reduceBEq]
        exact retQ_one rfl rfl
    · obtain ⟨i', q', rfl, rfl, g3, g4, g5, g6⟩ := hs.some rfl
      have hn2 : sameI b i' q' = 2 := of_decide_eq_true g5
      have hmin2 : ∀ P Q, P < Q → Q < b.horses.length → sameI b P Q = 2 → ¬ (P < i' ∨ P = i' ∧ Q < q') := fun P Q h1 h2 h3 h4 => by have := g6 P Q h1 h2 h4; simp at this; exact this h3
      refine semC_of_exec' mixed Try.func8 (by kernel_rfl) (by kernel_rfl) ac8_ok 2 rfl (by decide) [(.tmp 4)] (by kernel_rfl) ?_
      intro hr C hC hI
      unfold ac8
      simp only [go_sem, Nat.reduceBEq, Nat.reduceAdd]
      refine call_pure2 hC (hC1) rfl (PVleL_refl _) ?_
      rintro r rfl
      simp only [go_sem, Nat.reduceBEq, Nat.reduceAdd]
      refine call_pure2 hC (hS1) rfl (PVleL_refl _) ?_
      rintro r rfl
      simp only [go_sem, Nat.reduceBEq, Nat.reduceAdd]
      refine call_pure2 hC (sound_sem k b) rfl (PVleL_refl _) ?_
      rintro r rfl
      simp only [go_sem, Nat.reduceBEq, Nat.reduceAdd, decide_false, not_true_eq_false, Int.reduceEq]
      refine ⟨fun h => absurd ho h, fun _ => ?_⟩
      refine call_pure2 hC (hks) rfl (PVleL_refl _) ?_
      rintro r rfl
      simp only [go_sem, Nat.reduceBEq, List.length_map, hkl, decide_true, decide_false, not_true_eq_false, wrap_id (n := (q : Int) - 1) (by omega) (by omega)]
      have hd2 : (sameI b i q < 1) = False := eq_false (by omega)
      have hd1 : ((b.horses.length : Int) ≤ q) = False := eq_false (by omega)
      have hd3 : ((b.horses.length : Int) < 2) = False := eq_false (by omega)
      have hd4 : ((b.horses.length : Int) ≤ q') = False := eq_false (by omega)
      refine call_pure2 hC (In_sem ..) rfl (PVleL_refl _) ?_
      rintro r rfl
      simp only [go_sem, Nat.reduceBEq, decide_eq_true (show (0 : Int) ≤ (i : Int) ∧ (i : Int) ≤ (q : Int) - 1 by omega), decide_true, decide_false, List.length_map, hkl, kinds_at (show i < b.horses.length by omega), kind_at h4 (show q ≠ i by omega), hd1, hd2, wrap_id (n := (q' : Int) - 1) (by omega) (by omega)]
      refine call_pure2 hC (In_sem ..) rfl (PVleL_refl _) ?_
      rintro r rfl
      simp only [go_sem, Nat.reduceBEq, Nat.reduceAdd, decide_eq_true (show (0 : Int) ≤ (i' : Int) ∧ (i' : Int) ≤ (q' : Int) - 1 by omega), decide_false, not_true_eq_false, List.length_map, hkl, kinds_at (show i' < b.horses.length by omega), kind_at g4 (show q' ≠ i' by omega), hd4, hn2, hd3]
      obtain ⟨h, o, e1, e2, hh, hoo, hne⟩ := two_range (b := b) (by omega) n m
      obtain ⟨P, Q, eP, eQ, hPQ, hQ⟩ := min_max hh hoo hne
      have hK2 := hmin2 P Q hPQ hQ
      have hKm := hmin P Q hPQ hQ
      have hKr := hrg P Q
      refine call_pure2 hC (two_sem k ho (by omega) n m) rfl (PVleL_refl _) ?_
      rintro r rfl
      simp only [go_sem, Nat.reduceBEq, e1, e2, eP, eQ, kinds_at (show P < b.horses.length by omega), kind_at hQ (show Q ≠ P by omega), decide_false, not_true_eq_false]
      repeat' (first | (exfalso; omega) | (guard_target =~ _ ∧ _; refine ⟨fun _ => ?_, fun _ => ?_⟩))
      · refine call_pure2 hC (pressed_sem) rfl (PVleL_refl _) ?_
        rintro r rfl
        simp only [go_sem, Nat.reduceBEq]
        exact retQ_one rfl rfl
      · refine call_pure2 hC (pressed_sem) rfl (PVleL_refl _) ?_
        rintro r rfl
        simp only [go_sem, Nat.reduceBEq]
        exact retQ_one rfl rfl
      · refine call_pure2 hC (pressed_sem) rfl (PVleL_refl _) ?_
        rintro r rfl
        simp only [go_sem, Nat.reduceBEq]
        exact retQ_one rfl rfl
      · refine call_pure2 hC (pressed_sem) rfl (PVleL_refl _) ?_
        rintro r rfl
        simp only [go_sem, Nat.reduceBEq]
        exact retQ_one rfl rfl
      · refine call_pure2 hC (pressed_sem) rfl (PVleL_refl _) ?_
        rintro r rfl
        simp only [go_sem, Nat.reduceBEq]
        exact retQ_one rfl rfl
      · refine call_pure2 hC (pressed_sem) rfl (PVleL_refl _) ?_
        rintro r rfl
        simp only [go_sem, Nat.reduceBEq]
        exact retQ_one rfl rfl
      · refine call_pure2 hC (pressed_sem) rfl (PVleL_refl _) ?_
        rintro r rfl
        simp only [go_sem, Nat.reduceBEq]
        exact retQ_one rfl rfl
set_option maxRecDepth 100000 in
theorem Clash_row {l0 l1 : List PV} (T0 : Ty Try.prog 10 24 l0) (T1 : Ty Try.prog 10 25 l1) : SemC Try.prog 8 [argPV Try.prog 24 l0, argPV Try.prog 25 l1] (fun r => r = pb true) := by
  obtain ⟨b, rfl⟩ := ty_book T0
  obtain ⟨n0, n1, rfl⟩ := ty_two T1
  rw [argStruct Try.underlying24, argArray Try.underlying25]
  exact Clash_law .sh b n0 n1
end Go.Proofs.Ytlghbmancjjdjaa
