/- Contracts of dapple: views and rows. Contracts of dapple: turns. Contracts of dapple: lists of numbers. -/
import Derived.Test.YtlbolnlcncjijaaGreatTw01
namespace Go.Proofs.YtlbolnlcncjijaaGreat
open Go.RowKit
def ac70 : AC := (AC.seq (AC.ops [(AOp.mk (some 1) (AK.box 1 (AX.t 0)) none 0 false true), (AOp.mk (some 2) (AK.mv (AX.c (PV.val Value.nilFunc))) none 1 false true)]) (AC.seq (AC.ops [(AOp.mk (some 3) (AK.mkf 95 [] [(AX.t 1)]) none 0 false true), (AOp.mk (some 2) (AK.mv (AX.t 3)) none 1 false true)]) AC.ret))
theorem ac70_ok : cCode Tryz.prog (fun _ => false) Tryz.f70.ntmps (Tryz.f70.body.getD .skip) = some ac70 := by kernel_rfl
def ac95 : AC := (AC.seq (AC.ops [(AOp.mk (some 5) (AK.ld none (AX.t 1)) none 0 false true), (AOp.mk (some 6) (AK.nilc (AX.t 5)) none 1 false true), (AOp.mk (some 7) (AK.fadr 0 (AX.t 6)) none 2 false true), (AOp.mk (some 8) (AK.fadr 1 (AX.t 7)) none 3 false true), (AOp.mk (some 9) (AK.ld none (AX.t 8)) none 4 false true), (AOp.mk (some 10) (AK.len (AX.t 9)) none 5 false true), (AOp.mk (some 11) (AK.mv (AX.c (PV.val (Value.int IntKind.i64 0)))) none 6 false true)]) (AC.block 0 (AC.loop (AC.seq (AC.ops [(AOp.mk (some 12) (AK.bin false BinOp.lss (AX.t 11) (AX.t 10)) none 0 false true)]) (AC.seq (AC.cond (AX.t 12) AC.skip (AC.exit 0)) (AC.seq (AC.block 1 (AC.seq (AC.ops [(AOp.mk (some 13) (AK.mv (AX.t 11)) none 0 false true), (AOp.mk (some 3) (AK.mv (AX.t 13)) none 1 false true)]) (AC.seq (AC.ops [(AOp.mk (some 14) (AK.ld none (AX.t 1)) none 0 false true), (AOp.mk (some 15) (AK.nilc (AX.t 14)) none 1 false true), (AOp.mk (some 16) (AK.fadr 0 (AX.t 15)) none 2 false true), (AOp.mk (some 17) (AK.fadr 0 (AX.t 16)) none 3 false true), (AOp.mk (some 18) (AK.ld none (AX.t 17)) none 4 false true), (AOp.mk (some 19) (AK.mv (AX.c (PV.val (Value.int IntKind.i64 0)))) none 5 false true)]) (AC.block 2 (AC.loop (AC.seq (AC.ops [(AOp.mk (some 20) (AK.bin false BinOp.lss (AX.t 19) (AX.t 18)) none 0 false true)]) (AC.seq (AC.cond (AX.t 20) AC.skip (AC.exit 2)) (AC.seq (AC.block 3 (AC.seq (AC.ops [(AOp.mk (some 21) (AK.mv (AX.t 19)) none 0 false true), (AOp.mk (some 4) (AK.mv (AX.t 21)) none 1 false true)]) (AC.seq (AC.ops [(AOp.mk (some 22) (AK.mv (AX.t 0)) none 0 false true), (AOp.mk (some 23) (AK.mv (AX.t 3)) none 1 false true), (AOp.mk (some 24) (AK.mv (AX.t 4)) none 2 false true), (AOp.mk (some 25) (AK.build [(PV.val (Value.int IntKind.i64 0)), (PV.val (Value.int IntKind.i64 0))] [(0, (1, (AX.t 23))), (1, (1, (AX.t 24)))]) none 3 false true), (AOp.mk (some 26) (AK.callv (AX.t 22) [(AX.t 25)]) none 4 false true), (AOp.mk (some 27) (AK.un UnOp.not (AX.t 26)) none 5 false true)]) (AC.cond (AX.t 27) AC.ret AC.skip)))) (AC.ops [(AOp.mk (some 28) (AK.bin false BinOp.add (AX.t 19) (AX.c (PV.val (Value.int IntKind.i64 1)))) none 0 false true), (AOp.mk (some 19) (AK.mv (AX.t 28)) none 1 false true)]))))))))) (AC.ops [(AOp.mk (some 29) (AK.bin false BinOp.add (AX.t 11) (AX.c (PV.val (Value.int IntKind.i64 1)))) none 0 false true), (AOp.mk (some 11) (AK.mv (AX.t 29)) none 1 false true)])))))))
theorem ac95_ok : cCode Tryz.prog (fun _ => false) Tryz.f95.ntmps (Tryz.f95.body.getD .skip) = some ac95 := by kernel_rfl
def ac71 : AC := (AC.seq (AC.ops [(AOp.mk (some 3) (AK.box 2 (AX.t 1)) none 0 false true), (AOp.mk (some 4) (AK.new (PV.agg [(PV.val (Value.int IntKind.i64 0)), (PV.val (Value.int IntKind.i64 0)), (PV.val (Value.int IntKind.i64 0)), (PV.val (Value.int IntKind.i64 0)), (PV.val (Value.int IntKind.i64 0)), (PV.val (Value.int IntKind.i64 0)), (PV.val (Value.int IntKind.i64 0)), (PV.val (Value.int IntKind.i64 0))])) none 1 false true)]) (AC.seq (AC.seq (AC.ops [(AOp.mk (some 6) (AK.mv (AX.t 0)) none 0 false true), (AOp.mk (some 7) (AK.nilc (AX.t 6)) none 1 false true), (AOp.mk (some 8) (AK.fadr 0 (AX.t 7)) none 2 false true), (AOp.mk (some 9) (AK.fadr 0 (AX.t 8)) none 3 false true), (AOp.mk (some 10) (AK.ld none (AX.t 9)) none 4 false true), (AOp.mk (some 11) (AK.mv (AX.c (PV.val (Value.int IntKind.i64 0)))) none 5 false true)]) (AC.block 0 (AC.loop (AC.seq (AC.ops [(AOp.mk (some 12) (AK.bin false BinOp.lss (AX.t 11) (AX.t 10)) none 0 false true)]) (AC.seq (AC.cond (AX.t 12) AC.skip (AC.exit 0)) (AC.seq (AC.block 1 (AC.seq (AC.ops [(AOp.mk (some 13) (AK.mv (AX.t 11)) none 0 false true), (AOp.mk (some 5) (AK.mv (AX.t 13)) none 1 false true)]) (AC.ops [(AOp.mk (some 14) (AK.mv (AX.t 5)) none 0 true false), (AOp.mk (some 15) (AK.mv (AX.t 0)) none 1 true false), (AOp.mk (some 16) (AK.nilc (AX.t 15)) none 2 true false), (AOp.mk (some 17) (AK.fadr 0 (AX.t 16)) none 3 true false), (AOp.mk (some 18) (AK.fadr 1 (AX.t 17)) none 4 true false), (AOp.mk (some 19) (AK.ld none (AX.t 18)) none 5 true false), (AOp.mk (some 20) (AK.fadr 0 (AX.t 3)) none 6 true false), (AOp.mk (some 21) (AK.ld none (AX.t 20)) none 7 true false), (AOp.mk (some 22) (AK.iadrS 1 (AX.t 19) (AX.t 21)) none 8 true false), (AOp.mk (some 23) (AK.ld none (AX.t 22)) none 9 true false), (AOp.mk (some 24) (AK.mv (AX.t 5)) none 10 true false), (AOp.mk (some 25) (AK.fadr 1 (AX.t 3)) none 11 true false), (AOp.mk (some 26) (AK.ld none (AX.t 25)) none 12 true false), (AOp.mk (some 27) (AK.bin false BinOp.add (AX.t 24) (AX.t 26)) none 13 true false), (AOp.mk (some 28) (AK.mv (AX.t 0)) none 14 true false), (AOp.mk (some 29) (AK.nilc (AX.t 28)) none 15 true false), (AOp.mk (some 30) (AK.fadr 0 (AX.t 29)) none 16 true false), (AOp.mk (some 31) (AK.fadr 0 (AX.t 30)) none 17 true false), (AOp.mk (some 32) (AK.ld none (AX.t 31)) none 18 true false), (AOp.mk (some 33) (AK.bin false BinOp.rem (AX.t 27) (AX.t 32)) none 19 true false), (AOp.mk (some 34) (AK.iadrS 1 (AX.t 23) (AX.t 33)) none 20 true true), (AOp.mk (some 35) (AK.ld none (AX.t 34)) none 21 true true), (AOp.mk (some 36) (AK.iadrA 1 8 (AX.t 4) (AX.t 14)) none 22 true true), (AOp.mk none (AK.st 1 (AX.t 36) (AX.t 35)) none 23 false true)]))) (AC.ops [(AOp.mk (some 37) (AK.bin false BinOp.add (AX.t 11) (AX.c (PV.val (Value.int IntKind.i64 1)))) none 0 false true), (AOp.mk (some 11) (AK.mv (AX.t 37)) none 1 false true)]))))))) (AC.seq (AC.ops [(AOp.mk (some 38) (AK.ld (some 8) (AX.t 4)) none 0 false true), (AOp.mk none (AK.st 8 (AX.t 4) (AX.t 38)) none 1 false true)]) AC.ret)))
theorem ac71_ok : cCode Tryz.prog (fun _ => false) Tryz.f71.ntmps (Tryz.f71.body.getD .skip) = some ac71 := by kernel_rfl
def ac42 : AC := (AC.seq (AC.ops [(AOp.mk (some 1) (AK.box 2 (AX.t 0)) none 0 false true), (AOp.mk (some 2) (AK.mv (AX.c PV.nilp)) none 1 false true)]) (AC.seq (AC.ops [(AOp.mk (some 5) (AK.ld (some 2) (AX.t 1)) none 0 false true), (AOp.mk (some 6) AK.mkm none 1 false true), (AOp.mk (some 7) (AK.build [(PV.val (Value.int IntKind.i64 0)), (PV.sl SK.full 0 []), PV.any] [(0, (2, (AX.t 5))), (2, (1, (AX.t 6)))]) none 2 false true), (AOp.mk (some 8) (AK.box 3 (AX.t 7)) none 3 false true), (AOp.mk (some 3) (AK.new PV.nilp) none 4 false true), (AOp.mk none (AK.st 1 (AX.t 3) (AX.t 8)) none 5 false true)]) (AC.seq (AC.seq (AC.ops [(AOp.mk (some 9) (AK.ld none (AX.t 3)) none 0 false true), (AOp.mk (some 10) (AK.call 70 [(AX.t 9)]) none 1 false true)]) (AC.block 0 (AC.rng (AX.t 10) [11] (AC.ops [(AOp.mk (some 4) (AK.new (PV.agg [(PV.val (Value.int IntKind.i64 0)), (PV.val (Value.int IntKind.i64 0))])) none 0 false true), (AOp.mk none (AK.st 2 (AX.t 4) (AX.t 11)) none 1 false true)]) (AC.block 1 (AC.ops [(AOp.mk (some 12) (AK.ld none (AX.t 3)) none 0 true false), (AOp.mk (some 13) (AK.nilc (AX.t 12)) none 1 true false), (AOp.mk (some 14) (AK.fadr 2 (AX.t 13)) none 2 true false), (AOp.mk (some 15) (AK.ld none (AX.t 14)) none 3 true false), (AOp.mk (some 16) (AK.ld (some 2) (AX.t 4)) none 4 true false), (AOp.mk (some 17) (AK.ld none (AX.t 3)) none 5 true false), (AOp.mk (some 18) (AK.ld (some 2) (AX.t 4)) none 6 true false), (AOp.mk (some 19) (AK.call 71 [(AX.t 17), (AX.t 18)]) none 7 false false), (AOp.mk none (AK.mup [CK.i, CK.i] true (AX.t 15) (AX.t 16) (AX.t 19)) none 8 false true)]))))) (AC.seq (AC.ops [(AOp.mk (some 20) (AK.ld none (AX.t 3)) none 0 false true), (AOp.mk (some 2) (AK.mv (AX.t 20)) none 1 false true)]) AC.ret))))
theorem ac42_ok : cCode Tryz.prog (fun _ => false) Tryz.f42.ntmps (Tryz.f42.body.getD .skip) = some ac42 := by kernel_rfl
abbrev nR (b : DBook) : Nat := b.round.toNat
def viewsL (b : DBook) : List (Nat × Nat) := (List.range (b.horses.length * nR b)).map fun k => (k / nR b, k % nR b)
def encV (v : Nat × Nat) : List PV := [.agg [pi v.1, pi v.2]]
def rowI (b : DBook) (h t p : Nat) : Int := (b.horses.getD h []).getD ((p + t) % nR b) 0
def rowN (b : DBook) (h t j : Nat) : List Int := (List.range 8).map fun p => if p < j then rowI b h t p else 0
def rowL (b : DBook) (h t : Nat) : List Int := rowN b h t (nR b)
def rowsE (b : DBook) : List (PV × PV) := (viewsL b).map fun v => (.agg [pi v.1, pi v.2], .agg ((rowL b v.1 v.2).map pi))
abbrev bookX (k : SK) (b : DBook) (m : PV) : PV := .ptr [pi b.round, .sl k 1 (rowsC b.horses), m] 0
abbrev bookP (k : SK) (b : DBook) : PV := bookX k b (.mpf (rowsE b))
theorem views_sem (k : SK) (b : DBook) (m : PV) : Sem1 70 [bookX k b m] (.clo 95 [] [.ptr [bookX k b m] 0]) := by
  refine semC_of_exec' mixed Tryz.func70 (by kernel_rfl) (by kernel_rfl) ac70_ok 1 rfl (by decide) [(.tmp 2)] (by kernel_rfl) ?_
  intro hr C hC hI
  unfold ac70
  simp only [go_sem, Nat.reduceBEq]
  exact retQ_pur rfl rfl (PVle.refl _) rfl
theorem okR {b : DBook} (ho : okBook b) : 1 ≤ nR b ∧ nR b ≤ 8 ∧ b.round = (nR b : Int) := by
  have := ho.1
  unfold nR
  omega
theorem views_at {b : DBook} {i t : Nat} (hi : i < b.horses.length) (ht : t < nR b) : ((viewsL b).map encV).drop (i * nR b + t) = [.agg [pi i, pi t]] :: ((viewsL b).map encV).drop (i * nR b + (t + 1)) := by
  show _ = _ :: ((viewsL b).map encV).drop (i * nR b + t + 1)
  have hlt : i * nR b + t < b.horses.length * nR b := by
    have : (i + 1) * nR b ≤ b.horses.length * nR b := Nat.mul_le_mul_right _ hi
    rw [Nat.add_mul] at this
    omega
  have hd : (i * nR b + t) / nR b = i := by
    rw [Nat.mul_comm, Nat.mul_add_div (by omega), Nat.div_eq_of_lt ht, Nat.add_zero]
  have hm : (i * nR b + t) % nR b = t := by
    rw [Nat.mul_comm, Nat.mul_add_mod, Nat.mod_eq_of_lt ht]
  unfold viewsL
  rw [List.drop_eq_getElem_cons (by simpa using hlt)]
  simp [encV, hd, hm]
theorem views_it (k : SK) {b : DBook} (ho : okBook b) (m : PV) : IterC Tryz.prog Fence.wide 95 [.yld, .ptr [bookX k b m] 0] ((viewsL b).map encV) := by
  obtain ⟨h1, h8, hn⟩ := okR ho
  have hh := ho.2.1
  refine iterC_of_exec' mixed Tryz.func95 (by kernel_rfl) (by kernel_rfl) ac95_ok 2 rfl (by decide) (by kernel_rfl) ?_
  intro C hC hI
  unfold ac95
  simp only [go_sem, Nat.reduceBEq, List.length_map]
  refine loop_ky b.horses.length (fun _ => True) [0, 1, 10] (fun i => [(11, .p (pi i))]) (fun _ => []) (fun i => some (((viewsL b).map encV).drop (i * nR b))) trivial (by simp [Wk, wkT, wkL, look, AV.lo, keepS]) ?_
  rintro i ⟨hi, -⟩
  simp only [go_sem, Nat.reduceBEq]
  refine ⟨fun h5 => ?_, fun h5 => ?_⟩
  · have hi2 : i < b.horses.length := by omega
    refine loop_ky (nR b) (fun _ => True) [0, 1, 3, 10, 11, 18] (fun t => [(19, .p (pi t))]) (fun _ => []) (fun t => some (((viewsL b).map encV).drop (i * nR b + t))) trivial (by simp [Wk, wkT, wkL, look, AV.lo, keepS]) ?_
    rintro t ⟨ht, -⟩
    simp only [go_sem, Nat.reduceBEq, Nat.reduceAdd, Nat.reduceLeDiff]
    refine ⟨fun h6 => ?_, fun h6 => ?_⟩
    · have ht2 : t < nR b := by omega
      rw [views_at hi2 ht2]
      simp only [go_sem, Nat.reduceBEq, wrap_succ (k := t) (by omega), retI_ret]
      refine ⟨PVleL_refl _, ⟨t + 1, ht2, trivial⟩, by simp only; omega, ?_⟩
      exact by simp [Wk, wkT, wkL, look, AV.lo]
    · have htn : t = nR b := by omega
      simp only [go_sem, wrap_succ (k := i) (by omega)]
      refine ⟨⟨i + 1, hi2, trivial⟩, by simp only; omega, ?_⟩
      rw [htn, show i * nR b + nR b = (i + 1) * nR b by rw [Nat.add_mul]; omega]
      exact by simp [Wk, wkT, wkL, look, AV.lo]
  · have hin : i = b.horses.length := by omega
    rw [show ((viewsL b).map encV).drop (i * nR b) = [] from List.drop_eq_nil_of_le (by simp [viewsL, hin])]
    exact .inl rfl
theorem rowN_len (b : DBook) (h t j : Nat) : (rowN b h t j).length = 8 := by simp [rowN]
theorem put8 (b : DBook) (h t : Nat) {j : Nat} (hj : j < 8) : List.take j (((rowN b h t j).map pi).map AV.p) ++ [.p (pi (rowI b h t j))] ++ List.drop (j + 1) (((rowN b h t j).map pi).map AV.p) = ((rowN b h t (j + 1)).map pi).map AV.p := by
  apply List.ext_getElem?
  intro q
  simp only [List.map_map, rowN]
  rcases Nat.lt_trichotomy q j with hq | rfl | hq
  · rw [List.append_assoc, List.getElem?_append_left (by simp; omega), List.getElem?_take_of_lt hq]
    simp [List.getElem?_range (show q < 8 by omega), hq, show q < j + 1 by omega]
  · rw [List.append_assoc, List.getElem?_append_right (by simp; omega)]
    simp [List.getElem?_range hj, show min q 8 = q by omega]
  · rw [List.getElem?_append_right (by simp; omega), List.getElem?_drop]
    simp only [List.length_append, List.length_take, List.length_map, List.length_range, List.length_cons, List.length_nil, Nat.min_eq_left (show j ≤ 8 by omega)]
    rw [show j + 1 + (q - (j + (0 + 1))) = q by omega]
    by_cases h8 : q < 8
    · simp [List.getElem?_range h8, show ¬ q < j by omega, show ¬ q < j + 1 by omega]
    · simp [List.getElem?_eq_none (show (List.range 8).length ≤ q by simp; omega)]
theorem take8 (b : DBook) (h t j : Nat) : List.take 8 (((rowN b h t j).map pi).map AV.p) = ((rowN b h t j).map pi).map AV.p := List.take_of_length_le (by simp [rowN_len])
theorem drop8 (b : DBook) (h t j : Nat) : List.drop 8 (((rowN b h t j).map pi).map AV.p) = [] := List.drop_eq_nil_of_le (by simp [rowN_len])
theorem iadr8 {id j : Nat} (h : j < 8) : iadrAS 1 8 (.loc id 0) (.p (pi j)) = some (.loc id j) := by
  rw [iadrA_loc' h]; simp
theorem read_sem (k : SK) {b : DBook} (ho : okBook b) (m : PV) {h t : Nat} (hh : h < b.horses.length) (ht : t < nR b) : Sem1 71 [bookX k b m, .agg [pi h, pi t]] (.agg ((rowL b h t).map pi)) := by
  obtain ⟨h1, h8, hn⟩ := okR ho
  have hH := ho.2.2 _ (List.getElem_mem hh)
  have hHl : b.horses[h].length = nR b := by have := hH.1; omega
  have eh := iadr_map (f := fun h => [pis h]) (kd := k) (sz := 1) hh
  refine semC_of_exec' mixed Tryz.func71 (by kernel_rfl) (by kernel_rfl) ac71_ok 2 rfl (by decide) [(.cell 4 62)] (by kernel_rfl) ?_
  intro hr C hC hI
  unfold ac71
  simp only [go_sem, Nat.reduceBEq, Nat.reduceAdd]
  refine loop_kl (nR b) (fun _ => True) [0, 3, 4, 10] (fun j => [(11, .p (pi j))]) (fun j => [.cells [.p (pi h), .p (pi t)], .cells (((rowN b h t j).map pi).map .p)]) trivial (by simp [Wk, wkT, wkL, look, AV.lo, AV.lo.loL, upS_eq, keepS_nil, keepS_cons, rowN, List.range, List.range.loop]) ?_
  rintro j ⟨hj, -⟩
  simp only [go_sem, Nat.reduceBEq, List.length_map, rowN_len, take8, drop8]
  refine ⟨fun h5 => ?_, fun h5 => ?_⟩
  · have hj2 : j < nR b := by omega
    have hmod : ((j : Int) + t).tmod b.round = (((j + t) % nR b : Nat) : Int) := by
      rw [hn]
      exact Int.tmod_eq_emod_of_nonneg (by omega)
    have hlt : (j + t) % nR b < b.horses[h].length := by rw [hHl]; exact Nat.mod_lt _ (by omega)
    have hv : b.horses[h][(j + t) % nR b] = rowI b h t j := by
      unfold rowI
      simp [List.getD_eq_getElem?_getD, List.getElem?_eq_getElem hh, List.getElem?_eq_getElem hlt]
    have hp := put8 b h t (show j < 8 by omega)
    have hj8 : j + 1 ≤ 8 := by omega
    rw [← hv] at hp
    simp only [go_sem, Nat.reduceBEq, eh, wrap_id (n := (j : Int) + t) (by omega) (by omega), bin_rem (show ¬ b.round = 0 by omega), hmod, iadr_pis hlt, iadr8 (show j < 8 by omega), List.length_map, rowN_len, hj8, hp, wrap_succ (k := j) (by omega)]
    exact ⟨⟨j + 1, hj2, trivial⟩, by simp only; omega, by simp [Wk, wkT, wkL, look, AV.lo, AV.lo.loL, ABlk.toZ, loL_pc]⟩
  · have hjn : j = nR b := by omega
    subst hjn
    exact retQ_cell (n := some 8) (by kernel_rfl) (by simp only [go_sem, Nat.reduceBEq, List.length_map, rowN_len, take8]; rfl) rfl
theorem view_key {b : DBook} {h t : Nat} : ∀ v ∈ viewsL b, keyEq [.i, .i] true (.agg [pi h, pi t]) (.agg [pi v.1, pi v.2]) = some (decide (v = (h, t))) := by
  intro v _
  have : decide (v = (h, t)) = (decide ((h : Int) = v.1) && (decide ((t : Int) = v.2) && true)) := by
    rw [Bool.and_true, dec_and]
    refine decide_eq_decide.2 ⟨?_, ?_⟩
    · rintro rfl; exact ⟨rfl, rfl⟩
    · rintro ⟨h1, h2⟩
      exact Prod.ext (by omega) (by omega)
  rw [this]
  simp only [keyEq, eqCs_i, eqCs_nil, Option.map_some]
theorem view_self {h t : Int} : (keyEq [.i, .i] true (.agg [pi h, pi t]) (.agg [pi h, pi t])).isSome = true := by
  simp only [keyEq, eqCs_i, eqCs_nil, Option.map_some, Option.isSome_some]
theorem mem_views {b : DBook} {h t : Nat} (hh : h < b.horses.length) (ht : t < nR b) : (h, t) ∈ viewsL b := by
  unfold viewsL
  rw [List.mem_map]
  refine ⟨h * nR b + t, List.mem_range.2 ?_, ?_⟩
  · have : (h + 1) * nR b ≤ b.horses.length * nR b := Nat.mul_le_mul_right _ hh
    rw [Nat.add_mul] at this
    omega
  · rw [Nat.mul_comm, Nat.mul_add_div (by omega), Nat.div_eq_of_lt ht, Nat.add_zero, Nat.mul_add_mod, Nat.mod_eq_of_lt ht]
theorem look_row {b : DBook} {h t : Nat} (hh : h < b.horses.length) (ht : t < nR b) (z : PV) : lkpV [.i, .i] true z false (rowsE b) (.agg [pi h, pi t]) = some (.agg ((rowL b h t).map pi)) := by
  unfold rowsE
  rw [lkpV_map (p := fun v => decide (v = (h, t))) view_self view_key]
  have hf : (viewsL b).find? (fun v => decide (v = (h, t))) = some (h, t) := by
    cases e : (viewsL b).find? (fun v => decide (v = (h, t))) with
    | none =>
      have := List.find?_eq_none.1 e _ (mem_views hh ht)
      simp at this
    | some v =>
      have := List.find?_some e
      simp only [decide_eq_true_eq] at this
      rw [this]
  rw [hf]
  rfl
theorem views_nodup (b : DBook) : (viewsL b).Nodup := by
  unfold viewsL
  rw [List.Nodup, List.pairwise_map]
  refine List.Pairwise.imp ?_ (List.pairwise_lt_range (n := b.horses.length * nR b))
  intro x y hlt he
  simp only [Prod.mk.injEq] at he
  have h1 := Nat.div_add_mod x (nR b)
  have h2 := Nat.div_add_mod y (nR b)
  rw [he.1, he.2] at h1
  omega
theorem views_len (b : DBook) : (viewsL b).length = b.horses.length * nR b := by simp [viewsL]
theorem views_get {b : DBook} {i : Nat} (h : i < (viewsL b).length) : ∃ hh t, (viewsL b)[i] = (hh, t) ∧ hh < b.horses.length ∧ t < nR b := by
  have hl := views_len b
  refine ⟨i / nR b, i % nR b, by simp [viewsL], ?_, ?_⟩
  · exact Nat.div_lt_of_lt_mul (by rw [Nat.mul_comm]; omega)
  · refine Nat.mod_lt _ ?_
    rcases Nat.eq_zero_or_pos (nR b) with h0 | h0
    · rw [h0] at hl; omega
    · exact h0
def rowE (b : DBook) (v : Nat × Nat) : PV × PV := (.agg [pi v.1, pi v.2], .agg ((rowL b v.1 v.2).map pi))
theorem rows_put {b : DBook} {i h t : Nat} (hi : i < (viewsL b).length) (hv : (viewsL b)[i] = (h, t)) : mput [.i, .i] true (.agg [pi h, pi t]) (.agg ((rowL b h t).map pi)) ((rowsE b).take i) = some ((rowsE b).take (i + 1)) := by
  have hE : ∀ j, (rowsE b).take j = ((viewsL b).take j).map fun v => (.agg [pi v.1, pi v.2], .agg ((rowL b v.1 v.2).map pi)) := fun j => by unfold rowsE; rw [List.map_take]
  have hsub : ∀ v ∈ (viewsL b).take i, v ∈ viewsL b := fun v hv => List.mem_of_mem_take hv
  rw [hE, hE, mput_new (p := fun v => decide (v = (h, t))) view_self (fun v hv => view_key v (hsub v hv)), List.take_succ_eq_append_getElem hi, List.map_append, hv]
  · rfl
  · intro v hv2
    refine decide_eq_false fun he => ?_
    subst he
    obtain ⟨j, hj, e⟩ := List.mem_iff_getElem.1 hv2
    rw [List.length_take] at hj
    rw [List.getElem_take] at e
    have := (List.getElem_inj (h₀ := by omega) (h₁ := hi) (views_nodup b)).1 (e.trans hv.symm)
    omega
theorem noY_views (b : DBook) : noY.noYR ((viewsL b).map encV) = true := noYR_map (fun _ => rfl) _
theorem noY_ints (l : List Int) : noY (pis l) = true := by
  simp only [noY]
  exact noYR_map (fun _ => rfl) l
theorem noY_rows (hs : List (List Int)) : noY.noYR (rowsC hs) = true := noYR_map (fun h => by simp only [noY.noYL, noY_ints, Bool.and_true]) hs
theorem noY_pis (l : List Int) : noY.noYL (l.map pi) = true := noYL_map (fun _ => rfl) l
theorem noYM_map {α : Type} {f g : α → PV} (h : ∀ x, noY (f x) = true) (h2 : ∀ x, noY (g x) = true) : ∀ l : List α, noY.noYM (l.map fun x => (f x, g x)) = true
  | [] => rfl
  | x :: l => by simp only [List.map_cons, noY.noYM, h, h2, noYM_map h h2 l, Bool.and_true]
theorem noY_rowsE (b : DBook) : noY.noYM (rowsE b) = true := noYM_map (fun _ => rfl) (fun _ => by simp only [noY, noY_pis]) _
theorem bookOf_sem (k : SK) {b : DBook} (ho : okBook b) : Sem1 42 [.agg (bookC k b)] (bookP k b) := by
  have hlen : 0 < (viewsL b).length := by
    rw [views_len]
    exact Nat.mul_pos (by have := ho.2.1; omega) (okR ho).1
  have hEl : (rowsE b).length = (viewsL b).length := by simp [rowsE]
  refine semC_of_exec' mixed Tryz.func42 (by kernel_rfl) (by kernel_rfl) ac42_ok 1 rfl (by decide) [(.tmp 2)] (by kernel_rfl) ?_
  intro hr C hC hI
  unfold ac42
  simp only [go_sem, Nat.reduceBEq, Nat.reduceAdd, Nat.reduceLeDiff]
  refine call_purA hC (views_sem k b .any) (L' := [.cells ((bookC k b).map .p), .mp [], .half [.p (pi b.round), .p (.sl k 1 (rowsC b.horses)), .mpl 1], .cells [.loc 2 0]]) rfl (PVleL_refl _) ?_
  rintro r rfl
  simp only [go_sem]
  refine rng_m (ι := Unit) (viewsL b) encV [3] (fun i _ => [.cells ((bookC k b).map .p), if i < (viewsL b).length then .mp ((rowsE b).take i) else .mpz (rowsE b), .half [.p (pi b.round), .p (.sl k 1 (rowsC b.horses)), .mpl 1], .cells [.loc 2 0]]) (fun _ _ => []) (fun _ => some []) (fun _ _ => True) () rfl rfl (hI _ _ _ (views_it k ho .any)) ?_ (fun _ => rfl) ?_ trivial ?_ ?_
  · simp only [noY_views, noY.noYL, noY, noY_rows, Bool.and_true]
  · rw [if_pos hlen]
    simp [Wk, wkT, wkL, look, AV.lo, AV.lo.loL, keepS]
  · rintro i - hi -
    obtain ⟨h, t, hv, hh, ht⟩ := views_get hi
    have hput := rows_put hi hv
    rw [if_pos hi, hv]
    simp only [go_sem, Nat.reduceBEq, Nat.reduceAdd, encV, putCells]
    refine call_purA hC (read_sem k ho .any hh ht) (L' := _) rfl (PVleL_refl _) ?_
    rintro r rfl
    simp only [go_sem, Nat.reduceBEq]
    refine ⟨_, hput, (), ?_⟩
    by_cases hl : i + 1 < (viewsL b).length
    · rw [if_pos hl]
      simp [Wk, wkT, wkL, look, AV.lo, AV.lo.loL]
    · rw [if_neg hl]
      have : (rowsE b).take (i + 1) = rowsE b := List.take_of_length_le (by omega)
      rw [this]
      simp [Wk, wkT, wkL, look, AV.lo, AV.lo.loL, ABlk.toZ]
  · rintro - -
    simp only [go_sem, Nat.reduceBEq, Nat.lt_irrefl]
    exact retQ_pur rfl rfl (PVle.refl _) rfl
end Go.Proofs.YtlbolnlcncjijaaGreat
namespace Go.Proofs.YtlbolnlcncjijaaGreat
open Go.RowKit
def ac60 : AC := (AC.seq (AC.ops [(AOp.mk (some 0) (AK.mv (AX.c (PV.sl SK.full 0 []))) none 0 false true)]) (AC.seq (AC.ops [(AOp.mk (some 1) (AK.build [(PV.val (Value.int IntKind.i64 0)), (PV.val Value.nilFunc)] [(0, (1, (AX.c (PV.val (Value.int IntKind.i64 0))))), (1, (1, (AX.c (PV.val (Value.func (Fn.func 79) #[] #[])))))]) none 0 false true), (AOp.mk (some 2) (AK.build [(PV.val (Value.int IntKind.i64 0)), (PV.val Value.nilFunc)] [(0, (1, (AX.c (PV.val (Value.int IntKind.i64 1))))), (1, (1, (AX.c (PV.val (Value.func (Fn.func 80) #[] #[])))))]) none 1 false true), (AOp.mk (some 3) (AK.build [(PV.val (Value.int IntKind.i64 0)), (PV.val Value.nilFunc)] [(0, (1, (AX.c (PV.val (Value.int IntKind.i64 2))))), (1, (1, (AX.c (PV.val (Value.func (Fn.func 81) #[] #[])))))]) none 2 false true), (AOp.mk (some 4) (AK.bslice false 109 2 3 [(PV.val (Value.int IntKind.i64 0)), (PV.val Value.nilFunc)] [(0, (2, (AX.t 1))), (2, (2, (AX.t 2))), (4, (2, (AX.t 3)))]) none 3 false true), (AOp.mk (some 0) (AK.mv (AX.t 4)) none 4 false true)]) AC.ret))
theorem ac60_ok : cCode Tryz.prog (fun _ => false) Tryz.f60.ntmps (Tryz.f60.body.getD .skip) = some ac60 := by kernel_rfl
def ac36 : AC := (AC.seq (AC.ops [(AOp.mk (some 4) (AK.box 1 (AX.t 0)) none 0 false true), (AOp.mk (some 5) (AK.box 1 (AX.t 1)) none 1 false true), (AOp.mk (some 6) (AK.box 8 (AX.t 2)) none 2 false true), (AOp.mk (some 8) (AK.mv (AX.c (PV.val Value.nilFunc))) none 3 false true)]) (AC.seq (AC.ops [(AOp.mk (some 10) (AK.call 60 []) none 0 false true), (AOp.mk (some 11) (AK.mv (AX.t 3)) none 1 false true), (AOp.mk (some 12) (AK.iadrS 2 (AX.t 10) (AX.t 11)) none 2 false true), (AOp.mk (some 13) (AK.fadr 1 (AX.t 12)) none 3 false true), (AOp.mk (some 14) (AK.ld none (AX.t 13)) none 4 false true), (AOp.mk (some 9) (AK.new (PV.val Value.nilFunc)) none 5 false true), (AOp.mk none (AK.st 1 (AX.t 9) (AX.t 14)) none 6 false true)]) (AC.seq (AC.ops [(AOp.mk (some 15) (AK.mkf 61 [] [(AX.t 4), (AX.t 5), (AX.t 9), (AX.t 6)]) none 0 false true), (AOp.mk (some 8) (AK.mv (AX.t 15)) none 1 false true)]) AC.ret)))
theorem ac36_ok : cCode Tryz.prog (fun _ => false) Tryz.f36.ntmps (Tryz.f36.body.getD .skip) = some ac36 := by kernel_rfl
def ac61 : AC := (AC.seq AC.skip (AC.seq (AC.ops [(AOp.mk (some 9) (AK.ld none (AX.t 1)) none 0 false true), (AOp.mk (some 10) (AK.nilc (AX.t 9)) none 1 false true), (AOp.mk (some 11) (AK.fadr 0 (AX.t 10)) none 2 false true), (AOp.mk (some 12) (AK.fadr 0 (AX.t 11)) none 3 false true), (AOp.mk (some 13) (AK.ld none (AX.t 12)) none 4 false true), (AOp.mk (some 14) (AK.mv (AX.c (PV.val (Value.int IntKind.i64 0)))) none 5 false true)]) (AC.block 0 (AC.loop (AC.seq (AC.ops [(AOp.mk (some 15) (AK.bin false BinOp.lss (AX.t 14) (AX.t 13)) none 0 false true)]) (AC.seq (AC.cond (AX.t 15) AC.skip (AC.exit 0)) (AC.seq (AC.block 1 (AC.seq (AC.ops [(AOp.mk (some 16) (AK.mv (AX.t 14)) none 0 false true), (AOp.mk (some 6) (AK.mv (AX.t 16)) none 1 false true)]) (AC.seq (AC.ops [(AOp.mk (some 17) (AK.ld none (AX.t 1)) none 0 true false), (AOp.mk (some 18) (AK.nilc (AX.t 17)) none 1 true false), (AOp.mk (some 19) (AK.fadr 2 (AX.t 18)) none 2 true false), (AOp.mk (some 20) (AK.ld none (AX.t 19)) none 3 true false), (AOp.mk (some 21) (AK.ld none (AX.t 2)) none 4 true false), (AOp.mk (some 22) (AK.mv (AX.t 6)) none 5 true false), (AOp.mk (some 23) (AK.build [(PV.val (Value.int IntKind.i64 0)), (PV.val (Value.int IntKind.i64 0))] [(0, (1, (AX.t 21))), (1, (1, (AX.t 22)))]) none 6 true false), (AOp.mk (some 24) (AK.lkp [CK.i, CK.i] true (PV.agg [(PV.val (Value.int IntKind.i64 0)), (PV.val (Value.int IntKind.i64 0)), (PV.val (Value.int IntKind.i64 0)), (PV.val (Value.int IntKind.i64 0)), (PV.val (Value.int IntKind.i64 0)), (PV.val (Value.int IntKind.i64 0)), (PV.val (Value.int IntKind.i64 0)), (PV.val (Value.int IntKind.i64 0))]) false (AX.t 20) (AX.t 23)) none 7 true false), (AOp.mk (some 7) (AK.new (PV.agg [(PV.val (Value.int IntKind.i64 0)), (PV.val (Value.int IntKind.i64 0)), (PV.val (Value.int IntKind.i64 0)), (PV.val (Value.int IntKind.i64 0)), (PV.val (Value.int IntKind.i64 0)), (PV.val (Value.int IntKind.i64 0)), (PV.val (Value.int IntKind.i64 0)), (PV.val (Value.int IntKind.i64 0))])) none 8 false false), (AOp.mk none (AK.st 8 (AX.t 7) (AX.t 24)) none 9 false true)]) (AC.seq (AC.seq (AC.ops [(AOp.mk (some 25) (AK.ld none (AX.t 1)) none 0 false true), (AOp.mk (some 26) (AK.nilc (AX.t 25)) none 1 false true), (AOp.mk (some 27) (AK.fadr 0 (AX.t 26)) none 2 false true), (AOp.mk (some 28) (AK.fadr 0 (AX.t 27)) none 3 false true), (AOp.mk (some 29) (AK.ld none (AX.t 28)) none 4 false true), (AOp.mk (some 30) (AK.mv (AX.c (PV.val (Value.int IntKind.i64 0)))) none 5 false true)]) (AC.block 2 (AC.loop (AC.seq (AC.ops [(AOp.mk (some 31) (AK.bin false BinOp.lss (AX.t 30) (AX.t 29)) none 0 false true)]) (AC.seq (AC.cond (AX.t 31) AC.skip (AC.exit 2)) (AC.seq (AC.block 3 (AC.seq (AC.ops [(AOp.mk (some 32) (AK.mv (AX.t 30)) none 0 false true), (AOp.mk (some 8) (AK.mv (AX.t 32)) none 1 false true)]) (AC.seq (AC.ops [(AOp.mk (some 33) (AK.ld none (AX.t 3)) none 0 true false), (AOp.mk (some 34) (AK.mv (AX.t 8)) none 1 true false), (AOp.mk (some 35) (AK.iadrA 1 8 (AX.t 7) (AX.t 34)) none 2 true false), (AOp.mk (some 36) (AK.ld none (AX.t 35)) none 3 true false), (AOp.mk (some 37) (AK.mv (AX.t 8)) none 4 true false), (AOp.mk (some 38) (AK.iadrA 1 8 (AX.t 4) (AX.t 37)) none 5 true false), (AOp.mk (some 39) (AK.ld none (AX.t 38)) none 6 true false), (AOp.mk (some 40) (AK.callv (AX.t 33) [(AX.t 36), (AX.t 39)]) none 7 false true), (AOp.mk (some 41) (AK.un UnOp.not (AX.t 40)) none 8 true true)]) (AC.cond (AX.t 41) (AC.exit 1) AC.skip)))) (AC.ops [(AOp.mk (some 42) (AK.bin false BinOp.add (AX.t 30) (AX.c (PV.val (Value.int IntKind.i64 1)))) none 0 false true), (AOp.mk (some 30) (AK.mv (AX.t 42)) none 1 false true)]))))))) (AC.seq (AC.ops [(AOp.mk (some 43) (AK.mv (AX.t 0)) none 0 false true), (AOp.mk (some 44) (AK.mv (AX.t 6)) none 1 false true), (AOp.mk (some 45) (AK.callv (AX.t 43) [(AX.t 44)]) none 2 false true), (AOp.mk (some 46) (AK.un UnOp.not (AX.t 45)) none 3 false true)]) (AC.cond (AX.t 46) AC.ret AC.skip)))))) (AC.ops [(AOp.mk (some 47) (AK.bin false BinOp.add (AX.t 14) (AX.c (PV.val (Value.int IntKind.i64 1)))) none 0 false true), (AOp.mk (some 14) (AK.mv (AX.t 47)) none 1 false true)]))))))))
theorem ac61_ok : cCode Tryz.prog (fun _ => false) Tryz.f61.ntmps (Tryz.f61.body.getD .skip) = some ac61 := by kernel_rfl
def likesP : List (List PV) := [[pi 0, fnV 79], [pi 1, fnV 80], [pi 2, fnV 81]]
theorem likenesses_sem : Sem1 60 [] (.sl .full 2 likesP) := by
  refine semC_of_exec' mixed Tryz.func60 (by kernel_rfl) (by kernel_rfl) ac60_ok 0 rfl (by decide) [(.tmp 0)] (by kernel_rfl) ?_
  intro hr C hC hI
  unfold ac60
  simp only [go_sem, Nat.reduceBEq, Nat.reduceAdd, Nat.reduceLeDiff, putCells]
  exact retQ_one rfl rfl
def fitB (b : DBook) (p : Int → Int → Bool) (h : Nat) (g : List Int) (t : Nat) : Bool := (List.range (nR b)).all fun q => p (rowI b h t q) (g.getD q 0)
def turnsP (b : DBook) (p : Int → Int → Bool) (h : Nat) (g : List Int) : List Nat := (List.range (nR b)).filter (fitB b p h g)
def encT (t : Nat) : List PV := [pi t]
theorem drop_filt {P : Nat → Bool} {n t : Nat} (h : t < n) : (((List.range n).drop t).filter P).map encT = (if P t then [[pi t]] else []) ++ (((List.range n).drop (t + 1)).filter P).map encT := by
  rw [List.drop_eq_getElem_cons (by simpa using h), List.filter_cons]
  simp only [List.getElem_range]
  split <;> rfl
theorem iadr8p {cs : List PV} {j : Nat} (h : j < 8) : iadrAS 1 8 (.p (.ptr cs 0)) (.p (pi j)) = some (.p (.ptr cs j)) := by
  rw [iadrA_ptr' h]; simp
theorem cell_row {b : DBook} {h t j : Nat} (hj : j < nR b) (h8 : nR b ≤ 8) : (((rowL b h t).map pi).map AV.p)[j]? = some (.p (pi (rowI b h t j))) := by
  unfold rowL rowN
  simp [List.getElem?_range (show j < 8 by omega)]
  intro h0
  unfold nR at hj
  omega
theorem cell_ints {g : List Int} {j : Nat} (hj : j < g.length) : (g.map pi)[j]? = some (pi (g.getD j 0)) := by
  simp [List.getD_eq_getElem?_getD, List.getElem?_eq_getElem hj]
theorem turns_it (k : SK) {b : DBook} (ho : okBook b) {f : FuncId} {p : Int → Int → Bool} (hf : ∀ x y, Sem1 f [pi x, pi y] (pb (p x y))) {h : Nat} (hh : h < b.horses.length) {g : List Int} (hg : g.length = 8) :
    IterC Tryz.prog Fence.wide 61 [.yld, .ptr [bookP k b] 0, .ptr [pi h] 0, .ptr [fnV f] 0, .ptr (g.map pi) 0] ((turnsP b p h g).map encT) := by
  obtain ⟨h1, h8, hn⟩ := okR ho
  refine iterC_of_exec' mixed Tryz.func61 (by kernel_rfl) (by kernel_rfl) ac61_ok 5 rfl (by decide) (by kernel_rfl) ?_
  intro C hC hI
  unfold ac61
  simp only [go_sem, Nat.reduceBEq, Nat.reduceAdd]
  refine loop_ky (nR b) (fun _ => True) [0, 1, 2, 3, 4, 13] (fun t => [(14, .p (pi t))]) (fun _ => []) (fun t => some ((((List.range (nR b)).drop t).filter (fitB b p h g)).map encT)) trivial (by simp [Wk, wkT, wkL, look, AV.lo, keepS, turnsP]) ?_
  rintro t ⟨ht, -⟩
  have hl8 : (rowL b h t).length = 8 := rowN_len ..
  simp only [go_sem, Nat.reduceBEq, Nat.reduceAdd, Nat.reduceLeDiff]
  refine ⟨fun h5 => ?_, fun h5 => ?_⟩
  · have ht2 : t < nR b := by omega
    have hd := drop_filt (P := fitB b p h g) ht2
    simp only [go_sem, Nat.reduceBEq, Nat.reduceAdd, look_row hh ht2, putCells, List.length_map, hl8, Nat.le_refl, Option.map_some]
    refine loop_ky (nR b) (fun j => ∀ q, q < j → p (rowI b h t q) (g.getD q 0) = true) [0, 1, 2, 3, 4, 6, 7, 13, 14, 29] (fun j => [(30, .p (pi j))]) (fun _ => [.cells (((rowL b h t).map pi).map .p)]) (fun _ => some ((((List.range (nR b)).drop t).filter (fitB b p h g)).map encT)) (fun q hq => absurd hq (by omega)) (by simp [Wk, wkT, wkL, look, AV.lo, keepS, loL_pc]) ?_
    rintro j ⟨hj, hok⟩
    simp only [go_sem, Nat.reduceBEq]
    refine ⟨fun h6 => ?_, fun h6 => ?_⟩
    · have hj2 : j < nR b := by omega
      simp only [go_sem, Nat.reduceBEq, iadr8 (show j < 8 by omega), iadr8p (show j < 8 by omega), cell_row hj2 h8, cell_ints (show j < g.length by omega), Option.map_some]
      refine call_pure2 hC (hf (rowI b h t j) (g.getD j 0)) rfl (PVleL_refl _) ?_
      rintro r rfl
      simp only [go_sem, Nat.reduceBEq]
      cases hp : p (rowI b h t j) (g.getD j 0)
      · have hP : fitB b p h g t = false := by
          unfold fitB
          rw [List.all_eq_false]
          exact ⟨j, List.mem_range.2 hj2, by rw [hp]; simp⟩
        rw [hP] at hd
        simp only [go_sem, Nat.reduceBEq, wrap_succ (k := t) (by omega)]
        refine ⟨⟨t + 1, ht2, trivial⟩, by simp only; omega, ?_⟩
        rw [hd]
        exact by simp [Wk, wkT, wkL, look, AV.lo]
      · simp only [go_sem, Nat.reduceBEq, wrap_succ (k := j) (by omega)]
        refine ⟨⟨j + 1, hj2, fun q hq => ?_⟩, by simp only; omega, by simp [Wk, wkT, wkL, look, AV.lo, ABlk.toZ, loL_pc]⟩
        rcases Nat.lt_or_ge q j with h | h
        · exact hok q h
        · have : q = j := by omega
          subst this; exact hp
    · have hjn : j = nR b := by omega
      subst hjn
      have hP : fitB b p h g t = true := List.all_eq_true.2 fun q hq => hok q (List.mem_range.1 hq)
      rw [hP, if_pos rfl, List.singleton_append] at hd
      rw [hd]
      simp only [go_sem, Nat.reduceBEq, wrap_succ (k := t) (by omega), retI_ret]
      refine ⟨PVleL_refl _, ⟨t + 1, ht2, trivial⟩, by simp only; omega, ?_⟩
      exact by simp [Wk, wkT, wkL, look, AV.lo]
  · have htn : t = nR b := by omega
    subst htn
    rw [show (List.range (nR b)).drop (nR b) = [] from List.drop_eq_nil_of_le (by simp)]
    exact .inl rfl
def ac105 : AC := (AC.seq (AC.ops [(AOp.mk (some 6) (AK.mv (AX.c (PV.val (Value.int IntKind.i64 0)))) none 0 false true)]) (AC.seq (AC.ops [(AOp.mk (some 7) (AK.new (PV.val (Value.int IntKind.i64 0))) none 0 false true), (AOp.mk none (AK.st 1 (AX.t 7) (AX.c (PV.val (Value.int IntKind.i64 0)))) none 1 false true)]) (AC.seq (AC.seq (AC.ops [(AOp.mk (some 10) (AK.call 60 []) none 0 false true), (AOp.mk (some 11) (AK.len (AX.t 10)) none 1 false true), (AOp.mk (some 12) (AK.mv (AX.c (PV.val (Value.int IntKind.i64 0)))) none 2 false true)]) (AC.block 0 (AC.loop (AC.seq (AC.ops [(AOp.mk (some 13) (AK.bin false BinOp.lss (AX.t 12) (AX.t 11)) none 0 false true)]) (AC.seq (AC.cond (AX.t 13) AC.skip (AC.exit 0)) (AC.seq (AC.block 1 (AC.seq (AC.ops [(AOp.mk (some 14) (AK.iadrS 2 (AX.t 10) (AX.t 12)) none 0 false true), (AOp.mk (some 15) (AK.ld (some 2) (AX.t 14)) none 1 false true), (AOp.mk (some 9) (AK.new (PV.agg [(PV.val (Value.int IntKind.i64 0)), (PV.val Value.nilFunc)])) none 2 false true), (AOp.mk none (AK.st 2 (AX.t 9) (AX.t 15)) none 3 false true)]) (AC.seq (AC.ops [(AOp.mk (some 16) (AK.mv (AX.t 0)) none 0 true false), (AOp.mk (some 17) (AK.mv (AX.t 1)) none 1 true false), (AOp.mk (some 18) (AK.mv (AX.t 0)) none 2 true false), (AOp.mk (some 19) (AK.nilc (AX.t 18)) none 3 true false), (AOp.mk (some 20) (AK.fadr 2 (AX.t 19)) none 4 true false), (AOp.mk (some 21) (AK.ld none (AX.t 20)) none 5 true false), (AOp.mk (some 22) (AK.mv (AX.t 2)) none 6 true false), (AOp.mk (some 25) (AK.fadr 0 (AX.t 9)) none 9 true false), (AOp.mk (some 26) (AK.ld none (AX.t 25)) none 10 true false), (AOp.mk (some 23) (AK.call 37 [(AX.t 22)]) none 7 false false), (AOp.mk (some 24) (AK.lkp [CK.i, CK.i] true (PV.agg [(PV.val (Value.int IntKind.i64 0)), (PV.val (Value.int IntKind.i64 0)), (PV.val (Value.int IntKind.i64 0)), (PV.val (Value.int IntKind.i64 0)), (PV.val (Value.int IntKind.i64 0)), (PV.val (Value.int IntKind.i64 0)), (PV.val (Value.int IntKind.i64 0)), (PV.val (Value.int IntKind.i64 0))]) false (AX.t 21) (AX.t 23)) none 8 true false), (AOp.mk (some 27) (AK.call 36 [(AX.t 16), (AX.t 17), (AX.t 24), (AX.t 26)]) none 11 false true)]) (AC.block 2 (AC.rng (AX.t 27) [28] AC.skip (AC.block 3 (AC.ops [(AOp.mk (some 29) (AK.ld none (AX.t 7)) none 0 false true), (AOp.mk (some 30) (AK.fadr 0 (AX.t 9)) none 1 false true), (AOp.mk (some 31) (AK.ld none (AX.t 30)) none 2 false true), (AOp.mk (some 32) (AK.bslice false 3 1 1 [(PV.val (Value.int IntKind.i64 0))] [(0, (1, (AX.t 31)))]) none 3 false true), (AOp.mk (some 33) (AK.call 108 [(AX.t 29), (AX.t 32)]) none 4 false true), (AOp.mk none (AK.st 1 (AX.t 7) (AX.t 33)) none 5 false true)]))))))) (AC.ops [(AOp.mk (some 34) (AK.bin false BinOp.add (AX.t 12) (AX.c (PV.val (Value.int IntKind.i64 1)))) none 0 false true), (AOp.mk (some 12) (AK.mv (AX.t 34)) none 1 false true)]))))))) (AC.seq (AC.ops [(AOp.mk (some 35) (AK.ld none (AX.t 7)) none 0 false true), (AOp.mk (some 6) (AK.mv (AX.t 35)) none 1 false true)]) AC.ret))))
theorem ac105_ok : cCode Tryz.prog (fun _ => false) Tryz.f105.ntmps (Tryz.f105.body.getD .skip) = some ac105 := by kernel_rfl
def ac93 : AC := (AC.seq (AC.ops [(AOp.mk (some 6) (AK.mv (AX.c (PV.val (Value.bool false)))) none 0 false true)]) (AC.seq (AC.ops [(AOp.mk (some 7) (AK.mv (AX.t 0)) none 0 false true), (AOp.mk (some 8) (AK.mv (AX.t 1)) none 1 false true), (AOp.mk (some 9) (AK.mv (AX.t 2)) none 2 false true), (AOp.mk (some 10) (AK.call 105 [(AX.t 7), (AX.t 8), (AX.t 9)]) none 3 false true), (AOp.mk (some 11) (AK.bin false BinOp.neq (AX.t 10) (AX.c (PV.val (Value.int IntKind.i64 0)))) none 4 false true), (AOp.mk (some 6) (AK.mv (AX.t 11)) none 5 false true)]) AC.ret))
theorem ac93_ok : cCode Tryz.prog (fun _ => false) Tryz.f93.ntmps (Tryz.f93.body.getD .skip) = some ac93 := by kernel_rfl
def fL (i : Nat) : FuncId := if i = 0 then 79 else if i = 1 then 80 else 81
def pL (i : Nat) : Int → Int → Bool := if i = 0 then fun _ _ => true else if i = 1 then meetB else sureB
theorem likes_at {i : Nat} (h : i < 3) : iadrS' 2 (.p (.sl .full 2 likesP)) (.p (pi i)) = some (.p (.ptr [pi i, fnV (fL i)] 0)) := by
  have : i = 0 ∨ i = 1 ∨ i = 2 := by omega
  rcases this with rfl | rfl | rfl <;> rfl
theorem fL_sem {i : Nat} (h : i < 3) (x y : Int) : Sem1 (fL i) [pi x, pi y] (pb (pL i x y)) := by
  have : i = 0 ∨ i = 1 ∨ i = 2 := by omega
  rcases this with rfl | rfl | rfl
  · exact stands_sem x y
  · exact canBe_sem x y
  · exact surelyIs_sem x y
theorem turns_sem (k : SK) (b : DBook) (h : Nat) {g : List Int} (hg : g.length = 8) {i : Nat} (hi : i < 3) : Sem1 36 [bookP k b, pi h, .agg (g.map pi), pi i] (.clo 61 [] [.ptr [bookP k b] 0, .ptr [pi h] 0, .ptr [fnV (fL i)] 0, .ptr (g.map pi) 0]) := by
  match g, hg with
  | [g0, g1, g2, g3, g4, g5, g6, g7], _ =>
  refine semC_of_exec' mixed Tryz.func36 (by kernel_rfl) (by kernel_rfl) ac36_ok 4 rfl (by decide) [(.tmp 8)] (by kernel_rfl) ?_
  intro hr C hC hI
  unfold ac36
  simp only [go_sem, Nat.reduceBEq, Nat.reduceAdd]
  refine call_pure2 hC (likenesses_sem) rfl (PVleL_refl _) ?_
  rintro r rfl
  simp only [go_sem, Nat.reduceBEq, Nat.reduceAdd, likes_at hi, putCells]
  exact retQ_pur rfl rfl (PVle.refl _) rfl
theorem greatest_sem (k : SK) (a x : Int) : Sem1 108 [pi a, .sl k 1 [[pi x]]] (pi (maxI true a x)) := by
  refine semC_of_exec' mixed Tryz.func108 (by kernel_rfl) (by kernel_rfl) ac108_ok 2 rfl (by decide) [(.tmp 4)] (by kernel_rfl) ?_
  intro hr C hC hI
  unfold ac108
  simp only [go_sem, Nat.reduceBEq]
  refine loop_k 1 (fun _ => True) [7, 8] (fun j => [(0, .p (pi (if j = 0 then a else maxI true a x))), (9, .p (pi j))]) trivial rfl ⟨rfl, by simp, by simp⟩ (by simp [wkT, look, AV.lo]) ?_
  rintro j ⟨hj, -⟩
  have : j = 0 ∨ j = 1 := by omega
  rcases this with rfl | rfl
  · simp only [go_sem, Nat.reduceBEq, iadrS_sl (es := [[pi x]]) (i := 0) (sz := 1) (k := k) (kk := .i64) (e := [pi x]) (by omega) rfl, Int.natCast_zero, Int.natCast_one, Int.reduceLT, decide_true, show IntKind.i64.wrap (0 + 1) = 1 from rfl]
    exact ⟨⟨1, by omega, trivial⟩, by simp, by simp [Wk, wkT, wkL, look, AV.lo]⟩
  · simp only [go_sem, Nat.reduceBEq, Int.natCast_one, Int.reduceLT, decide_false, show ¬ (1 : Nat) = 0 by omega]
    exact retQ_one rfl rfl
def likeAt (b : DBook) (h : Nat) (g : List Int) : Nat → Int
  | 0 => 0
  | i + 1 => if turnsP b (pL i) h g = [] then likeAt b h g i else maxI true (likeAt b h g i) i
def sameI (b : DBook) (h o : Nat) : Int := likeAt b h (rowL b o 0) 3
theorem noY_turns (l : List Nat) : noY.noYR (l.map encT) = true := noYR_map (fun _ => rfl) _
theorem maxI_idem (a x : Int) : maxI true (maxI true a x) x = maxI true a x := by
  unfold maxI; simp only [if_true]; split <;> simp
theorem same_sem (k : SK) {b : DBook} (ho : okBook b) {h o : Nat} (hh : h < b.horses.length) (hoo : o < b.horses.length) : Sem1 105 [bookP k b, pi h, pi o] (pi (sameI b h o)) := by
  obtain ⟨h1, h8, hn⟩ := okR ho
  have hg : (rowL b o 0).length = 8 := rowN_len ..
  have hlk : lkpV [.i, .i] true (.agg [pi 0, pi 0, pi 0, pi 0, pi 0, pi 0, pi 0, pi 0]) false (rowsE b) (.agg [pi o, pi 0]) = some (.agg ((rowL b o 0).map pi)) := look_row (b := b) hoo (show 0 < nR b by omega) _
  unfold sameI
  obtain ⟨g, hgg⟩ : ∃ g, rowL b o 0 = g := ⟨_, rfl⟩
  rw [hgg] at hg hlk ⊢
  refine semC_of_exec' mixed Tryz.func105 (by kernel_rfl) (by kernel_rfl) ac105_ok 3 rfl (by decide) [(.tmp 6)] (by kernel_rfl) ?_
  intro hr C hC hI
  unfold ac105
  simp only [go_sem, Nat.reduceBEq, Nat.reduceAdd]
  refine call_pure2 hC (likenesses_sem) rfl (PVleL_refl _) ?_
  rintro r rfl
  simp only [go_sem, Nat.reduceBEq]
  refine loop_kl 3 (fun _ => True) [0, 1, 2, 7, 10, 11] (fun i => [(12, .p (pi i))]) (fun i => [.cells [.p (pi (likeAt b h g i))]]) trivial (by simp [Wk, wkT, wkL, look, AV.lo, AV.lo.loL, ABlk.toZ, upS_eq, keepS_nil, keepS_cons, likeAt]) ?_
  rintro i ⟨hi, -⟩
  simp only [go_sem, Nat.reduceBEq, Nat.reduceAdd, likesP]
  refine ⟨fun h5 => ?_, fun h5 => ?_⟩
  · have hi2 : i < 3 := by omega
    simp only [go_sem, Nat.reduceBEq, Nat.reduceAdd, show iadrS' 2 (AV.p (PV.sl SK.full 2 [[pi 0, fnV 79], [pi 1, fnV 80], [pi 2, fnV 81]])) (AV.p (pi i)) = _ from likes_at hi2, putCells]
    refine call_pure2 hC (straight_sem (o : Int)) rfl (PVleL_refl _) ?_
    rintro r rfl
    simp only [go_sem, Nat.reduceBEq, hlk, Option.map_some]
    refine call_pure2 hC (turns_sem k b h hg hi2) rfl (PVleL_refl _) ?_
    rintro r rfl
    simp only [go_sem]
    refine rng_m (ι := Unit) (turnsP b (pL i) h g) encT [0, 1, 2, 7, 9, 10, 11, 12] (fun q _ => [.cells [.p (pi (if q = 0 then likeAt b h g i else maxI true (likeAt b h g i) i))], .cells [.p (pi i), .p (fnV (fL i))]]) (fun _ _ => []) (fun _ => some []) (fun _ _ => True) () rfl rfl (hI _ _ _ (turns_it k ho (fL_sem hi2) hh hg)) ?_ (fun _ => rfl) (by simp [Wk, wkT, wkL, look, AV.lo, AV.lo.loL, keepS]) trivial ?_ ?_
    · simp only [noY_turns, noY.noYL, noY, noY_rows, noY_rowsE, noY_pis, Bool.and_true]
    · rintro q - hq -
      simp only [go_sem, Nat.reduceBEq, Nat.reduceAdd, Nat.reduceEqDiff, encT, putCells]
      refine call_pure2 hC (greatest_sem .full (if q = 0 then likeAt b h g i else maxI true (likeAt b h g i) i) i) rfl (PVleL_refl _) ?_
      rintro r rfl
      simp only [go_sem, Nat.reduceBEq, putCells]
      refine ⟨(), ?_⟩
      have e : maxI true (if q = 0 then likeAt b h g i else maxI true (likeAt b h g i) i) i = maxI true (likeAt b h g i) i := by
        split
        · rfl
        · exact maxI_idem _ _
      rw [e]
      exact by simp [Wk, wkT, wkL, look, AV.lo, AV.lo.loL, ABlk.toZ]
    · rintro - -
      have e : (if (turnsP b (pL i) h g).length = 0 then likeAt b h g i else maxI true (likeAt b h g i) i) = likeAt b h g (i + 1) := by
        rw [show likeAt b h g (i + 1) = if turnsP b (pL i) h g = [] then likeAt b h g i else maxI true (likeAt b h g i) i from rfl]
        simp only [List.length_eq_zero_iff]
      rw [e]
      simp only [go_sem, Nat.reduceBEq, wrap_succ (k := i) (by omega)]
      exact ⟨⟨i + 1, hi2, trivial⟩, by simp only; omega, by simp [Wk, wkT, wkL, look, AV.lo, AV.lo.loL, ABlk.toZ]⟩
  · have hi3 : i = 3 := by simp at h5; omega
    subst hi3
    exact retQ_one rfl rfl
theorem canBeSame_sem (k : SK) {b : DBook} (ho : okBook b) {h o : Nat} (hh : h < b.horses.length) (hoo : o < b.horses.length) : Sem1 93 [bookP k b, pi h, pi o] (pb (decide (sameI b h o ≠ 0))) := by
  refine semC_of_exec' mixed Tryz.func93 (by kernel_rfl) (by kernel_rfl) ac93_ok 3 rfl (by decide) [(.tmp 6)] (by kernel_rfl) ?_
  intro hr C hC hI
  unfold ac93
  simp only [go_sem, Nat.reduceBEq, Nat.reduceAdd]
  refine call_pure2 hC (same_sem k ho hh hoo) rfl (PVleL_refl _) ?_
  rintro r rfl
  simp only [go_sem, Nat.reduceBEq]
  exact retQ_one rfl rfl
end Go.Proofs.YtlbolnlcncjijaaGreat
namespace Go.Proofs.YtlbolnlcncjijaaGreat
open Go.RowKit
def ac68 : AC := (AC.seq (AC.ops [(AOp.mk (some 2) (AK.box 1 (AX.t 0)) none 0 false true), (AOp.mk (some 3) (AK.box 1 (AX.t 1)) none 1 false true), (AOp.mk (some 4) (AK.mv (AX.c (PV.val Value.nilFunc))) none 2 false true)]) (AC.seq (AC.ops [(AOp.mk (some 5) (AK.mkf 89 [] [(AX.t 3), (AX.t 2)]) none 0 false true), (AOp.mk (some 4) (AK.mv (AX.t 5)) none 1 false true)]) AC.ret))
theorem ac68_ok : cCode Tryz.prog (fun _ => false) Tryz.f68.ntmps (Tryz.f68.body.getD .skip) = some ac68 := by kernel_rfl
def ac89 : AC := (AC.seq (AC.ops [(AOp.mk (some 3) (AK.box 1 (AX.t 0)) none 0 false true)]) (AC.seq (AC.ops [(AOp.mk (some 4) (AK.new (PV.val Value.nilFunc)) none 0 false true)]) (AC.seq (AC.ops [(AOp.mk (some 5) (AK.mkf 90 [] [(AX.t 1), (AX.t 3), (AX.t 2), (AX.t 4)]) none 0 false true), (AOp.mk none (AK.st 1 (AX.t 4) (AX.t 5)) none 1 false true)]) (AC.ops [(AOp.mk (some 6) (AK.ld none (AX.t 4)) none 0 false true), (AOp.mk (some 7) (AK.callv (AX.t 6) [(AX.c (PV.sl SK.full 0 [])), (AX.c (PV.val (Value.int IntKind.i64 0)))]) none 1 false true)]))))
theorem ac89_ok : cCode Tryz.prog (fun _ => false) Tryz.f89.ntmps (Tryz.f89.body.getD .skip) = some ac89 := by kernel_rfl
def ac90 : AC := (AC.seq (AC.ops [(AOp.mk (some 8) (AK.mv (AX.c (PV.val (Value.bool false)))) none 0 false true)]) (AC.seq (AC.seq (AC.ops [(AOp.mk (some 10) (AK.mv (AX.t 0)) none 0 false true), (AOp.mk (some 11) (AK.len (AX.t 10)) none 1 false true), (AOp.mk (some 12) (AK.ld none (AX.t 2)) none 2 false true), (AOp.mk (some 13) (AK.bin false BinOp.eql (AX.t 11) (AX.t 12)) none 3 false true)]) (AC.cond (AX.t 13) (AC.seq (AC.ops [(AOp.mk (some 14) (AK.ld none (AX.t 3)) none 0 true false), (AOp.mk (some 15) (AK.mv (AX.t 0)) none 1 true false), (AOp.mk (some 16) (AK.call 34 [(AX.t 15)]) none 2 false false), (AOp.mk (some 17) (AK.callv (AX.t 14) [(AX.t 16)]) none 3 false true), (AOp.mk (some 8) (AK.mv (AX.t 17)) none 4 true true)]) AC.ret) AC.skip)) (AC.seq (AC.seq (AC.ops [(AOp.mk (some 18) (AK.mv (AX.t 1)) none 0 false true), (AOp.mk (some 9) (AK.mv (AX.t 18)) none 1 false true)]) (AC.block 0 (AC.loop (AC.seq (AC.seq (AC.ops [(AOp.mk (some 19) (AK.mv (AX.t 9)) none 0 false true), (AOp.mk (some 20) (AK.ld none (AX.t 4)) none 1 false true), (AOp.mk (some 21) (AK.bin false BinOp.lss (AX.t 19) (AX.t 20)) none 2 false true)]) (AC.cond (AX.t 21) AC.skip (AC.exit 0))) (AC.seq (AC.block 1 (AC.seq (AC.ops [(AOp.mk (some 24) (AK.ld none (AX.t 5)) none 0 true false), (AOp.mk (some 25) (AK.mv (AX.t 0)) none 1 true false), (AOp.mk (some 26) (AK.mv (AX.t 9)) none 2 true false), (AOp.mk (some 28) (AK.mv (AX.t 9)) none 4 true false), (AOp.mk (some 29) (AK.bin false BinOp.add (AX.t 28) (AX.c (PV.val (Value.int IntKind.i64 1)))) none 5 true false), (AOp.mk (some 27) (AK.call 46 [(AX.t 25), (AX.t 26)]) none 3 false false), (AOp.mk (some 30) (AK.callv (AX.t 24) [(AX.t 27), (AX.t 29)]) none 6 false true), (AOp.mk (some 31) (AK.un UnOp.not (AX.t 30)) none 7 true true)]) (AC.cond (AX.t 31) (AC.seq (AC.ops [(AOp.mk (some 8) (AK.mv (AX.c (PV.val (Value.bool false)))) none 0 false true)]) AC.ret) AC.skip))) (AC.ops [(AOp.mk (some 22) (AK.mv (AX.t 9)) none 0 false true), (AOp.mk (some 23) (AK.bin false BinOp.add (AX.t 22) (AX.c (PV.val (Value.int IntKind.i64 1)))) none 1 false true), (AOp.mk (some 9) (AK.mv (AX.t 23)) none 2 false true)])))))) (AC.seq (AC.ops [(AOp.mk (some 8) (AK.mv (AX.c (PV.val (Value.bool true)))) none 0 false true)]) AC.ret))))
theorem ac90_ok : cCode Tryz.prog (fun _ => false) Tryz.f90.ntmps (Tryz.f90.body.getD .skip) = some ac90 := by kernel_rfl
def listsF (e : Nat) : Nat → List Int → Nat → List (List Int)
  | 0, l, _ => [l]
  | r + 1, l, a => ((List.range (e - a)).map fun q => a + q).flatMap fun (n : Nat) => listsF e r (l ++ [(n : Int)]) (n + 1)
def encLs (ls : List (List Int)) : List (List PV) := ls.map fun l => [pis l]
theorem encLs_append (l r : List (List Int)) : encLs (l ++ r) = encLs l ++ encLs r := by simp [encLs]
def LS (m e : Nat) : List ABlk := [.cells [.p .yld], .cells [.clo 90 [] [.p (.ptr [pi m] 0), .loc 0 0, .p (.ptr [pi e] 0), .loc 1 0]]]
theorem take_LS {m e : Nat} {L : List ABlk} (h : L.take 2 = LS m e) : ∃ X, L = LS m e ++ X := ⟨L.drop 2, by rw [← h, List.take_append_drop]⟩
def ListsOk (m e r : Nat) : Prop := ∀ (k : SK) (sz : Nat) (l : List Int) (a : Nat) (rest : List (List PV)), (sz = 1 ∨ l = []) → l.length + r = m → a ≤ e →
  SemM Tryz.prog Fence.wide 90 [.p (.sl k sz (l.map fun x => [pi x])), .p (pi a), .p (.ptr [pi m] 0), .loc 0 0, .p (.ptr [pi e] 0), .loc 1 0] (LS m e) (some (encLs (listsF e r l a) ++ rest))
    (fun v L' ys' => L'.take 2 = LS m e ∧ ((v = .p (pb true) ∧ ys' = some rest) ∨ (v = .p (pb false) ∧ ys' = none)))
theorem lists_zero (m e : Nat) : ListsOk m e 0 := by
  intro k sz l a rest hsz hl ha
  refine semM_of_exec' mixed Tryz.func90 (by kernel_rfl) (by kernel_rfl) ac90_ok 6 rfl (by decide) [(.tmp 8)] (by kernel_rfl) ?_
  intro C hC hI
  unfold ac90
  simp only [go_sem, Nat.reduceBEq, Nat.reduceAdd, LS, List.length_map]
  have hlm : (l.length : Int) = m := by omega
  refine ⟨fun _ => ?_, fun h => absurd hlm h⟩
  refine call_pure2 hC (handedOn_sem k sz l hsz) rfl (PVleL_refl _) ?_
  rintro r rfl
  simp only [go_sem, Nat.reduceBEq]
  rw [show encLs (listsF e 0 l a) ++ rest = [pis l] :: rest from rfl]
  simp only [go_sem, Nat.reduceBEq]
  refine ⟨⟨PVle.sh _ _ _, trivial⟩, ?_, ?_⟩
  · exact retMQ_one rfl ⟨rfl, .inl ⟨rfl, rfl⟩⟩
  · exact retMQ_one rfl ⟨rfl, .inr ⟨rfl, rfl⟩⟩
def spanN (a e j : Nat) : List Nat := ((List.range (e - a)).map fun q => a + q).drop j
theorem spanN_next {a e j : Nat} (h : j < e - a) : spanN a e j = (a + j) :: spanN a e (j + 1) := by
  unfold spanN
  rw [List.drop_eq_getElem_cons (by simpa using h)]
  simp
theorem lists_step {m e r : Nat} (hm : m ≤ 100) (he : e ≤ 100) (hrec : ListsOk m e r) : ListsOk m e (r + 1) := by
  intro k sz l a rest hsz hl ha
  have hlm : ¬ (l.length : Int) = m := by omega
  refine semM_of_exec' mixed Tryz.func90 (by kernel_rfl) (by kernel_rfl) ac90_ok 6 rfl (by decide) [(.tmp 8)] (by kernel_rfl) ?_
  intro C hC hI
  unfold ac90
  simp only [go_sem, Nat.reduceBEq, Nat.reduceAdd, LS, List.length_map]
  refine ⟨fun h => absurd h hlm, fun _ => ?_⟩
  refine loop_ky (e - a) (fun _ => True) [0, 4, 5] (fun j => [(9, .p (pi ((a + j : Nat) : Int)))]) (fun _ => LS m e) (fun j => some (encLs ((spanN a e j).flatMap fun (n : Nat) => listsF e r (l ++ [(n : Int)]) (n + 1)) ++ rest)) trivial (by simp [Wk, wkT, wkL, look, AV.lo, AV.lo.loL, keepS, LS, listsF, spanN]) ?_
  rintro j ⟨hj, -⟩
  unfold LS
  simp only [go_sem, Nat.reduceBEq]
  refine ⟨fun h5 => ?_, fun h5 => ?_⟩
  · have hj2 : j < e - a := by omega
    have hnx : IntKind.i64.wrap (((a + j : Nat) : Int) + 1) = ((a + (j + 1) : Nat) : Int) := wrap_succ (by omega)
    rw [spanN_next hj2, List.flatMap_cons, encLs_append, List.append_assoc]
    simp only [go_sem, hnx]
    refine call_pure2 hC (with_sem k sz l ((a + j : Nat) : Int) hsz (by omega)) rfl (PVleL_refl _) ?_
    rintro r rfl
    simp only [go_sem, Nat.reduceBEq]
    refine call_mem2 hC [0, 1] (hrec .sh 1 (l ++ [((a + j : Nat) : Int)]) (a + j + 1) _ (.inl rfl) (by simp; omega) (by omega)) rfl (by decide) rfl rfl rfl rfl (by simp) ?_
    rintro v L' ys' ⟨hL2, hcase⟩ -
    obtain ⟨X, rfl⟩ := take_LS hL2
    rcases hcase with ⟨rfl, rfl⟩ | ⟨rfl, rfl⟩
    · unfold LS
      simp only [go_sem, Nat.reduceBEq, Nat.reduceAdd, hnx]
      refine ⟨⟨j + 1, hj2, trivial⟩, by simp only; omega, ?_⟩
      exact by simp [Wk, wkT, wkL, look, AV.lo, AV.lo.loL, ABlk.toZ]
    · unfold LS
      simp only [go_sem, Nat.reduceBEq, Nat.reduceAdd]
      exact retMQ_one rfl ⟨rfl, .inr ⟨rfl, rfl⟩⟩
  · have hjn : j = e - a := by omega
    subst hjn
    rw [show spanN a e (e - a) = [] from List.drop_eq_nil_of_le (by simp)]
    exact retMQ_one rfl ⟨rfl, .inl ⟨rfl, rfl⟩⟩
theorem lists_ok {m e : Nat} (hm : m ≤ 100) (he : e ≤ 100) : ∀ r, ListsOk m e r
  | 0 => lists_zero m e
  | r + 1 => lists_step hm he (lists_ok hm he r)
def listsL (e m : Nat) : List (List Int) := listsF e m [] 0
theorem lists_it {m e : Nat} (hm : m ≤ 100) (he : e ≤ 100) : IterC Tryz.prog Fence.wide 89 [.yld, .ptr [pi m] 0, .ptr [pi e] 0] (encLs (listsL e m)) := by
  refine iterC_of_exec' mixed Tryz.func89 (by kernel_rfl) (by kernel_rfl) ac89_ok 3 rfl (by decide) (by kernel_rfl) ?_
  intro C hC hI
  unfold ac89
  simp only [go_sem, Nat.reduceBEq, Nat.reduceAdd, putCells]
  rw [show encLs (listsL e m) = encLs (listsF e m [] 0) ++ [] from (List.append_nil _).symm]
  refine call_mem2 hC [0, 1] (lists_ok hm he m .full 0 [] 0 [] (.inr rfl) (by simp) (by omega)) rfl (by decide) rfl rfl rfl rfl (by simp) ?_
  rintro v L' ys' ⟨hL2, hcase⟩ -
  rcases hcase with ⟨rfl, rfl⟩ | ⟨rfl, rfl⟩
  · exact .inl rfl
  · exact .inr rfl
theorem lists_sem (e m : Nat) : Sem1 68 [pi e, pi m] (.clo 89 [] [.ptr [pi m] 0, .ptr [pi e] 0]) := by
  refine semC_of_exec' mixed Tryz.func68 (by kernel_rfl) (by kernel_rfl) ac68_ok 2 rfl (by decide) [(.tmp 4)] (by kernel_rfl) ?_
  intro hr C hC hI
  unfold ac68
  simp only [go_sem, Nat.reduceBEq]
  exact retQ_pur rfl rfl (PVle.refl _) rfl
theorem noY_encLs (ls : List (List Int)) : noY.noYR (encLs ls) = true := noYR_map (fun h => by simp only [noY.noYL, noY_ints, Bool.and_true]) ls
end Go.Proofs.YtlbolnlcncjijaaGreat
