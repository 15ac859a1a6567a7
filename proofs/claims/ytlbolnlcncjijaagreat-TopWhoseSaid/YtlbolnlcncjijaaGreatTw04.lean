/- Contracts of dapple: which horses must go. Contracts of dapple: who can have a size at a place. Contracts of dapple: who can have a size at a place, all of them. Contracts of dapple: rows that no horse has. -/
import Derived.Test.YtlbolnlcncjijaaGreatTw03
namespace Go.Proofs.YtlbolnlcncjijaaGreat
open Go.RowKit
def ac91 : AC := (AC.seq (AC.ops [(AOp.mk (some 6) (AK.mv (AX.c (PV.val (Value.bool false)))) none 0 false true)]) (AC.seq (AC.ops [(AOp.mk (some 7) (AK.ld none (AX.t 2)) none 0 false true), (AOp.mk (some 8) (AK.mv (AX.t 0)) none 1 false true), (AOp.mk (some 9) (AK.call 92 [(AX.t 7), (AX.t 8)]) none 2 false true), (AOp.mk (some 10) (AK.un UnOp.not (AX.t 9)) none 3 false true), (AOp.mk (some 11) (AK.mv (AX.t 10)) none 4 false true), (AOp.mk (some 12) (AK.ld none (AX.t 2)) (some (11, true)) 5 false true), (AOp.mk (some 13) (AK.mv (AX.t 1)) (some (11, true)) 6 false true), (AOp.mk (some 14) (AK.call 92 [(AX.t 12), (AX.t 13)]) (some (11, true)) 7 false true), (AOp.mk (some 15) (AK.un UnOp.not (AX.t 14)) (some (11, true)) 8 false true), (AOp.mk (some 16) (AK.pick (AX.t 11) (AX.t 15) (AX.c (PV.val (Value.bool false)))) none 9 false true), (AOp.mk (some 17) (AK.mv (AX.t 16)) none 10 false true), (AOp.mk (some 18) (AK.ld none (AX.t 3)) (some (17, true)) 11 false true), (AOp.mk (some 19) (AK.mv (AX.t 0)) (some (17, true)) 12 false true), (AOp.mk (some 20) (AK.mv (AX.t 1)) (some (17, true)) 13 false true), (AOp.mk (some 21) (AK.call 93 [(AX.t 18), (AX.t 19), (AX.t 20)]) (some (17, true)) 14 false true), (AOp.mk (some 22) (AK.pick (AX.t 17) (AX.t 21) (AX.c (PV.val (Value.bool false)))) none 15 false true), (AOp.mk (some 6) (AK.mv (AX.t 22)) none 16 false true)]) AC.ret))
theorem ac91_ok : cCode Tryz.prog (fun _ => false) Tryz.f91.ntmps (Tryz.f91.body.getD .skip) = some ac91 := by kernel_rfl
def ac69 : AC := (AC.seq (AC.ops [(AOp.mk (some 2) (AK.box 1 (AX.t 0)) none 0 false true), (AOp.mk (some 3) (AK.box 1 (AX.t 1)) none 1 false true), (AOp.mk (some 4) (AK.mv (AX.c (PV.val (Value.bool false)))) none 2 false true)]) (AC.seq (AC.ops [(AOp.mk (some 9) (AK.mkf 91 [] [(AX.t 3), (AX.t 2)]) none 0 false true), (AOp.mk (some 5) (AK.mv (AX.t 9)) none 1 false true)]) (AC.seq (AC.ops [(AOp.mk (some 11) (AK.ld none (AX.t 2)) none 0 false true), (AOp.mk (some 12) (AK.nilc (AX.t 11)) none 1 false true), (AOp.mk (some 13) (AK.fadr 0 (AX.t 12)) none 2 false true), (AOp.mk (some 14) (AK.fadr 1 (AX.t 13)) none 3 false true), (AOp.mk (some 15) (AK.ld none (AX.t 14)) none 4 false true), (AOp.mk (some 16) (AK.len (AX.t 15)) none 5 false true), (AOp.mk (some 17) (AK.mv (AX.t 5)) none 6 false true), (AOp.mk (some 18) (AK.call 94 [(AX.t 16), (AX.t 17)]) none 7 false true), (AOp.mk (some 10) (AK.mv (AX.t 18)) none 8 false true), (AOp.mk (some 19) (AK.ext (AX.t 10) 0) none 9 false true), (AOp.mk (some 20) (AK.ext (AX.t 10) 1) none 10 false true), (AOp.mk (some 21) (AK.ext (AX.t 10) 2) none 11 false true), (AOp.mk (some 6) (AK.mv (AX.t 19)) none 12 false true), (AOp.mk (some 7) (AK.mv (AX.t 20)) none 13 false true), (AOp.mk (some 8) (AK.mv (AX.t 21)) none 14 false true)]) (AC.seq (AC.ops [(AOp.mk (some 22) (AK.mv (AX.t 8)) none 0 false true), (AOp.mk (some 23) (AK.bin false BinOp.eql (AX.t 22) (AX.c (PV.val (Value.int IntKind.i64 4)))) none 1 false true), (AOp.mk (some 4) (AK.mv (AX.t 23)) none 2 false true)]) AC.ret))))
theorem ac69_ok : cCode Tryz.prog (fun _ => false) Tryz.f69.ntmps (Tryz.f69.body.getD .skip) = some ac69 := by kernel_rfl
def ac41 : AC := (AC.seq (AC.ops [(AOp.mk (some 1) (AK.box 1 (AX.t 0)) none 0 false true), (AOp.mk (some 2) (AK.new (PV.sl SK.full 0 [])) none 1 false true)]) (AC.seq (AC.seq (AC.ops [(AOp.mk (some 5) (AK.ld none (AX.t 1)) none 0 false true), (AOp.mk (some 6) (AK.nilc (AX.t 5)) none 1 false true), (AOp.mk (some 7) (AK.fadr 0 (AX.t 6)) none 2 false true), (AOp.mk (some 8) (AK.fadr 1 (AX.t 7)) none 3 false true), (AOp.mk (some 9) (AK.ld none (AX.t 8)) none 4 false true), (AOp.mk (some 10) (AK.len (AX.t 9)) none 5 false true), (AOp.mk (some 11) (AK.bin false BinOp.add (AX.t 10) (AX.c (PV.val (Value.int IntKind.i64 1)))) none 6 false true), (AOp.mk (some 12) (AK.mv (AX.c (PV.val (Value.int IntKind.i64 0)))) none 7 false true)]) (AC.block 0 (AC.loop (AC.seq (AC.ops [(AOp.mk (some 13) (AK.bin false BinOp.lss (AX.t 12) (AX.t 11)) none 0 false true)]) (AC.seq (AC.cond (AX.t 13) AC.skip (AC.exit 0)) (AC.seq (AC.block 1 (AC.seq (AC.ops [(AOp.mk (some 14) (AK.mv (AX.t 12)) none 0 false true), (AOp.mk (some 3) (AK.mv (AX.t 14)) none 1 false true)]) (AC.seq (AC.ops [(AOp.mk (some 15) (AK.ld none (AX.t 1)) none 0 false true), (AOp.mk (some 16) (AK.nilc (AX.t 15)) none 1 false true), (AOp.mk (some 17) (AK.fadr 0 (AX.t 16)) none 2 false true), (AOp.mk (some 18) (AK.fadr 1 (AX.t 17)) none 3 false true), (AOp.mk (some 19) (AK.ld none (AX.t 18)) none 4 false true), (AOp.mk (some 20) (AK.len (AX.t 19)) none 5 false true), (AOp.mk (some 21) (AK.mv (AX.t 3)) none 6 false true), (AOp.mk (some 22) (AK.call 68 [(AX.t 20), (AX.t 21)]) none 7 false true)]) (AC.block 2 (AC.rng (AX.t 22) [23] (AC.ops [(AOp.mk (some 4) (AK.mv (AX.t 23)) none 0 false true)]) (AC.block 3 (AC.seq (AC.ops [(AOp.mk (some 24) (AK.ld none (AX.t 1)) none 0 false true), (AOp.mk (some 25) (AK.mv (AX.t 4)) none 1 false true), (AOp.mk (some 26) (AK.call 69 [(AX.t 24), (AX.t 25)]) none 2 false true)]) (AC.cond (AX.t 26) (AC.seq (AC.ops [(AOp.mk (some 27) (AK.mv (AX.t 4)) none 0 false true), (AOp.mk none (AK.st 1 (AX.t 2) (AX.t 27)) none 1 false true)]) AC.ret) AC.skip)))))))) (AC.ops [(AOp.mk (some 28) (AK.bin false BinOp.add (AX.t 12) (AX.c (PV.val (Value.int IntKind.i64 1)))) none 0 false true), (AOp.mk (some 12) (AK.mv (AX.t 28)) none 1 false true)]))))))) (AC.seq (AC.ops [(AOp.mk none (AK.st 1 (AX.t 2) (AX.c (PV.sl SK.full 0 []))) none 0 false true)]) AC.ret)))
theorem ac41_ok : cCode Tryz.prog (fun _ => false) Tryz.f41.ntmps (Tryz.f41.body.getD .skip) = some ac41 := by kernel_rfl
def ac22 : AC := (AC.seq (AC.ops [(AOp.mk (some 1) (AK.box 2 (AX.t 0)) none 0 false true), (AOp.mk (some 2) (AK.mv (AX.c (PV.sl SK.full 0 []))) none 1 false true), (AOp.mk (some 3) (AK.mv (AX.c (PV.val (Value.int IntKind.i64 0)))) none 2 false true)]) (AC.seq (AC.ops [(AOp.mk (some 7) (AK.ld (some 2) (AX.t 1)) none 0 false true), (AOp.mk (some 8) (AK.call 23 [(AX.t 7), (AX.c (PV.val (Value.bool true)))]) none 1 false true), (AOp.mk (some 6) (AK.mv (AX.t 8)) none 2 false true), (AOp.mk (some 9) (AK.ext (AX.t 6) 0) none 3 false true), (AOp.mk (some 10) (AK.ext (AX.t 6) 1) none 4 false true), (AOp.mk (some 4) (AK.mv (AX.t 9)) none 5 false true), (AOp.mk (some 5) (AK.mv (AX.t 10)) none 6 false true)]) (AC.seq (AC.seq (AC.ops [(AOp.mk (some 11) (AK.mv (AX.t 5)) none 0 false true), (AOp.mk (some 12) (AK.bin false BinOp.neq (AX.t 11) (AX.c (PV.val (Value.int IntKind.i64 0)))) none 1 false true)]) (AC.cond (AX.t 12) (AC.seq (AC.ops [(AOp.mk (some 13) (AK.mv (AX.t 5)) none 0 false true), (AOp.mk (some 2) (AK.mv (AX.c (PV.sl SK.full 0 []))) none 1 false true), (AOp.mk (some 3) (AK.mv (AX.t 13)) none 2 false true)]) AC.ret) AC.skip)) (AC.seq (AC.ops [(AOp.mk (some 14) (AK.mv (AX.t 4)) none 0 false true), (AOp.mk (some 15) (AK.call 41 [(AX.t 14)]) none 1 false true), (AOp.mk (some 2) (AK.mv (AX.t 15)) none 2 false true), (AOp.mk (some 3) (AK.mv (AX.c (PV.val (Value.int IntKind.i64 0)))) none 3 false true)]) AC.ret))))
theorem ac22_ok : cCode Tryz.prog (fun _ => false) Tryz.f22.ntmps (Tryz.f22.body.getD .skip) = some ac22 := by kernel_rfl
def leftP (b : DBook) (out : List Int) (i j : Nat) : Bool := !decide ((i : Int) ∈ out) && !decide ((j : Int) ∈ out) && decide (sameI b i j ≠ 0)
theorem isRidBy1_sem (k : SK) {b : DBook} (ho : okBook b) (out : List Int) {i j : Nat} (hi : i < j) (hj : j < b.horses.length) : Sem1 91 ([] ++ [pi i, pi j] ++ [.ptr [pis out] 0, .ptr [bookP k b] 0]) (pb (leftP b out i j)) := by
  simp only [List.nil_append, List.cons_append]
  obtain ⟨R, hR⟩ : ∃ R, leftP b out i j = R := ⟨_, rfl⟩
  rw [hR]
  unfold leftP at hR
  refine semC_of_exec' mixed Tryz.func91 (by kernel_rfl) (by kernel_rfl) ac91_ok 4 rfl (by decide) [(.tmp 6)] (by kernel_rfl) ?_
  intro hr C hC hI
  unfold ac91
  simp only [go_sem, Nat.reduceBEq, Nat.reduceAdd]
  refine call_pure2 hC (Contains_sem out i) rfl (PVleL_refl _) ?_
  rintro r rfl
  simp only [go_sem, Nat.reduceBEq]
  refine ⟨fun h1 => ?_, fun h1 => retQ_one rfl (congrArg pb (by rw [← hR]; simp [h1]))⟩
  refine call_pure2 hC (Contains_sem out j) rfl (PVleL_refl _) ?_
  rintro r rfl
  simp only [go_sem, Nat.reduceBEq]
  refine ⟨fun h2 => ?_, fun h2 => retQ_one rfl (congrArg pb (by rw [← hR]; simp [h2]))⟩
  refine call_pure2 hC (canBeSame_sem k ho (by omega) hj) rfl (PVleL_refl _) ?_
  rintro r rfl
  simp only [go_sem, Nat.reduceBEq]
  exact retQ_one rfl (congrArg pb (by rw [← hR]; simp [h1, h2]))
def ridP (b : DBook) (out : List Int) : Bool := ((listsL b.horses.length 2).find? (pairP (leftP b out))).isNone
theorem isRidBy_sem (k : SK) {b : DBook} (ho : okBook b) (out : List Int) : Sem1 69 [bookP k b, pis out] (pb (ridP b out)) := by
  have h6 := ho.2.1
  refine semC_of_exec' mixed Tryz.func69 (by kernel_rfl) (by kernel_rfl) ac69_ok 2 rfl (by decide) [(.tmp 4)] (by kernel_rfl) ?_
  intro hr C hC hI
  unfold ac69
  simp only [go_sem, Nat.reduceBEq, List.length_map]
  refine call_purA hC (firstPair_sem (by omega) fun i j h1 h2 => isRidBy1_sem k ho out h1 h2) (L' := [.frz [bookP k b], .frz [pis out]]) rfl (PVleL_refl _) ?_
  rintro r rfl
  unfold ridP twoP
  cases (listsL b.horses.length 2).find? (pairP (leftP b out)) with
  | none =>
    simp only [go_sem, Nat.reduceBEq]
    exact retQ_one rfl rfl
  | some l =>
    simp only [go_sem, Nat.reduceBEq]
    exact retQ_one rfl rfl
def dropAt (b : DBook) (m : Nat) : Option (List Int) := (listsL b.horses.length m).find? (ridP b)
def dropO (b : DBook) : Option (List Int) := (List.range (b.horses.length + 1)).findSome? (dropAt b)
def dropI (b : DBook) : List Int := (dropO b).getD []
theorem dropO_some {b : DBook} {m : Nat} {l : List Int} (hm : m < b.horses.length + 1) (h : ∀ x < m, dropAt b x = none) (hl : dropAt b m = some l) : dropI b = l := by
  unfold dropI dropO
  have : (List.range (b.horses.length + 1)).findSome? (dropAt b) = some l := by
    rw [List.findSome?_eq_some_iff]
    refine ⟨List.range m, m, (List.range' (m + 1) (b.horses.length - m)), ?_, hl, fun x hx => h x (List.mem_range.1 hx)⟩
    rw [List.range_eq_range', List.range_eq_range', ← List.range'_succ]
    have := List.range'_append (s := 0) (m := m) (n := b.horses.length - m + 1) (step := 1)
    rw [Nat.one_mul, Nat.zero_add, show m + (b.horses.length - m + 1) = b.horses.length + 1 by omega] at this
    exact this.symm
  rw [this]; rfl
theorem dropO_none {b : DBook} (h : ∀ x < b.horses.length + 1, dropAt b x = none) : dropI b = [] := by
  unfold dropI dropO
  have : (List.range (b.horses.length + 1)).findSome? (dropAt b) = none := List.findSome?_eq_none_iff.2 fun x hx => h x (List.mem_range.1 hx)
  rw [this]; rfl
theorem drop_sem (k : SK) {b : DBook} (ho : okBook b) : Sem1 41 [bookP k b] (pis (dropI b)) := by
  have h6 := ho.2.1
  refine semC_of_exec' mixed Tryz.func41 (by kernel_rfl) (by kernel_rfl) ac41_ok 1 rfl (by decide) [(.cell 2 25)] (by kernel_rfl) ?_
  intro hr C hC hI
  unfold ac41
  simp only [go_sem, Nat.reduceBEq, List.length_map]
  simp only [go_sem, wrap_succ (k := b.horses.length) (by omega)]
  refine loop_k (b.horses.length + 1) (fun m => ∀ x < m, dropAt b x = none) [1, 2, 11] (fun m => [(12, .p (pi m))]) (fun x h => absurd h (by omega)) rfl ⟨rfl, by simp, by simp⟩ (by simp [wkT, look, AV.lo]) ?_
  rintro m ⟨hm, hok⟩
  simp only [go_sem, Nat.reduceBEq]
  refine ⟨fun h5 => ?_, fun h5 => ?_⟩
  · have hm2 : m < b.horses.length + 1 := by omega
    simp only [go_sem, List.length_map]
    refine call_pure2 hC (lists_sem b.horses.length m) rfl (PVleL_refl _) ?_
    rintro r rfl
    simp only [go_sem]
    refine rng_m (ι := Unit) (listsL b.horses.length m) (fun l => [pis l]) [1, 2, 11, 12] (fun _ _ => [.cells [.p (bookP k b)], .cells [.p (.sl .full 0 [])]]) (fun _ _ => []) (fun _ => some []) (fun i _ => ∀ l ∈ (listsL b.horses.length m).take i, ridP b l = false) () rfl rfl (hI _ _ _ (lists_it (by omega) (by omega))) ?_ (fun _ => rfl) (by simp [Wk, wkT, wkL, look, AV.lo, AV.lo.loL, keepS]) (by simp) ?_ ?_
    · simp only [show noY.noYR ((listsL b.horses.length m).map fun l => [pis l]) = true from noY_encLs _, noY.noYL, noY, Bool.and_true]
    · rintro q - hq hk
      simp only [go_sem, Nat.reduceBEq, Nat.reduceAdd]
      refine call_pure2 hC (isRidBy_sem k ho _) rfl (PVleL_refl _) ?_
      rintro r rfl
      simp only [go_sem, Nat.reduceBEq]
      cases hp : ridP b (listsL b.horses.length m)[q]
      · simp only [go_sem]
        refine ⟨(), take_next hq hk hp, ?_⟩
        exact by simp [Wk, wkT, wkL, look, AV.lo, AV.lo.loL, ABlk.toZ]
      · have hd : dropI b = (listsL b.horses.length m)[q] := dropO_some hm2 hok (find_at hq hk hp)
        rw [hd]
        simp only [go_sem, Nat.reduceBEq, putCells]
        exact retQ_cell (n := none) (by kernel_rfl) rfl rfl
    · rintro - hk
      have hd : dropAt b m = none := find_no hk
      simp only [go_sem, Nat.reduceBEq, wrap_succ (k := m) (by omega)]
      refine ⟨⟨m + 1, hm2, fun x hx => ?_⟩, by simp only; omega, by simp [Wk, wkT, wkL, look, AV.lo, AV.lo.loL, ABlk.toZ]⟩
      by_cases h : x = m
      · rw [h]; exact hd
      · exact hok x (by omega)
  · have hd : dropI b = [] := dropO_none fun x hx => hok x (by omega)
    rw [hd]
    exact retQ_cell_le (n := none) (by kernel_rfl) rfl (PVle.nil .full 0 1) rfl
theorem Drop_sem (k : SK) (b : DBook) : Sem1 22 [.agg (bookC k b)] (if okBook b then .tup [pis (dropI b), pi 0] else .tup [pis [], pi 70]) := by
  refine semC_of_exec' mixed Tryz.func22 (by kernel_rfl) (by kernel_rfl) ac22_ok 1 rfl (by decide) [(.tmp 2), (.tmp 3)] (by kernel_rfl) ?_
  intro hr C hC hI
  unfold ac22
  simp only [go_sem, Nat.reduceBEq, Nat.reduceAdd]
  refine askP hC k b true (fun hne => ?_) (fun h0 => ?_)
  · have ho : ¬ okBook b := fun ho => errI_ne hne ⟨ho, rfl⟩
    have he : errI b true = 70 := by unfold errI; rw [if_neg ho]
    rw [he, if_neg ho]
    simp only [go_sem, Nat.reduceBEq]
    exact ⟨fun _ => retQ_two_le rfl rfl (PVle.nil _ _ _) (PVle.refl _) rfl, fun h => absurd h (by decide)⟩
  obtain ⟨ho, -⟩ := errI_ok h0
  rw [if_pos ho]
  simp only [go_sem, Nat.reduceBEq]
  refine ⟨fun h => h.elim, fun _ => ?_⟩
  refine call_pure2 hC (drop_sem k ho) rfl (PVleL_refl _) ?_
  rintro r rfl
  simp only [go_sem, Nat.reduceBEq]
  exact retQ_two rfl rfl rfl
end Go.Proofs.YtlbolnlcncjijaaGreat
namespace Go.Proofs.YtlbolnlcncjijaaGreat
open Go.RowKit
def ac72 : AC := (AC.seq (AC.ops [(AOp.mk (some 1) (AK.box 1 (AX.t 0)) none 0 false true), (AOp.mk (some 2) (AK.mv (AX.c (PV.val Value.nilFunc))) none 1 false true)]) (AC.seq (AC.ops [(AOp.mk (some 3) (AK.mkf 96 [] [(AX.t 1)]) none 0 false true), (AOp.mk (some 2) (AK.mv (AX.t 3)) none 1 false true)]) AC.ret))
theorem ac72_ok : cCode Tryz.prog (fun _ => false) Tryz.f72.ntmps (Tryz.f72.body.getD .skip) = some ac72 := by kernel_rfl
def ac96 : AC := (AC.seq (AC.ops [(AOp.mk (some 4) (AK.mv (AX.c (PV.val (Value.int IntKind.i64 0)))) none 0 false true)]) (AC.block 0 (AC.loop (AC.seq (AC.ops [(AOp.mk (some 5) (AK.bin false BinOp.lss (AX.t 4) (AX.c (PV.val (Value.int IntKind.i64 4)))) none 0 false true)]) (AC.seq (AC.cond (AX.t 5) AC.skip (AC.exit 0)) (AC.seq (AC.block 1 (AC.seq (AC.ops [(AOp.mk (some 6) (AK.mv (AX.t 4)) none 0 false true), (AOp.mk (some 3) (AK.mv (AX.t 6)) none 1 false true)]) (AC.seq (AC.ops [(AOp.mk (some 7) (AK.ld none (AX.t 1)) none 0 true false), (AOp.mk (some 8) (AK.mv (AX.t 3)) none 1 true false), (AOp.mk (some 9) (AK.call 51 [(AX.t 8)]) none 2 false false), (AOp.mk (some 10) (AK.call 80 [(AX.t 7), (AX.t 9)]) none 3 false true), (AOp.mk (some 11) (AK.mv (AX.t 10)) none 4 true true), (AOp.mk (some 12) (AK.mv (AX.t 0)) (some (11, true)) 5 true true), (AOp.mk (some 13) (AK.mv (AX.t 3)) (some (11, true)) 6 true true), (AOp.mk (some 14) (AK.callv (AX.t 12) [(AX.t 13)]) (some (11, true)) 7 false true), (AOp.mk (some 15) (AK.un UnOp.not (AX.t 14)) (some (11, true)) 8 true true), (AOp.mk (some 16) (AK.pick (AX.t 11) (AX.t 15) (AX.c (PV.val (Value.bool false)))) none 9 true true)]) (AC.cond (AX.t 16) AC.ret AC.skip)))) (AC.ops [(AOp.mk (some 17) (AK.bin false BinOp.add (AX.t 4) (AX.c (PV.val (Value.int IntKind.i64 1)))) none 0 false true), (AOp.mk (some 4) (AK.mv (AX.t 17)) none 1 false true)])))))))
theorem ac96_ok : cCode Tryz.prog (fun _ => false) Tryz.f96.ntmps (Tryz.f96.body.getD .skip) = some ac96 := by kernel_rfl
def ac73 : AC := (AC.seq (AC.ops [(AOp.mk (some 1) (AK.box 2 (AX.t 0)) none 0 false true), (AOp.mk (some 2) (AK.mv (AX.c (PV.val (Value.int IntKind.u64 0)))) none 1 false true)]) (AC.seq (AC.ops [(AOp.mk (some 3) (AK.fadr 0 (AX.t 1)) none 0 false true), (AOp.mk (some 4) (AK.ld none (AX.t 3)) none 1 false true), (AOp.mk (some 5) (AK.bin false BinOp.mul (AX.t 4) (AX.c (PV.val (Value.int IntKind.i64 8)))) none 2 false true), (AOp.mk (some 6) (AK.fadr 1 (AX.t 1)) none 3 false true), (AOp.mk (some 7) (AK.ld none (AX.t 6)) none 4 false true), (AOp.mk (some 8) (AK.bin false BinOp.add (AX.t 5) (AX.t 7)) none 5 false true), (AOp.mk (some 9) (AK.bin false BinOp.shl (AX.c (PV.val (Value.int IntKind.u64 1))) (AX.t 8)) none 6 false true), (AOp.mk (some 2) (AK.mv (AX.t 9)) none 7 false true)]) AC.ret))
theorem ac73_ok : cCode Tryz.prog (fun _ => false) Tryz.f73.ntmps (Tryz.f73.body.getD .skip) = some ac73 := by kernel_rfl
def ac43 : AC := (AC.seq (AC.ops [(AOp.mk (some 1) (AK.box 1 (AX.t 0)) none 0 false true), (AOp.mk (some 2) (AK.new (PV.agg [(PV.val (Value.int IntKind.u64 0)), (PV.val (Value.int IntKind.u64 0)), (PV.val (Value.int IntKind.u64 0)), (PV.val (Value.int IntKind.u64 0)), (PV.val (Value.int IntKind.u64 0)), (PV.val (Value.int IntKind.u64 0)), (PV.val (Value.int IntKind.u64 0)), (PV.val (Value.int IntKind.u64 0)), (PV.val (Value.int IntKind.u64 0)), (PV.val (Value.int IntKind.u64 0)), (PV.val (Value.int IntKind.u64 0)), (PV.val (Value.int IntKind.u64 0)), (PV.val (Value.int IntKind.u64 0)), (PV.val (Value.int IntKind.u64 0)), (PV.val (Value.int IntKind.u64 0)), (PV.val (Value.int IntKind.u64 0)), (PV.val (Value.int IntKind.u64 0)), (PV.val (Value.int IntKind.u64 0)), (PV.val (Value.int IntKind.u64 0)), (PV.val (Value.int IntKind.u64 0)), (PV.val (Value.int IntKind.u64 0)), (PV.val (Value.int IntKind.u64 0)), (PV.val (Value.int IntKind.u64 0)), (PV.val (Value.int IntKind.u64 0)), (PV.val (Value.int IntKind.u64 0)), (PV.val (Value.int IntKind.u64 0)), (PV.val (Value.int IntKind.u64 0)), (PV.val (Value.int IntKind.u64 0)), (PV.val (Value.int IntKind.u64 0)), (PV.val (Value.int IntKind.u64 0)), (PV.val (Value.int IntKind.u64 0)), (PV.val (Value.int IntKind.u64 0))])) none 1 false true)]) (AC.seq (AC.seq (AC.ops [(AOp.mk (some 7) (AK.ld none (AX.t 1)) none 0 false true), (AOp.mk (some 8) (AK.call 70 [(AX.t 7)]) none 1 false true)]) (AC.block 0 (AC.rng (AX.t 8) [9] (AC.ops [(AOp.mk (some 3) (AK.new (PV.agg [(PV.val (Value.int IntKind.i64 0)), (PV.val (Value.int IntKind.i64 0))])) none 0 false true), (AOp.mk none (AK.st 2 (AX.t 3) (AX.t 9)) none 1 false true)]) (AC.block 1 (AC.seq (AC.ops [(AOp.mk (some 10) (AK.ld none (AX.t 1)) none 0 true false), (AOp.mk (some 11) (AK.nilc (AX.t 10)) none 1 true false), (AOp.mk (some 12) (AK.fadr 2 (AX.t 11)) none 2 true false), (AOp.mk (some 13) (AK.ld none (AX.t 12)) none 3 true false), (AOp.mk (some 14) (AK.ld (some 2) (AX.t 3)) none 4 true false), (AOp.mk (some 15) (AK.lkp [CK.i, CK.i] true (PV.agg [(PV.val (Value.int IntKind.i64 0)), (PV.val (Value.int IntKind.i64 0)), (PV.val (Value.int IntKind.i64 0)), (PV.val (Value.int IntKind.i64 0)), (PV.val (Value.int IntKind.i64 0)), (PV.val (Value.int IntKind.i64 0)), (PV.val (Value.int IntKind.i64 0)), (PV.val (Value.int IntKind.i64 0))]) false (AX.t 13) (AX.t 14)) none 5 true true), (AOp.mk (some 16) (AK.mv (AX.c (PV.val (Value.int IntKind.i64 0)))) none 6 true false)]) (AC.block 2 (AC.loop (AC.seq (AC.ops [(AOp.mk (some 17) (AK.bin false BinOp.lss (AX.t 16) (AX.c (PV.val (Value.int IntKind.i64 8)))) none 0 false true)]) (AC.seq (AC.cond (AX.t 17) AC.skip (AC.exit 2)) (AC.seq (AC.block 3 (AC.seq (AC.ops [(AOp.mk (some 18) (AK.mv (AX.t 16)) none 0 false true), (AOp.mk (some 19) (AK.idx 1 8 none (AX.t 15) (AX.t 16)) none 1 false true), (AOp.mk (some 4) (AK.new (PV.val (Value.int IntKind.i64 0))) none 2 false true), (AOp.mk none (AK.st 1 (AX.t 4) (AX.t 18)) none 3 false true), (AOp.mk (some 5) (AK.mv (AX.t 19)) none 4 false true)]) (AC.seq (AC.ops [(AOp.mk (some 20) (AK.mv (AX.t 5)) none 0 false true), (AOp.mk (some 21) (AK.call 72 [(AX.t 20)]) none 1 false true)]) (AC.block 4 (AC.rng (AX.t 21) [22] (AC.ops [(AOp.mk (some 6) (AK.mv (AX.t 22)) none 0 false true)]) (AC.block 5 (AC.ops [(AOp.mk (some 23) (AK.ld none (AX.t 4)) none 0 true false), (AOp.mk (some 24) (AK.mv (AX.t 6)) none 1 true false), (AOp.mk (some 25) (AK.iadrA 4 8 (AX.t 2) (AX.t 23)) none 2 true false), (AOp.mk (some 26) (AK.iadrA 1 4 (AX.t 25) (AX.t 24)) none 3 true false), (AOp.mk (some 27) (AK.ld none (AX.t 26)) none 4 true false), (AOp.mk (some 28) (AK.ld (some 2) (AX.t 3)) none 5 true false), (AOp.mk (some 31) (AK.iadrA 4 8 (AX.t 2) (AX.t 23)) none 8 true false), (AOp.mk (some 29) (AK.call 73 [(AX.t 28)]) none 6 false false), (AOp.mk (some 30) (AK.bin false BinOp.or (AX.t 27) (AX.t 29)) none 7 true false), (AOp.mk (some 32) (AK.iadrA 1 4 (AX.t 31) (AX.t 24)) none 9 true true), (AOp.mk none (AK.st 1 (AX.t 32) (AX.t 30)) none 10 false true)]))))))) (AC.ops [(AOp.mk (some 33) (AK.bin false BinOp.add (AX.t 16) (AX.c (PV.val (Value.int IntKind.i64 1)))) none 0 false true), (AOp.mk (some 16) (AK.mv (AX.t 33)) none 1 false true)]))))))))))) (AC.seq (AC.ops [(AOp.mk (some 34) (AK.ld (some 32) (AX.t 2)) none 0 false true), (AOp.mk none (AK.st 32 (AX.t 2) (AX.t 34)) none 1 false true)]) AC.ret)))
theorem ac43_ok : cCode Tryz.prog (fun _ => false) Tryz.f43.ntmps (Tryz.f43.body.getD .skip) = some ac43 := by kernel_rfl
def hasS (x : Int) (s : Nat) : Bool := meetB x (2 ^ s)
def sizesL (x : Int) : List Nat := (List.range 4).filter (hasS x)
theorem sizes_sem (x : Int) : Sem1 72 [pi x] (.clo 96 [] [.ptr [pi x] 0]) := by
  refine semC_of_exec' mixed Tryz.func72 (by kernel_rfl) (by kernel_rfl) ac72_ok 1 rfl (by decide) [(.tmp 2)] (by kernel_rfl) ?_
  intro hr C hC hI
  unfold ac72
  simp only [go_sem, Nat.reduceBEq]
  exact retQ_pur rfl rfl (PVle.refl _) rfl
def sizesF (x : Int) (t : Nat) : List (List PV) := (((List.range 4).drop t).filter (hasS x)).map encT
theorem sizes_it (x : Int) : IterC Tryz.prog Fence.wide 96 [.yld, .ptr [pi x] 0] ((sizesL x).map encT) := by
  refine iterC_of_exec' mixed Tryz.func96 (by kernel_rfl) (by kernel_rfl) ac96_ok 2 rfl (by decide) (by kernel_rfl) ?_
  intro C hC hI
  unfold ac96
  simp only [go_sem]
  refine loop_ky 4 (fun _ => True) [0, 1] (fun t => [(4, .p (pi t))]) (fun _ => []) (fun t => some (sizesF x t)) trivial (by simp [Wk, wkT, wkL, look, AV.lo, keepS, sizesL, sizesF]) ?_
  rintro t ⟨ht, -⟩
  simp only [go_sem, Nat.reduceBEq]
  refine ⟨fun h5 => ?_, fun h5 => ?_⟩
  · have ht2 : t < 4 := by omega
    have hd : sizesF x t = (if hasS x t then [[pi t]] else []) ++ sizesF x (t + 1) := drop_filt (P := hasS x) ht2
    have hm : meetB x (2 ^ (t : Int).toNat) = hasS x t := rfl
    refine call_pure2 hC (alone_sem (show 0 ≤ (t : Int) ∧ (t : Int) ≤ 3 by omega)) rfl (PVleL_refl _) ?_
    rintro r rfl
    simp only [go_sem, Nat.reduceBEq]
    refine call_pure2 hC (canBe_sem x _) rfl (PVleL_refl _) ?_
    rintro r rfl
    simp only [go_sem, Nat.reduceBEq]
    rw [hm]
    cases hp : hasS x t
    · rw [hp, if_neg (by decide), List.nil_append] at hd
      simp only [go_sem, Nat.reduceBEq, wrap_succ (k := t) (by omega)]
      refine ⟨⟨t + 1, ht2, trivial⟩, by simp only; omega, ?_⟩
      rw [hd]
      exact by simp [Wk, wkT, wkL, look, AV.lo]
    · rw [hp, if_pos rfl, List.singleton_append] at hd
      rw [hd]
      simp only [go_sem, Nat.reduceBEq, wrap_succ (k := t) (by omega)]
      refine ⟨PVleL_refl _, ⟨⟨t + 1, ht2, trivial⟩, by simp only; omega, ?_⟩, .inr rfl⟩
      exact by simp [Wk, wkT, wkL, look, AV.lo]
  · have htn : t = 4 := by omega
    subst htn
    rw [show sizesF x 4 = [] from rfl]
    exact .inl rfl
abbrev pu (n : Nat) : PV := .val (.int .u64 n)
theorem wrap_u {n : Nat} (h : n < 2 ^ 64) : IntKind.u64.wrap (n : Int) = n := by
  have h1 : (n : Int) % 2 ^ 64 = n := Int.emod_eq_of_lt (by omega) (by omega)
  show (if (false && decide ((n : Int) % (2 : Int) ^ 64 ≥ (2 : Int) ^ 63)) = true then (n : Int) % (2 : Int) ^ 64 - (2 : Int) ^ 64 else (n : Int) % (2 : Int) ^ 64) = (n : Int)
  simp only [Bool.false_and, Bool.false_eq_true, if_false, h1]
theorem bits_u {n : Nat} : BitVec.ofInt 64 (n : Int) = BitVec.ofNat 64 n := by simp
theorem or_u {m n : Nat} (hm : m < 2 ^ 64) (hn : n < 2 ^ 64) : binS false .or (.p (pu m)) (.p (pu n)) = some (.p (pu (m ||| n))) := by
  rw [bin_or]
  show some (AV.p (.val (.int .u64 (IntKind.u64.wrap ((BitVec.ofInt 64 (m : Int) ||| BitVec.ofInt 64 (n : Int)).toNat : Int))))) = _
  have e : (BitVec.ofInt 64 (m : Int) ||| BitVec.ofInt 64 (n : Int)).toNat = m ||| n := by
    rw [bits_u, bits_u, BitVec.toNat_or, BitVec.toNat_ofNat, BitVec.toNat_ofNat, Nat.mod_eq_of_lt hm, Nat.mod_eq_of_lt hn]
  rw [e, wrap_u (Nat.or_lt_two_pow hm hn)]
theorem and_u {m n : Nat} (hm : m < 2 ^ 64) (hn : n < 2 ^ 64) : binS false .and (.p (pu m)) (.p (pu n)) = some (.p (pu (m &&& n))) := by
  rw [bin_and]
  show some (AV.p (.val (.int .u64 (IntKind.u64.wrap ((BitVec.ofInt 64 (m : Int) &&& BitVec.ofInt 64 (n : Int)).toNat : Int))))) = _
  have e : (BitVec.ofInt 64 (m : Int) &&& BitVec.ofInt 64 (n : Int)).toNat = m &&& n := by
    rw [bits_u, bits_u, BitVec.toNat_and, BitVec.toNat_ofNat, BitVec.toNat_ofNat, Nat.mod_eq_of_lt hm, Nat.mod_eq_of_lt hn]
  rw [e, wrap_u (Nat.and_lt_two_pow m hn)]
def ownK (v : Nat × Nat) : Nat := v.1 * 8 + v.2
theorem owner_sem {h t : Nat} (hh : h < 6) (ht : t < 8) : Sem1 73 [.agg [pi h, pi t]] (pu (2 ^ ownK (h, t))) := by
  have hk : h * 8 + t < 64 := by omega
  have e1 : (h : Int) * 8 = ((h * 8 : Nat) : Int) := by omega
  have e2 : ((h * 8 : Nat) : Int) + t = ((h * 8 + t : Nat) : Int) := by omega
  have hp : 2 ^ (h * 8 + t) < 2 ^ 64 := Nat.pow_lt_pow_right (by omega) hk
  have e3 : IntKind.u64.wrap (1 * 2 ^ min ((h * 8 + t : Nat) : Int).toNat 64) = ((2 ^ (h * 8 + t) : Nat) : Int) := by
    rw [Int.toNat_natCast, Nat.min_eq_left (by omega), Int.one_mul, show (2 : Int) ^ (h * 8 + t) = ((2 ^ (h * 8 + t) : Nat) : Int) by simp, wrap_u hp]
  refine semC_of_exec' mixed Tryz.func73 (by kernel_rfl) (by kernel_rfl) ac73_ok 1 rfl (by decide) [(.tmp 2)] (by kernel_rfl) ?_
  intro hr C hC hI
  unfold ac73
  simp only [go_sem, Nat.reduceBEq, Nat.reduceAdd, wrap_id (n := (h : Int) * 8) (by omega) (by omega), wrap_id (n := (h : Int) * 8 + t) (by omega) (by omega), bin_shl (show ¬ (h : Int) * 8 + t < 0 by omega)]
  refine retQ_one rfl ?_
  rw [e1, e2, e3]
  rfl
def addO (b : DBook) (p s m : Nat) (v : Nat × Nat) : Nat := if hasS ((rowL b v.1 v.2).getD p 0) s then m ||| 2 ^ ownK v else m
def ownF (b : DBook) (i p s : Nat) : Nat := ((viewsL b).take i).foldl (addO b p s) 0
def arrO (f : Nat → Nat → Nat) : List PV := (List.range 32).map fun q => pu (f (q / 4) (q % 4))
theorem arrO_len (f : Nat → Nat → Nat) : (arrO f).length = 32 := by simp [arrO]
theorem arrO_put (f g : Nat → Nat → Nat) {p s : Nat} (hp : p < 8) (hs : s < 4) (h : ∀ p' s', (p', s') ≠ (p, s) → p' < 8 → s' < 4 → f p' s' = g p' s') : List.take (p * 4 + s) ((arrO f).map AV.p) ++ [.p (pu (g p s))] ++ List.drop (p * 4 + s + 1) ((arrO f).map AV.p) = (arrO g).map AV.p := by
  apply List.ext_getElem?
  intro q
  simp only [List.map_map, arrO]
  have hq32 : p * 4 + s < 32 := by omega
  rcases Nat.lt_trichotomy q (p * 4 + s) with hq | rfl | hq
  · rw [List.append_assoc, List.getElem?_append_left (by simp; omega), List.getElem?_take_of_lt hq]
    have e := h (q / 4) (q % 4) (fun e => by simp only [Prod.mk.injEq] at e; omega) (by omega) (by omega)
    simp [List.getElem?_range (show q < 32 by omega), e]
  · rw [List.append_assoc, List.getElem?_append_right (by simp; omega)]
    simp [List.getElem?_range hq32, show min (p * 4 + s) 32 = p * 4 + s by omega, show (p * 4 + s) / 4 = p by omega, show (p * 4 + s) % 4 = s by omega]
  · rw [List.getElem?_append_right (by simp; omega), List.getElem?_drop]
    simp only [List.length_append, List.length_take, List.length_map, List.length_range, List.length_cons, List.length_nil, Nat.min_eq_left (show p * 4 + s ≤ 32 by omega)]
    rw [show p * 4 + s + 1 + (q - (p * 4 + s + (0 + 1))) = q by omega]
    by_cases h8 : q < 32
    · have e := h (q / 4) (q % 4) (fun e => by simp only [Prod.mk.injEq] at e; omega) (by omega) (by omega)
      simp [List.getElem?_range h8, e]
    · simp [List.getElem?_eq_none (show (List.range 32).length ≤ q by simp; omega)]
theorem arrO_get (f : Nat → Nat → Nat) {p s : Nat} (hp : p < 8) (hs : s < 4) : ((arrO f).map AV.p)[p * 4 + s]? = some (.p (pu (f p s))) := by
  simp [arrO, List.getElem?_range (show p * 4 + s < 32 by omega), show (p * 4 + s) / 4 = p by omega, show (p * 4 + s) % 4 = s by omega]
theorem arrO_getp (f : Nat → Nat → Nat) {p s : Nat} (hp : p < 8) (hs : s < 4) : (arrO f)[p * 4 + s]? = some (pu (f p s)) := by
  simp [arrO, List.getElem?_range (show p * 4 + s < 32 by omega), show (p * 4 + s) / 4 = p by omega, show (p * 4 + s) % 4 = s by omega]
theorem addO_lt {b : DBook} {p s m : Nat} {v : Nat × Nat} (hm : m < 2 ^ 64) (hv : ownK v < 64) : addO b p s m v < 2 ^ 64 := by
  unfold addO
  split
  · exact Nat.or_lt_two_pow hm (Nat.pow_lt_pow_right (by omega) hv)
  · exact hm
theorem ownK_lt {b : DBook} (ho : okBook b) {v : Nat × Nat} (h : v ∈ viewsL b) : ownK v < 64 := by
  obtain ⟨i, hi, rfl⟩ := List.mem_iff_getElem.1 h
  obtain ⟨hh, t, e, h1, h2⟩ := views_get hi
  have := ho.2.1
  have := (okR ho).2.1
  rw [e]
  unfold ownK
  simp only
  omega
theorem ownF_lt {b : DBook} (ho : okBook b) (i p s : Nat) : ownF b i p s < 2 ^ 64 := by
  unfold ownF
  have : ∀ (l : List (Nat × Nat)) (m : Nat), m < 2 ^ 64 → (∀ v ∈ l, v ∈ viewsL b) → l.foldl (addO b p s) m < 2 ^ 64 := by
    intro l
    induction l with
    | nil => exact fun m hm _ => hm
    | cons v l ih => exact fun m hm hl => ih _ (addO_lt hm (ownK_lt ho (hl v (by simp)))) fun v hv => hl v (by simp [hv])
  exact this _ 0 (by omega) fun v hv => List.mem_of_mem_take hv
theorem ownF_next {b : DBook} {i : Nat} (hi : i < (viewsL b).length) (p s : Nat) : ownF b (i + 1) p s = addO b p s (ownF b i p s) (viewsL b)[i] := by
  unfold ownF
  rw [List.take_succ_eq_append_getElem hi, List.foldl_append]
  rfl
end Go.Proofs.YtlbolnlcncjijaaGreat
namespace Go.Proofs.YtlbolnlcncjijaaGreat
open Go.RowKit
def ownR (b : DBook) (i j : Nat) (p s : Nat) : Nat := if p < j then ownF b (i + 1) p s else ownF b i p s
def ownS (b : DBook) (i j : Nat) (zs : List Nat) (p s : Nat) : Nat := if p < j ∨ (p = j ∧ s ∈ zs) then ownF b (i + 1) p s else ownF b i p s
theorem arrO_ext {f g : Nat → Nat → Nat} (h : ∀ p s, p < 8 → s < 4 → f p s = g p s) : arrO f = arrO g := by
  unfold arrO
  refine List.map_congr_left fun q hq => ?_
  have := List.mem_range.1 hq
  rw [h (q / 4) (q % 4) (by omega) (by omega)]
theorem arrO_take (f : Nat → Nat → Nat) : List.take 32 ((arrO f).map AV.p) = (arrO f).map AV.p := List.take_of_length_le (by simp [arrO_len])
theorem arrO_drop (f : Nat → Nat → Nat) : List.drop 32 ((arrO f).map AV.p) = [] := List.drop_eq_nil_of_le (by simp [arrO_len])
theorem idx8 {cs : List PV} {j : Nat} {x : PV} (h : j < 8) (e : cs[j]? = some x) : idxS 1 8 none (.p (.agg cs)) (.p (pi j)) = some (.p x) := by
  have h' : (j : Int) < 8 := by omega
  simp [idxS, partP, e, h']
theorem iadr4 {id j : Nat} (h : j < 8) : iadrAS 4 8 (.loc id 0) (.p (pi j)) = some (.loc id (j * 4)) := by
  rw [iadrA_loc' h]; simp
theorem iadr1 {id o j : Nat} (h : j < 4) : iadrAS 1 4 (.loc id o) (.p (pi j)) = some (.loc id (o + j)) := by
  rw [iadrA_loc' h]; simp
theorem loL_arrO (n : Nat) (f : Nat → Nat → Nat) : AV.lo.loL n ((arrO f).map AV.p) = true := by
  simp only [arrO, List.map_map]
  exact loL_pc _
theorem mem_sizes {x : Int} {s : Nat} : s ∈ sizesL x ↔ s < 4 ∧ hasS x s = true := by
  unfold sizesL
  rw [List.mem_filter, List.mem_range]
theorem ownS_nil (b : DBook) (i j : Nat) : ownS b i j [] = ownR b i j := by
  funext p s; simp [ownS, ownR]
theorem ownS_all {b : DBook} {i : Nat} (hi : i < (viewsL b).length) (j : Nat) : arrO (ownS b i j (sizesL ((rowL b (viewsL b)[i].1 (viewsL b)[i].2).getD j 0))) = arrO (ownR b i (j + 1)) := by
  refine arrO_ext fun p s hp hs => ?_
  unfold ownS ownR
  by_cases h1 : p < j
  · rw [if_pos (.inl h1), if_pos (by omega)]
  · by_cases h2 : p = j
    · subst h2
      rw [if_pos (show p < p + 1 by omega)]
      split
      · rfl
      · rename_i h
        rw [ownF_next hi]
        unfold addO
        rw [if_neg]
        intro hh
        exact h (.inr ⟨rfl, mem_sizes.2 ⟨hs, hh⟩⟩)
    · rw [if_neg (fun h => h2 (h.elim (fun h => absurd h h1) fun h => h.1)), if_neg (by omega)]
theorem owning_sem (k : SK) {b : DBook} (ho : okBook b) : Sem1 43 [bookP k b] (.agg (arrO (ownF b (viewsL b).length))) := by
  obtain ⟨h1, h8, hn⟩ := okR ho
  have h6 := ho.2.1
  refine semC_of_exec' mixed Tryz.func43 (by kernel_rfl) (by kernel_rfl) ac43_ok 1 rfl (by decide) [(.cell 2 88)] (by kernel_rfl) ?_
  intro hr C hC hI
  unfold ac43
  simp only [go_sem, Nat.reduceBEq]
  refine call_pure2 hC (views_sem k b _) rfl (PVleL_refl _) ?_
  rintro r rfl
  simp only [go_sem]
  refine rng_m (ι := Unit) (viewsL b) encV [1, 2] (fun i _ => [.cells [.p (bookP k b)], .cells ((arrO (ownF b i)).map .p)]) (fun _ _ => []) (fun _ => some []) (fun _ _ => True) () rfl rfl (hI _ _ _ (views_it k ho _)) ?_ (fun _ => rfl) (by simp [Wk, wkT, wkL, look, AV.lo, AV.lo.loL, keepS, ownF, arrO, pu, List.range, List.range.loop]) trivial ?_ ?_
  · simp only [noY_views, noY.noYL, noY, noY_rows, noY_rowsE, Bool.and_true]
  · rintro i - hi -
    obtain ⟨h, t, hv, hh, ht⟩ := views_get hi
    have hall := fun j => ownS_all hi j
    have hnext := fun p s => ownF_next hi p s
    rw [hv] at hall hnext ⊢
    have hrl : (rowL b h t).length = 8 := rowN_len ..
    simp only [go_sem, Nat.reduceBEq, Nat.reduceAdd, encV, putCells, look_row hh ht, Option.map_some]
    refine loop_kl 8 (fun _ => True) [1, 2, 3, 15] (fun j => [(16, .p (pi j))]) (fun j => [.cells [.p (bookP k b)], .cells ((arrO (ownR b i j)).map .p), .cells [.p (pi h), .p (pi t)]]) trivial (by simp [Wk, wkT, wkL, look, AV.lo, AV.lo.loL, upS_eq, keepS_nil, keepS_cons, ownR, arrO, loL_pc]) ?_
    rintro j ⟨hj, -⟩
    simp only [go_sem, Nat.reduceBEq]
    refine ⟨fun h5 => ?_, fun h5 => ?_⟩
    · have hj2 : j < 8 := by omega
      have hrj : ((rowL b h t).map pi)[j]? = some (pi ((rowL b h t).getD j 0)) := cell_ints (by omega)
      obtain ⟨x, hx⟩ : ∃ x, (rowL b h t).getD j 0 = x := ⟨_, rfl⟩
      have hallj := hall j
      simp only at hallj
      rw [hx] at hrj hallj
      simp only [go_sem, Nat.reduceBEq, Nat.reduceAdd, idx8 hj2 hrj, putCells]
      refine call_pure2 hC (sizes_sem x) rfl (PVleL_refl _) ?_
      rintro r rfl
      simp only [go_sem]
      refine rng_m (ι := Unit) (sizesL x) encT [1, 2, 3, 4, 15, 16] (fun q _ => [.cells [.p (bookP k b)], .cells ((arrO (ownS b i j ((sizesL x).take q))).map .p), .cells [.p (pi h), .p (pi t)], .cells [.p (pi j)]]) (fun _ _ => []) (fun _ => some []) (fun _ _ => True) () rfl rfl (hI _ _ _ (sizes_it x)) ?_ (fun _ => rfl) (by simp [Wk, wkT, wkL, look, AV.lo, AV.lo.loL, keepS, ownS_nil, arrO, loL_pc]) trivial ?_ ?_
      · simp only [noY_turns, noY.noYL, noY, Bool.and_true]
      · rintro q - hq -
        obtain ⟨hs4, hsx⟩ := mem_sizes.1 (List.getElem_mem hq)
        obtain ⟨s, hs⟩ : ∃ s, (sizesL x)[q] = s := ⟨_, rfl⟩
        rw [hs] at hs4 hsx ⊢
        have hnot : s ∉ (sizesL x).take q := by
          intro hm
          obtain ⟨q', hq', e⟩ := List.mem_iff_getElem.1 hm
          rw [List.length_take] at hq'
          rw [List.getElem_take] at e
          have hnd : (sizesL x).Nodup := (List.Pairwise.filter _ List.nodup_range)
          have := (List.getElem_inj (h₀ := by omega) (h₁ := hq) hnd).1 (e.trans hs.symm)
          omega
        have hold : ownS b i j ((sizesL x).take q) j s = ownF b i j s := by
          unfold ownS
          rw [if_neg (fun h => h.elim (fun h => absurd h (by omega)) fun h => hnot h.2)]
        have hnew : ownS b i j ((sizesL x).take (q + 1)) j s = ownF b i j s ||| 2 ^ ownK (h, t) := by
          unfold ownS
          rw [if_pos (.inr ⟨rfl, by rw [List.take_succ_eq_append_getElem hq, hs]; simp⟩), hnext]
          unfold addO
          rw [hx, if_pos hsx]
        have hput := arrO_put (ownS b i j ((sizesL x).take q)) (ownS b i j ((sizesL x).take (q + 1))) hj2 hs4 (fun p' s' hne h1 h2 => by
          unfold ownS
          rw [List.take_succ_eq_append_getElem hq, hs]
          have : (p' = j ∧ s' ∈ (sizesL x).take q ++ [s]) ↔ (p' = j ∧ s' ∈ (sizesL x).take q) := by
            rw [List.mem_append, List.mem_singleton]
            refine ⟨fun ⟨e1, e2⟩ => ⟨e1, e2.elim id fun e => absurd (by rw [e1, e]) hne⟩, fun ⟨e1, e2⟩ => ⟨e1, .inl e2⟩⟩
          simp only [this])
        rw [hnew] at hput
        have hget := arrO_get (ownS b i j ((sizesL x).take q)) hj2 hs4
        rw [hold] at hget
        have hle : j * 4 + s + 1 ≤ 32 := by omega
        simp only [go_sem, Nat.reduceBEq, Nat.reduceAdd, encT, iadr4 hj2, iadr1 hs4, hget]
        refine call_pure2 hC (owner_sem (show h < 6 by omega) (show t < 8 by omega)) rfl (PVleL_refl _) ?_
        rintro r rfl
        simp only [go_sem, Nat.reduceBEq]
        simp only [go_sem, Nat.reduceBEq, or_u (ownF_lt ho i j s) (Nat.pow_lt_pow_right (show 1 < 2 by omega) (show ownK (h, t) < 64 by unfold ownK; omega)), iadr1 hs4, putCells, List.length_map, arrO_len, hle, hput]
        exact ⟨(), by simp [Wk, wkT, wkL, look, AV.lo, AV.lo.loL, loL_arrO]⟩
      · rintro - -
        rw [List.take_length, hallj]
        simp only [go_sem, Nat.reduceBEq, wrap_succ (k := j) (by omega)]
        exact ⟨⟨j + 1, by omega, trivial⟩, by simp only; omega, by simp [Wk, wkT, wkL, look, AV.lo, AV.lo.loL, loL_arrO]⟩
    · have hj8 : j = 8 := by omega
      subst hj8
      refine ⟨(), ?_⟩
      rw [arrO_ext (f := ownR b i 8) (g := ownF b (i + 1)) fun p s hp hs => by unfold ownR; rw [if_pos hp]]
      simp [Wk, wkT, wkL, look, AV.lo, AV.lo.loL, loL_arrO]
  · rintro - -
    simp only [go_sem, Nat.reduceBEq, List.length_map, arrO_len, arrO_take, arrO_drop]
    exact retQ_cell (n := some 32) (by kernel_rfl) (by simp only [go_sem, Nat.reduceBEq, List.length_map, arrO_len, arrO_take]) rfl
end Go.Proofs.YtlbolnlcncjijaaGreat
namespace Go.Proofs.YtlbolnlcncjijaaGreat
open Go.RowKit
def ac25 : AC := (AC.seq (AC.ops [(AOp.mk (some 1) (AK.box 1 (AX.t 0)) none 0 false true), (AOp.mk (some 2) (AK.mv (AX.c (PV.val Value.nilFunc))) none 1 false true)]) (AC.seq (AC.ops [(AOp.mk (some 4) (AK.ld none (AX.t 1)) none 0 false true), (AOp.mk (some 5) (AK.call 43 [(AX.t 4)]) none 1 false true), (AOp.mk (some 3) (AK.new (PV.agg [(PV.val (Value.int IntKind.u64 0)), (PV.val (Value.int IntKind.u64 0)), (PV.val (Value.int IntKind.u64 0)), (PV.val (Value.int IntKind.u64 0)), (PV.val (Value.int IntKind.u64 0)), (PV.val (Value.int IntKind.u64 0)), (PV.val (Value.int IntKind.u64 0)), (PV.val (Value.int IntKind.u64 0)), (PV.val (Value.int IntKind.u64 0)), (PV.val (Value.int IntKind.u64 0)), (PV.val (Value.int IntKind.u64 0)), (PV.val (Value.int IntKind.u64 0)), (PV.val (Value.int IntKind.u64 0)), (PV.val (Value.int IntKind.u64 0)), (PV.val (Value.int IntKind.u64 0)), (PV.val (Value.int IntKind.u64 0)), (PV.val (Value.int IntKind.u64 0)), (PV.val (Value.int IntKind.u64 0)), (PV.val (Value.int IntKind.u64 0)), (PV.val (Value.int IntKind.u64 0)), (PV.val (Value.int IntKind.u64 0)), (PV.val (Value.int IntKind.u64 0)), (PV.val (Value.int IntKind.u64 0)), (PV.val (Value.int IntKind.u64 0)), (PV.val (Value.int IntKind.u64 0)), (PV.val (Value.int IntKind.u64 0)), (PV.val (Value.int IntKind.u64 0)), (PV.val (Value.int IntKind.u64 0)), (PV.val (Value.int IntKind.u64 0)), (PV.val (Value.int IntKind.u64 0)), (PV.val (Value.int IntKind.u64 0)), (PV.val (Value.int IntKind.u64 0))])) none 2 false true), (AOp.mk none (AK.st 32 (AX.t 3) (AX.t 5)) none 3 false true)]) (AC.seq (AC.ops [(AOp.mk (some 6) (AK.mkf 44 [] [(AX.t 1), (AX.t 3)]) none 0 false true), (AOp.mk (some 2) (AK.mv (AX.t 6)) none 1 false true)]) AC.ret)))
theorem ac25_ok : cCode Tryz.prog (fun _ => false) Tryz.f25.ntmps (Tryz.f25.body.getD .skip) = some ac25 := by kernel_rfl
def ac44 : AC := (AC.seq (AC.ops [(AOp.mk (some 3) (AK.box 1 (AX.t 0)) none 0 false true)]) (AC.seq (AC.ops [(AOp.mk (some 4) (AK.new (PV.val Value.nilFunc)) none 0 false true)]) (AC.seq (AC.ops [(AOp.mk (some 5) (AK.mkf 45 [] [(AX.t 1), (AX.t 3), (AX.t 4), (AX.t 2)]) none 0 false true), (AOp.mk none (AK.st 1 (AX.t 4) (AX.t 5)) none 1 false true)]) (AC.ops [(AOp.mk (some 6) (AK.ld none (AX.t 4)) none 0 false true), (AOp.mk (some 7) (AK.callv (AX.t 6) [(AX.c (PV.sl SK.full 0 [])), (AX.c (PV.val (Value.int IntKind.u64 18446744073709551615)))]) none 1 false true)]))))
theorem ac44_ok : cCode Tryz.prog (fun _ => false) Tryz.f44.ntmps (Tryz.f44.body.getD .skip) = some ac44 := by kernel_rfl
def ac45 : AC := (AC.seq (AC.ops [(AOp.mk (some 8) (AK.mv (AX.c (PV.val (Value.bool false)))) none 0 false true)]) (AC.seq (AC.ops [(AOp.mk (some 11) (AK.mv (AX.t 0)) none 0 false true), (AOp.mk (some 12) (AK.len (AX.t 11)) none 1 false true), (AOp.mk (some 9) (AK.mv (AX.t 12)) none 2 false true)]) (AC.seq (AC.seq (AC.ops [(AOp.mk (some 13) (AK.mv (AX.t 9)) none 0 false true), (AOp.mk (some 14) (AK.ld none (AX.t 2)) none 1 false true), (AOp.mk (some 15) (AK.nilc (AX.t 14)) none 2 false true), (AOp.mk (some 16) (AK.fadr 0 (AX.t 15)) none 3 false true), (AOp.mk (some 17) (AK.fadr 0 (AX.t 16)) none 4 false true), (AOp.mk (some 18) (AK.ld none (AX.t 17)) none 5 false true), (AOp.mk (some 19) (AK.bin false BinOp.eql (AX.t 13) (AX.t 18)) none 6 false true)]) (AC.cond (AX.t 19) (AC.seq (AC.ops [(AOp.mk (some 20) (AK.mv (AX.t 1)) none 0 true true), (AOp.mk (some 21) (AK.bin false BinOp.neq (AX.t 20) (AX.c (PV.val (Value.int IntKind.u64 0)))) none 1 true true), (AOp.mk (some 22) (AK.mv (AX.t 21)) none 2 true true), (AOp.mk (some 23) (AK.ld none (AX.t 3)) (some (22, false)) 3 true false), (AOp.mk (some 24) (AK.mv (AX.t 0)) (some (22, false)) 4 true false), (AOp.mk (some 25) (AK.call 34 [(AX.t 24)]) (some (22, false)) 5 false false), (AOp.mk (some 26) (AK.callv (AX.t 23) [(AX.t 25)]) (some (22, false)) 6 false true), (AOp.mk (some 27) (AK.pick (AX.t 22) (AX.c (PV.val (Value.bool true))) (AX.t 26)) none 7 true true), (AOp.mk (some 8) (AK.mv (AX.t 27)) none 8 true true)]) AC.ret) AC.skip)) (AC.seq (AC.seq (AC.ops [(AOp.mk (some 28) (AK.mv (AX.c (PV.val (Value.int IntKind.i64 0)))) none 0 false true)]) (AC.block 0 (AC.loop (AC.seq (AC.ops [(AOp.mk (some 29) (AK.bin false BinOp.lss (AX.t 28) (AX.c (PV.val (Value.int IntKind.i64 4)))) none 0 false true)]) (AC.seq (AC.cond (AX.t 29) AC.skip (AC.exit 0)) (AC.seq (AC.block 1 (AC.seq (AC.ops [(AOp.mk (some 30) (AK.mv (AX.t 28)) none 0 false true), (AOp.mk (some 10) (AK.mv (AX.t 30)) none 1 false true)]) (AC.seq (AC.ops [(AOp.mk (some 31) (AK.ld none (AX.t 4)) none 0 true false), (AOp.mk (some 32) (AK.mv (AX.t 0)) none 1 true false), (AOp.mk (some 33) (AK.mv (AX.t 10)) none 2 true false), (AOp.mk (some 35) (AK.mv (AX.t 1)) none 4 true false), (AOp.mk (some 36) (AK.mv (AX.t 9)) none 5 true false), (AOp.mk (some 37) (AK.mv (AX.t 10)) none 6 true false), (AOp.mk (some 38) (AK.iadrA 4 8 (AX.t 5) (AX.t 36)) none 7 true false), (AOp.mk (some 39) (AK.iadrA 1 4 (AX.t 38) (AX.t 37)) none 8 true false), (AOp.mk (some 40) (AK.ld none (AX.t 39)) none 9 true false), (AOp.mk (some 41) (AK.bin false BinOp.and (AX.t 35) (AX.t 40)) none 10 true false), (AOp.mk (some 34) (AK.call 46 [(AX.t 32), (AX.t 33)]) none 3 false false), (AOp.mk (some 42) (AK.callv (AX.t 31) [(AX.t 34), (AX.t 41)]) none 11 false true), (AOp.mk (some 43) (AK.un UnOp.not (AX.t 42)) none 12 true true)]) (AC.cond (AX.t 43) (AC.seq (AC.ops [(AOp.mk (some 8) (AK.mv (AX.c (PV.val (Value.bool false)))) none 0 false true)]) AC.ret) AC.skip)))) (AC.ops [(AOp.mk (some 44) (AK.bin false BinOp.add (AX.t 28) (AX.c (PV.val (Value.int IntKind.i64 1)))) none 0 false true), (AOp.mk (some 28) (AK.mv (AX.t 44)) none 1 false true)]))))))) (AC.seq (AC.ops [(AOp.mk (some 8) (AK.mv (AX.c (PV.val (Value.bool true)))) none 0 false true)]) AC.ret)))))
theorem ac45_ok : cCode Tryz.prog (fun _ => false) Tryz.f45.ntmps (Tryz.f45.body.getD .skip) = some ac45 := by kernel_rfl
def ac24 : AC := (AC.seq (AC.ops [(AOp.mk (some 2) (AK.new (PV.sl SK.full 0 [])) none 0 false true), (AOp.mk (some 3) (AK.new (PV.val (Value.bool false))) none 1 false true)]) (AC.seq (AC.seq (AC.ops [(AOp.mk (some 6) (AK.mv (AX.t 0)) none 0 false true)]) (AC.block 0 (AC.rng (AX.t 6) [7] (AC.ops [(AOp.mk (some 4) (AK.mv (AX.t 7)) none 0 false true)]) (AC.block 1 (AC.seq (AC.ops [(AOp.mk (some 8) (AK.mv (AX.t 4)) none 0 false true), (AOp.mk none (AK.st 1 (AX.t 2) (AX.t 8)) none 1 false true), (AOp.mk none (AK.st 1 (AX.t 3) (AX.c (PV.val (Value.bool true)))) none 2 false true)]) AC.ret))))) (AC.seq (AC.ops [(AOp.mk (some 5) (AK.mv (AX.c (PV.sl SK.full 0 []))) none 0 false true)]) (AC.seq (AC.ops [(AOp.mk (some 9) (AK.mv (AX.t 5)) none 0 false true), (AOp.mk none (AK.st 1 (AX.t 2) (AX.t 9)) none 1 false true), (AOp.mk none (AK.st 1 (AX.t 3) (AX.c (PV.val (Value.bool false)))) none 2 false true)]) AC.ret))))
theorem ac24_ok : cCode Tryz.prog (fun _ => false) Tryz.f24.ntmps (Tryz.f24.body.getD .skip) = some ac24 := by kernel_rfl
def ac8 : AC := (AC.seq (AC.ops [(AOp.mk (some 1) (AK.box 2 (AX.t 0)) none 0 false true), (AOp.mk (some 2) (AK.mv (AX.c (PV.sl SK.full 0 []))) none 1 false true), (AOp.mk (some 3) (AK.mv (AX.c (PV.val (Value.int IntKind.i64 0)))) none 2 false true)]) (AC.seq (AC.ops [(AOp.mk (some 9) (AK.ld (some 2) (AX.t 1)) none 0 false true), (AOp.mk (some 10) (AK.call 23 [(AX.t 9), (AX.c (PV.val (Value.bool true)))]) none 1 false true), (AOp.mk (some 8) (AK.mv (AX.t 10)) none 2 false true), (AOp.mk (some 11) (AK.ext (AX.t 8) 0) none 3 false true), (AOp.mk (some 12) (AK.ext (AX.t 8) 1) none 4 false true), (AOp.mk (some 4) (AK.mv (AX.t 11)) none 5 false true), (AOp.mk (some 5) (AK.mv (AX.t 12)) none 6 false true)]) (AC.seq (AC.seq (AC.ops [(AOp.mk (some 13) (AK.mv (AX.t 5)) none 0 false true), (AOp.mk (some 14) (AK.bin false BinOp.neq (AX.t 13) (AX.c (PV.val (Value.int IntKind.i64 0)))) none 1 false true)]) (AC.cond (AX.t 14) (AC.seq (AC.ops [(AOp.mk (some 15) (AK.mv (AX.t 5)) none 0 false true), (AOp.mk (some 2) (AK.mv (AX.c (PV.sl SK.full 0 []))) none 1 false true), (AOp.mk (some 3) (AK.mv (AX.t 15)) none 2 false true)]) AC.ret) AC.skip)) (AC.seq (AC.ops [(AOp.mk (some 17) (AK.mv (AX.t 4)) none 0 false true), (AOp.mk (some 18) (AK.call 25 [(AX.t 17)]) none 1 false true), (AOp.mk (some 19) (AK.call 24 [(AX.t 18)]) none 2 false true), (AOp.mk (some 16) (AK.mv (AX.t 19)) none 3 false true), (AOp.mk (some 20) (AK.ext (AX.t 16) 0) none 4 false true), (AOp.mk (some 21) (AK.ext (AX.t 16) 1) none 5 false true), (AOp.mk (some 6) (AK.mv (AX.t 20)) none 6 false true), (AOp.mk (some 7) (AK.mv (AX.t 21)) none 7 false true)]) (AC.seq (AC.seq (AC.ops [(AOp.mk (some 22) (AK.mv (AX.t 7)) none 0 false true), (AOp.mk (some 23) (AK.un UnOp.not (AX.t 22)) none 1 false true)]) (AC.cond (AX.t 23) (AC.seq (AC.ops [(AOp.mk (some 2) (AK.mv (AX.c (PV.sl SK.full 0 []))) none 0 false true), (AOp.mk (some 3) (AK.mv (AX.c (PV.val (Value.int IntKind.i64 4)))) none 1 false true)]) AC.ret) AC.skip)) (AC.seq (AC.ops [(AOp.mk (some 24) (AK.mv (AX.t 6)) none 0 false true), (AOp.mk (some 2) (AK.mv (AX.t 24)) none 1 false true), (AOp.mk (some 3) (AK.mv (AX.c (PV.val (Value.int IntKind.i64 0)))) none 2 false true)]) AC.ret))))))
theorem ac8_ok : cCode Tryz.prog (fun _ => false) Tryz.f8.ntmps (Tryz.f8.body.getD .skip) = some ac8 := by kernel_rfl
def freeF (w : Nat → Nat → Nat) : Nat → List Int → Nat → List (List Int)
  | 0, l, m => if m = 0 then [l] else []
  | r + 1, l, m => (List.range 4).flatMap fun (s : Nat) => freeF w r (l ++ [(s : Int)]) (m &&& w l.length s)
def spanS (w : Nat → Nat → Nat) (r : Nat) (l : List Int) (m j : Nat) : List (List PV) := encLs (((List.range 4).drop j).flatMap fun (s : Nat) => freeF w r (l ++ [(s : Int)]) (m &&& w l.length s))
theorem spanS_0 (w : Nat → Nat → Nat) (r : Nat) (l : List Int) (m : Nat) : spanS w r l m 0 = encLs (freeF w (r + 1) l m) := rfl
theorem spanS_next (w : Nat → Nat → Nat) (r : Nat) (l : List Int) (m : Nat) {j : Nat} (h : j < 4) : spanS w r l m j = encLs (freeF w r (l ++ [(j : Int)]) (m &&& w l.length j)) ++ spanS w r l m (j + 1) := by
  unfold spanS
  rw [List.drop_eq_getElem_cons (by simpa using h), List.flatMap_cons, encLs_append]
  simp
theorem spanS_end (w : Nat → Nat → Nat) (r : Nat) (l : List Int) (m : Nat) : spanS w r l m 4 = [] := rfl
def FS (k : SK) (b : DBook) (w : Nat → Nat → Nat) : List ABlk := [.cells [.p .yld], .cells [.clo 45 [] [.p (.ptr [bookP k b] 0), .loc 0 0, .loc 1 0, .p (.ptr (arrO w) 0)]]]
theorem take_FS {k : SK} {b : DBook} {w : Nat → Nat → Nat} {L : List ABlk} (h : L.take 2 = FS k b w) : ∃ X, L = FS k b w ++ X := ⟨L.drop 2, by rw [← h, List.take_append_drop]⟩
def FreeOk (k : SK) (b : DBook) (w : Nat → Nat → Nat) (r : Nat) : Prop := ∀ (k' : SK) (sz : Nat) (l : List Int) (m : Nat) (rest : List (List PV)), (sz = 1 ∨ l = []) → l.length + r = nR b → m < 2 ^ 64 →
  SemM Tryz.prog Fence.wide 45 [.p (.sl k' sz (l.map fun x => [pi x])), .p (pu m), .p (.ptr [bookP k b] 0), .loc 0 0, .loc 1 0, .p (.ptr (arrO w) 0)] (FS k b w) (some (encLs (freeF w r l m) ++ rest))
    (fun v L' ys' => L'.take 2 = FS k b w ∧ ((v = .p (pb true) ∧ ys' = some rest) ∨ (v = .p (pb false) ∧ ys' = none)))
theorem free_zero (k : SK) {b : DBook} (ho : okBook b) (w : Nat → Nat → Nat) : FreeOk k b w 0 := by
  intro k' sz l m rest hsz hl hm
  obtain ⟨h1, h8, hn⟩ := okR ho
  refine semM_of_exec' mixed Tryz.func45 (by kernel_rfl) (by kernel_rfl) ac45_ok 6 rfl (by decide) [(.tmp 8)] (by kernel_rfl) ?_
  intro C hC hI
  unfold ac45
  simp only [go_sem, Nat.reduceBEq, Nat.reduceAdd, FS, List.length_map]
  have hlm : (l.length : Int) = b.round := by omega
  refine ⟨fun _ => ?_, fun h => absurd hlm h⟩
  by_cases h0 : m = 0
  · subst h0
    refine ⟨fun _ => ?_, fun h => absurd rfl h⟩
    refine call_pure2 hC (handedOn_sem k' sz l hsz) rfl (PVleL_refl _) ?_
    rintro r rfl
    simp only [go_sem, Nat.reduceBEq]
    rw [show encLs (freeF w 0 l 0) ++ rest = [pis l] :: rest from rfl]
    simp only [go_sem, Nat.reduceBEq]
    refine ⟨⟨PVle.sh _ _ _, trivial⟩, ?_, ?_⟩
    · exact retMQ_one rfl ⟨rfl, .inl ⟨rfl, rfl⟩⟩
    · exact retMQ_one rfl ⟨rfl, .inr ⟨rfl, rfl⟩⟩
  · refine ⟨fun h => absurd (by omega) h0, fun _ => ?_⟩
    rw [show encLs (freeF w 0 l m) = [] by unfold freeF; rw [if_neg h0]; rfl]
    exact retMQ_one rfl ⟨rfl, .inl ⟨rfl, rfl⟩⟩
theorem iadr4p {cs : List PV} {j : Nat} (h : j < 8) : iadrAS 4 8 (.p (.ptr cs 0)) (.p (pi j)) = some (.p (.ptr cs (j * 4))) := by
  rw [iadrA_ptr' h]; simp
theorem iadr1p {cs : List PV} {o j : Nat} (h : j < 4) : iadrAS 1 4 (.p (.ptr cs o)) (.p (pi j)) = some (.p (.ptr cs (o + j))) := by
  rw [iadrA_ptr' h]; simp
theorem free_step (k : SK) {b : DBook} (ho : okBook b) {w : Nat → Nat → Nat} (hw : ∀ p s, w p s < 2 ^ 64) {r : Nat} (hrec : FreeOk k b w r) : FreeOk k b w (r + 1) := by
  intro k' sz l m rest hsz hl hm
  obtain ⟨h1, h8, hn⟩ := okR ho
  have hlm : ¬ (l.length : Int) = b.round := by omega
  refine semM_of_exec' mixed Tryz.func45 (by kernel_rfl) (by kernel_rfl) ac45_ok 6 rfl (by decide) [(.tmp 8)] (by kernel_rfl) ?_
  intro C hC hI
  unfold ac45
  simp only [go_sem, Nat.reduceBEq, Nat.reduceAdd, FS, List.length_map]
  refine ⟨fun h => absurd h hlm, fun _ => ?_⟩
  refine loop_ky 4 (fun _ => True) [0, 1, 4, 5, 9] (fun j => [(28, .p (pi j))]) (fun _ => FS k b w) (fun j => some (spanS w r l m j ++ rest)) trivial (by simp [Wk, wkT, wkL, look, AV.lo, AV.lo.loL, keepS, FS, spanS_0]) ?_
  rintro j ⟨hj, -⟩
  unfold FS
  simp only [go_sem, Nat.reduceBEq]
  refine ⟨fun h5 => ?_, fun h5 => ?_⟩
  · have hj2 : j < 4 := by omega
    have hl8 : l.length < 8 := by omega
    rw [spanS_next w r l m hj2, List.append_assoc]
    simp only [go_sem, Nat.reduceBEq, iadr4p hl8, iadr1p hj2, arrO_getp w hl8 hj2, and_u hm (hw l.length j), Option.map_some]
    refine call_pure2 hC (with_sem k' sz l (j : Int) hsz (by omega)) rfl (PVleL_refl _) ?_
    rintro r rfl
    simp only [go_sem, Nat.reduceBEq]
    refine call_mem2 hC [0, 1] (hrec .sh 1 (l ++ [(j : Int)]) (m &&& w l.length j) _ (.inl rfl) (by rw [List.length_append, List.length_singleton]; omega) (Nat.and_lt_two_pow m (hw _ _))) rfl (by decide) rfl rfl rfl rfl (by simp) ?_
    rintro v L' ys' ⟨hL2, hcase⟩ -
    obtain ⟨X, rfl⟩ := take_FS hL2
    rcases hcase with ⟨rfl, rfl⟩ | ⟨rfl, rfl⟩
    · unfold FS
      simp only [go_sem, Nat.reduceBEq, Nat.reduceAdd, wrap_succ (k := j) (by omega)]
      refine ⟨⟨j + 1, hj2, trivial⟩, by simp only; omega, ?_⟩
      exact by simp [Wk, wkT, wkL, look, AV.lo, AV.lo.loL, ABlk.toZ]
    · unfold FS
      simp only [go_sem, Nat.reduceBEq, Nat.reduceAdd]
      exact retMQ_one rfl ⟨rfl, .inr ⟨rfl, rfl⟩⟩
  · have hjn : j = 4 := by omega
    subst hjn
    rw [spanS_end]
    exact retMQ_one rfl ⟨rfl, .inl ⟨rfl, rfl⟩⟩
theorem free_ok (k : SK) {b : DBook} (ho : okBook b) {w : Nat → Nat → Nat} (hw : ∀ p s, w p s < 2 ^ 64) : ∀ r, FreeOk k b w r
  | 0 => free_zero k ho w
  | r + 1 => free_step k ho hw (free_ok k ho hw r)
def ownW (b : DBook) : Nat → Nat → Nat := ownF b (viewsL b).length
def freeL (b : DBook) : List (List Int) := freeF (ownW b) (nR b) [] (2 ^ 64 - 1)
theorem free_it (k : SK) {b : DBook} (ho : okBook b) : IterC Tryz.prog Fence.wide 44 [.yld, .ptr [bookP k b] 0, .ptr (arrO (ownW b)) 0] (encLs (freeL b)) := by
  refine iterC_of_exec' mixed Tryz.func44 (by kernel_rfl) (by kernel_rfl) ac44_ok 3 rfl (by decide) (by kernel_rfl) ?_
  intro C hC hI
  unfold ac44
  simp only [go_sem, Nat.reduceBEq, Nat.reduceAdd, putCells]
  rw [show encLs (freeL b) = encLs (freeF (ownW b) (nR b) [] (2 ^ 64 - 1)) ++ [] from (List.append_nil _).symm]
  refine call_mem2 hC [0, 1] (free_ok k ho (fun p s => ownF_lt ho _ p s) (nR b) .full 0 [] (2 ^ 64 - 1) [] (.inr rfl) (by simp) (by omega)) rfl (by decide) rfl rfl rfl rfl (by simp) ?_
  rintro v L' ys' ⟨hL2, hcase⟩ -
  rcases hcase with ⟨rfl, rfl⟩ | ⟨rfl, rfl⟩
  · exact .inl rfl
  · exact .inr rfl
theorem free_sem (k : SK) {b : DBook} (ho : okBook b) : Sem1 25 [bookP k b] (.clo 44 [] [.ptr [bookP k b] 0, .ptr (arrO (ownW b)) 0]) := by
  refine semC_of_exec' mixed Tryz.func25 (by kernel_rfl) (by kernel_rfl) ac25_ok 1 rfl (by decide) [(.tmp 2)] (by kernel_rfl) ?_
  intro hr C hC hI
  unfold ac25
  simp only [go_sem, Nat.reduceBEq]
  refine call_pure2 hC (owning_sem k ho) rfl (PVleL_refl _) ?_
  rintro r rfl
  simp only [go_sem, Nat.reduceBEq, Nat.reduceAdd, putCells, List.length_map, arrO_len]
  exact retQ_pur rfl rfl (PVle.refl _) rfl
theorem retQ_cells2_le {P : Program} {t t' : Nat} {ty ty' : TypeId} {R : PV → Prop} {s : AS} {x x' y : PV} (hs : shapeN P ty = some none) (hs' : shapeN P ty' = some none) (h : stillV s (.ld none (.t t)) = some (.p x)) (h' : stillV s (.ld none (.t t')) = some (.p y)) (hle : PVle x x') (hR : R (.tup [x', y])) : retQ P [.cell t ty, .cell t' ty'] R s :=
  ⟨[.p x, .p y], [x, y], s.loc, .tup [x', y], by simp [resA, hs, hs', h, h'], rfl, PVle.tup ⟨hle, PVle.refl _, trivial⟩, hR⟩
theorem noY_arrO (w : Nat → Nat → Nat) : noY.noYL (arrO w) = true := noYL_map (fun _ => rfl) _
def firstL (zs : List (List Int)) : PV := match zs with | [] => .tup [pis [], pb false] | z :: _ => .tup [pis z, pb true]
theorem firstL_sem {f : FuncId} {fi cap : List PV} {zs : List (List Int)} (hit : IterC Tryz.prog Fence.wide f (fi ++ .yld :: cap) (encLs zs)) (hno : (noY.noYL fi && noY.noYL cap) = true) : Sem1 24 [.clo f fi cap] (firstL zs) := by
  refine semC_of_exec' mixed Tryz.func24 (by kernel_rfl) (by kernel_rfl) ac24_ok 1 rfl (by decide) [(.cell 2 25), (.cell 3 4)] (by kernel_rfl) ?_
  intro hr C hC hI
  unfold ac24
  simp only [go_sem, Nat.reduceBEq]
  refine rng_m (ι := Unit) zs (fun l => [pis l]) [2, 3] (fun _ _ => [.cells [.p (.sl .full 0 [])], .cells [.p (pb false)]]) (fun _ _ => []) (fun _ => some []) (fun i _ => i = 0) () rfl rfl (hI _ _ _ hit) ?_ (fun _ => rfl) (by simp [Wk, wkT, wkL, look, AV.lo, AV.lo.loL, keepS]) rfl ?_ ?_
  · simp only [show noY.noYR (zs.map fun l => [pis l]) = true from noY_encLs _, hno, Bool.and_true]
  · rintro q - hq hok
    subst hok
    simp only [go_sem, Nat.reduceBEq, Nat.reduceAdd, Nat.reduceEqDiff, putCells]
    refine retQ_cells2 (by kernel_rfl) (by kernel_rfl) rfl rfl ?_
    match zs, hq with
    | z :: r, _ => rfl
  · rintro - hok
    rw [List.eq_nil_of_length_eq_zero hok]
    simp only [go_sem, Nat.reduceBEq, putCells]
    exact retQ_cells2_le (by kernel_rfl) (by kernel_rfl) rfl rfl (PVle.nil .full 0 1) rfl
def newR (b : DBook) : PV := if okBook b then (match freeL b with | [] => .tup [pis [], pi 4] | z :: _ => .tup [pis z, pi 0]) else .tup [pis [], pi 70]
theorem New_sem (k : SK) (b : DBook) : Sem1 8 [.agg (bookC k b)] (newR b) := by
  unfold newR
  refine semC_of_exec' mixed Tryz.func8 (by kernel_rfl) (by kernel_rfl) ac8_ok 1 rfl (by decide) [(.tmp 2), (.tmp 3)] (by kernel_rfl) ?_
  intro hr C hC hI
  unfold ac8
  simp only [go_sem, Nat.reduceBEq, Nat.reduceAdd]
  refine askP hC k b true (fun hne => ?_) (fun h0 => ?_)
  · have ho : ¬ okBook b := fun ho => errI_ne hne ⟨ho, rfl⟩
    have he : errI b true = 70 := by unfold errI; rw [if_neg ho]
    rw [he, if_neg ho]
    simp only [go_sem, Nat.reduceBEq]
    exact ⟨fun _ => retQ_two_le rfl rfl (PVle.nil _ _ _) (PVle.refl _) rfl, fun h => absurd h (by decide)⟩
  obtain ⟨ho, -⟩ := errI_ok h0
  rw [if_pos ho]
  simp only [go_sem, Nat.reduceBEq]
  refine ⟨fun h => h.elim, fun _ => ?_⟩
  refine call_pure2 hC (free_sem k ho) rfl (PVleL_refl _) ?_
  rintro r rfl
  simp only [go_sem, Nat.reduceBEq]
  refine call_pure2 hC (firstL_sem (free_it k ho) (by simp only [noY.noYL, noY, noY_rows, noY_rowsE, noY_arrO, Bool.and_true])) rfl (PVleL_refl _) ?_
  rintro r rfl
  simp only [go_sem, Nat.reduceBEq]
  unfold firstL
  split
  · simp only [go_sem, Nat.reduceBEq]
    exact retQ_two_le rfl rfl (PVle.nil _ _ _) (PVle.refl _) rfl
  · simp only [go_sem, Nat.reduceBEq]
    exact retQ_two rfl rfl rfl
end Go.Proofs.YtlbolnlcncjijaaGreat
