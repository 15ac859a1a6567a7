/- Contracts of dapple: which horses must go. Contracts of dapple: who can have a size at a place. Contracts of dapple: who can have a size at a place, all of them. Contracts of dapple: rows that no horse has. Contracts of dapple: what is not known. Contracts of dapple: where it is best to look. Mathematics of dapple: sets, turns. Mathematics of dapple: the first of lists. Mathematics of dapple: which horses must go. Lists that grow in a loop. Lists that grow from nothing in a loop. -/
import Derived.Test.YtlbolnlcncjijaaTa03
import Derived.Test.YtlbolnlcncjijaaGa15
namespace Go.Proofs.Ytlbolnlcncjijaa
open Go.RowKit
def ac122 : AC := (AC.seq (AC.ops [(AOp.mk (some 6) (AK.mv (AX.c (PV.val (Value.bool false)))) none 0 false true)]) (AC.seq (AC.ops [(AOp.mk (some 7) (AK.ld none (AX.t 2)) none 0 false true), (AOp.mk (some 8) (AK.mv (AX.t 0)) none 1 false true), (AOp.mk (some 9) (AK.call 123 [(AX.t 7), (AX.t 8)]) none 2 false true), (AOp.mk (some 10) (AK.un UnOp.not (AX.t 9)) none 3 false true), (AOp.mk (some 11) (AK.mv (AX.t 10)) none 4 false true), (AOp.mk (some 12) (AK.ld none (AX.t 2)) (some (11, true)) 5 false true), (AOp.mk (some 13) (AK.mv (AX.t 1)) (some (11, true)) 6 false true), (AOp.mk (some 14) (AK.call 123 [(AX.t 12), (AX.t 13)]) (some (11, true)) 7 false true), (AOp.mk (some 15) (AK.un UnOp.not (AX.t 14)) (some (11, true)) 8 false true), (AOp.mk (some 16) (AK.pick (AX.t 11) (AX.t 15) (AX.c (PV.val (Value.bool false)))) none 9 false true), (AOp.mk (some 17) (AK.mv (AX.t 16)) none 10 false true), (AOp.mk (some 18) (AK.ld none (AX.t 3)) (some (17, true)) 11 false true), (AOp.mk (some 19) (AK.mv (AX.t 0)) (some (17, true)) 12 false true), (AOp.mk (some 20) (AK.mv (AX.t 1)) (some (17, true)) 13 false true), (AOp.mk (some 21) (AK.call 124 [(AX.t 18), (AX.t 19), (AX.t 20)]) (some (17, true)) 14 false true), (AOp.mk (some 22) (AK.pick (AX.t 17) (AX.t 21) (AX.c (PV.val (Value.bool false)))) none 15 false true), (AOp.mk (some 6) (AK.mv (AX.t 22)) none 16 false true)]) AC.ret))
theorem ac122_ok : cCode Try.prog (fun _ => false) Try.f122.ntmps (Try.f122.body.getD .skip) = some ac122 := by kernel_rfl
def ac89 : AC := (AC.seq (AC.ops [(AOp.mk (some 2) (AK.box 1 (AX.t 0)) none 0 false true), (AOp.mk (some 3) (AK.box 1 (AX.t 1)) none 1 false true), (AOp.mk (some 4) (AK.mv (AX.c (PV.val (Value.bool false)))) none 2 false true)]) (AC.seq (AC.ops [(AOp.mk (some 9) (AK.mkf 122 [] [(AX.t 3), (AX.t 2)]) none 0 false true), (AOp.mk (some 5) (AK.mv (AX.t 9)) none 1 false true)]) (AC.seq (AC.ops [(AOp.mk (some 11) (AK.ld none (AX.t 2)) none 0 false true), (AOp.mk (some 12) (AK.nilc (AX.t 11)) none 1 false true), (AOp.mk (some 13) (AK.fadr 0 (AX.t 12)) none 2 false true), (AOp.mk (some 14) (AK.fadr 1 (AX.t 13)) none 3 false true), (AOp.mk (some 15) (AK.ld none (AX.t 14)) none 4 false true), (AOp.mk (some 16) (AK.len (AX.t 15)) none 5 false true), (AOp.mk (some 17) (AK.mv (AX.t 5)) none 6 false true), (AOp.mk (some 18) (AK.call 125 [(AX.t 16), (AX.t 17)]) none 7 false true), (AOp.mk (some 10) (AK.mv (AX.t 18)) none 8 false true), (AOp.mk (some 19) (AK.ext (AX.t 10) 0) none 9 false true), (AOp.mk (some 20) (AK.ext (AX.t 10) 1) none 10 false true), (AOp.mk (some 21) (AK.ext (AX.t 10) 2) none 11 false true), (AOp.mk (some 6) (AK.mv (AX.t 19)) none 12 false true), (AOp.mk (some 7) (AK.mv (AX.t 20)) none 13 false true), (AOp.mk (some 8) (AK.mv (AX.t 21)) none 14 false true)]) (AC.seq (AC.ops [(AOp.mk (some 22) (AK.mv (AX.t 8)) none 0 false true), (AOp.mk (some 23) (AK.bin false BinOp.eql (AX.t 22) (AX.c (PV.val (Value.int IntKind.i64 4)))) none 1 false true), (AOp.mk (some 4) (AK.mv (AX.t 23)) none 2 false true)]) AC.ret))))
theorem ac89_ok : cCode Try.prog (fun _ => false) Try.f89.ntmps (Try.f89.body.getD .skip) = some ac89 := by kernel_rfl
def ac59 : AC := (AC.seq (AC.ops [(AOp.mk (some 1) (AK.box 1 (AX.t 0)) none 0 false true), (AOp.mk (some 2) (AK.new (PV.sl SK.full 0 [])) none 1 false true)]) (AC.seq (AC.seq (AC.ops [(AOp.mk (some 5) (AK.ld none (AX.t 1)) none 0 false true), (AOp.mk (some 6) (AK.nilc (AX.t 5)) none 1 false true), (AOp.mk (some 7) (AK.fadr 0 (AX.t 6)) none 2 false true), (AOp.mk (some 8) (AK.fadr 1 (AX.t 7)) none 3 false true), (AOp.mk (some 9) (AK.ld none (AX.t 8)) none 4 false true), (AOp.mk (some 10) (AK.len (AX.t 9)) none 5 false true), (AOp.mk (some 11) (AK.bin false BinOp.add (AX.t 10) (AX.c (PV.val (Value.int IntKind.i64 1)))) none 6 false true), (AOp.mk (some 12) (AK.mv (AX.c (PV.val (Value.int IntKind.i64 0)))) none 7 false true)]) (AC.block 0 (AC.loop (AC.seq (AC.ops [(AOp.mk (some 13) (AK.bin false BinOp.lss (AX.t 12) (AX.t 11)) none 0 false true)]) (AC.seq (AC.cond (AX.t 13) AC.skip (AC.exit 0)) (AC.seq (AC.block 1 (AC.seq (AC.ops [(AOp.mk (some 14) (AK.mv (AX.t 12)) none 0 false true), (AOp.mk (some 3) (AK.mv (AX.t 14)) none 1 false true)]) (AC.seq (AC.ops [(AOp.mk (some 15) (AK.ld none (AX.t 1)) none 0 false true), (AOp.mk (some 16) (AK.nilc (AX.t 15)) none 1 false true), (AOp.mk (some 17) (AK.fadr 0 (AX.t 16)) none 2 false true), (AOp.mk (some 18) (AK.fadr 1 (AX.t 17)) none 3 false true), (AOp.mk (some 19) (AK.ld none (AX.t 18)) none 4 false true), (AOp.mk (some 20) (AK.len (AX.t 19)) none 5 false true), (AOp.mk (some 21) (AK.mv (AX.t 3)) none 6 false true), (AOp.mk (some 22) (AK.call 88 [(AX.t 20), (AX.t 21)]) none 7 false true)]) (AC.block 2 (AC.rng (AX.t 22) [23] (AC.ops [(AOp.mk (some 4) (AK.mv (AX.t 23)) none 0 false true)]) (AC.block 3 (AC.seq (AC.ops [(AOp.mk (some 24) (AK.ld none (AX.t 1)) none 0 false true), (AOp.mk (some 25) (AK.mv (AX.t 4)) none 1 false true), (AOp.mk (some 26) (AK.call 89 [(AX.t 24), (AX.t 25)]) none 2 false true)]) (AC.cond (AX.t 26) (AC.seq (AC.ops [(AOp.mk (some 27) (AK.mv (AX.t 4)) none 0 false true), (AOp.mk none (AK.st 1 (AX.t 2) (AX.t 27)) none 1 false true)]) AC.ret) AC.skip)))))))) (AC.ops [(AOp.mk (some 28) (AK.bin false BinOp.add (AX.t 12) (AX.c (PV.val (Value.int IntKind.i64 1)))) none 0 false true), (AOp.mk (some 12) (AK.mv (AX.t 28)) none 1 false true)]))))))) (AC.seq (AC.ops [(AOp.mk none (AK.st 1 (AX.t 2) (AX.c (PV.sl SK.full 0 []))) none 0 false true)]) AC.ret)))
theorem ac59_ok : cCode Try.prog (fun _ => false) Try.f59.ntmps (Try.f59.body.getD .skip) = some ac59 := by kernel_rfl
def ac29 : AC := (AC.seq (AC.ops [(AOp.mk (some 1) (AK.box 2 (AX.t 0)) none 0 false true), (AOp.mk (some 2) (AK.mv (AX.c (PV.sl SK.full 0 []))) none 1 false true), (AOp.mk (some 3) (AK.mv (AX.c (PV.val (Value.int IntKind.i64 0)))) none 2 false true)]) (AC.seq (AC.ops [(AOp.mk (some 7) (AK.ld (some 2) (AX.t 1)) none 0 false true), (AOp.mk (some 8) (AK.call 53 [(AX.t 7), (AX.c (PV.val (Value.bool true)))]) none 1 false true), (AOp.mk (some 6) (AK.mv (AX.t 8)) none 2 false true), (AOp.mk (some 9) (AK.ext (AX.t 6) 0) none 3 false true), (AOp.mk (some 10) (AK.ext (AX.t 6) 1) none 4 false true), (AOp.mk (some 4) (AK.mv (AX.t 9)) none 5 false true), (AOp.mk (some 5) (AK.mv (AX.t 10)) none 6 false true)]) (AC.seq (AC.seq (AC.ops [(AOp.mk (some 11) (AK.mv (AX.t 5)) none 0 false true), (AOp.mk (some 12) (AK.bin false BinOp.neq (AX.t 11) (AX.c (PV.val (Value.int IntKind.i64 0)))) none 1 false true)]) (AC.cond (AX.t 12) (AC.seq (AC.ops [(AOp.mk (some 13) (AK.mv (AX.t 5)) none 0 false true), (AOp.mk (some 2) (AK.mv (AX.c (PV.sl SK.full 0 []))) none 1 false true), (AOp.mk (some 3) (AK.mv (AX.t 13)) none 2 false true)]) AC.ret) AC.skip)) (AC.seq (AC.ops [(AOp.mk (some 14) (AK.mv (AX.t 4)) none 0 false true), (AOp.mk (some 15) (AK.call 59 [(AX.t 14)]) none 1 false true), (AOp.mk (some 2) (AK.mv (AX.t 15)) none 2 false true), (AOp.mk (some 3) (AK.mv (AX.c (PV.val (Value.int IntKind.i64 0)))) none 3 false true)]) AC.ret))))
theorem ac29_ok : cCode Try.prog (fun _ => false) Try.f29.ntmps (Try.f29.body.getD .skip) = some ac29 := by kernel_rfl
def leftP (b : DBook) (out : List Int) (i j : Nat) : Bool := !decide ((i : Int) ∈ out) && !decide ((j : Int) ∈ out) && decide (sameI b i j ≠ 0)
theorem isRidBy1_sem (k : SK) {b : DBook} (ho : okBook b) (out : List Int) {i j : Nat} (hi : i < j) (hj : j < b.horses.length) : Sem1 122 ([] ++ [pi i, pi j] ++ [.ptr [pis out] 0, .ptr [bookP k b] 0]) (pb (leftP b out i j)) := by
  simp only [List.nil_append, List.cons_append]
  obtain ⟨R, hR⟩ : ∃ R, leftP b out i j = R := ⟨_, rfl⟩
  rw [hR]
  unfold leftP at hR
  refine semC_of_exec' mixed Try.func122 (by kernel_rfl) (by kernel_rfl) ac122_ok 4 rfl (by decide) [(.tmp 6)] (by kernel_rfl) ?_
  intro hr C hC hI
  unfold ac122
  simp only [go_sem, Nat.reduceBEq, Nat.reduceAdd]
  refine call_pure2 hC (Contains_sem out i) rfl (PVleL_refl _) ?_
  rintro r rfl
  simp only [go_sem, Nat.reduceBEq]
  refine ⟨fun h1 => ?_, fun h1 => retQ_one rfl (congrArg pb (by rw [← hR]; simp [h1]))⟩
  refine call_pure2 hC (Contains_sem out j) rfl (PVleL_refl _) ?_
  rintro r rfl
  simp only [go_sem, Nat.reduceBEq]
  refine ⟨fun h2 => ?_, fun h2 => retQ_one rfl (congrArg pb (by rw [← hR]; simp [h2]))⟩
  refine call_pure2 hC (canBeSame_sem k ho (by omega) hj) rfl (PVleL_refl _) ?_
  rintro r rfl
  simp only [go_sem, Nat.reduceBEq]
  exact retQ_one rfl (congrArg pb (by rw [← hR]; simp [h1, h2]))
def ridP (b : DBook) (out : List Int) : Bool := ((listsL b.horses.length 2).find? (pairP (leftP b out))).isNone
theorem isRidBy_sem (k : SK) {b : DBook} (ho : okBook b) (out : List Int) : Sem1 89 [bookP k b, pis out] (pb (ridP b out)) := by
  have h6 := ho.2.1
  refine semC_of_exec' mixed Try.func89 (by kernel_rfl) (by kernel_rfl) ac89_ok 2 rfl (by decide) [(.tmp 4)] (by kernel_rfl) ?_
  intro hr C hC hI
  unfold ac89
  simp only [go_sem, Nat.reduceBEq, List.length_map]
  refine call_purA hC (firstPair_sem (by omega) fun i j h1 h2 => isRidBy1_sem k ho out h1 h2) (L' := [.frz [bookP k b], .frz [pis out]]) rfl (PVleL_refl _) ?_
  rintro r rfl
  unfold ridP twoP
  cases (listsL b.horses.length 2).find? (pairP (leftP b out)) with
  | none =>
    simp only [go_sem, Nat.reduceBEq]
    exact retQ_one rfl rfl
  | some l =>
    simp only [go_sem, Nat.reduceBEq]
    exact retQ_one rfl rfl
def dropAt (b : DBook) (m : Nat) : Option (List Int) := (listsL b.horses.length m).find? (ridP b)
def dropO (b : DBook) : Option (List Int) := (List.range (b.horses.length + 1)).findSome? (dropAt b)
def dropI (b : DBook) : List Int := (dropO b).getD []
theorem dropO_some {b : DBook} {m : Nat} {l : List Int} (hm : m < b.horses.length + 1) (h : ∀ x < m, dropAt b x = none) (hl : dropAt b m = some l) : dropI b = l := by
  unfold dropI dropO
  have : (List.range (b.horses.length + 1)).findSome? (dropAt b) = some l := by
    rw [List.findSome?_eq_some_iff]
    refine ⟨List.range m, m, (List.range' (m + 1) (b.horses.length - m)), ?_, hl, fun x hx => h x (List.mem_range.1 hx)⟩
    rw [List.range_eq_range', List.range_eq_range', ← List.range'_succ]
    have := List.range'_append (s := 0) (m := m) (n := b.horses.length - m + 1) (step := 1)
    rw [Nat.one_mul, Nat.zero_add, show m + (b.horses.length - m + 1) = b.horses.length + 1 by omega] at this
    exact this.symm
  rw [this]; rfl
theorem dropO_none {b : DBook} (h : ∀ x < b.horses.length + 1, dropAt b x = none) : dropI b = [] := by
  unfold dropI dropO
  have : (List.range (b.horses.length + 1)).findSome? (dropAt b) = none := List.findSome?_eq_none_iff.2 fun x hx => h x (List.mem_range.1 hx)
  rw [this]; rfl
theorem drop_sem (k : SK) {b : DBook} (ho : okBook b) : Sem1 59 [bookP k b] (pis (dropI b)) := by
  have h6 := ho.2.1
  refine semC_of_exec' mixed Try.func59 (by kernel_rfl) (by kernel_rfl) ac59_ok 1 rfl (by decide) [(.cell 2 31)] (by kernel_rfl) ?_
  intro hr C hC hI
  unfold ac59
  simp only [go_sem, Nat.reduceBEq, List.length_map]
  simp only [go_sem, wrap_succ (k := b.horses.length) (by omega)]
  refine loop_k (b.horses.length + 1) (fun m => ∀ x < m, dropAt b x = none) [1, 2, 11] (fun m => [(12, .p (pi m))]) (fun x h => absurd h (by omega)) rfl ⟨rfl, by simp, by simp⟩ (by simp [wkT, look, AV.lo]) ?_
  rintro m ⟨hm, hok⟩
  simp only [go_sem, Nat.reduceBEq]
  refine ⟨fun h5 => ?_, fun h5 => ?_⟩
  · have hm2 : m < b.horses.length + 1 := by omega
    simp only [go_sem, List.length_map]
    refine call_pure2 hC (lists_sem b.horses.length m) rfl (PVleL_refl _) ?_
    rintro r rfl
    simp only [go_sem]
    refine rng_m (ι := Unit) (listsL b.horses.length m) (fun l => [pis l]) [1, 2, 11, 12] (fun _ _ => [.cells [.p (bookP k b)], .cells [.p (.sl .full 0 [])]]) (fun _ _ => []) (fun _ => some []) (fun i _ => ∀ l ∈ (listsL b.horses.length m).take i, ridP b l = false) () rfl rfl (hI _ _ _ (lists_it (by omega) (by omega))) ?_ (fun _ => rfl) (by simp [Wk, wkT, wkL, look, AV.lo, AV.lo.loL, keepS]) (by simp) ?_ ?_
    · simp only [show noY.noYR ((listsL b.horses.length m).map fun l => [pis l]) = true from noY_encLs _, noY.noYL, noY, Bool.and_true]
    · rintro q - hq hk
      simp only [go_sem, Nat.reduceBEq, Nat.reduceAdd]
      refine call_pure2 hC (isRidBy_sem k ho _) rfl (PVleL_refl _) ?_
      rintro r rfl
      simp only [go_sem, Nat.reduceBEq]
      cases hp : ridP b (listsL b.horses.length m)[q]
      · simp only [go_sem]
        refine ⟨(), take_next hq hk hp, ?_⟩
        exact by simp [Wk, wkT, wkL, look, AV.lo, AV.lo.loL, ABlk.toZ]
      · have hd : dropI b = (listsL b.horses.length m)[q] := dropO_some hm2 hok (find_at hq hk hp)
        rw [hd]
        simp only [go_sem, Nat.reduceBEq, putCells]
        exact retQ_cell (n := none) (by kernel_rfl) rfl rfl
    · rintro - hk
      have hd : dropAt b m = none := find_no hk
      simp only [go_sem, Nat.reduceBEq, wrap_succ (k := m) (by omega)]
      refine ⟨⟨m + 1, hm2, fun x hx => ?_⟩, by simp only; omega, by simp [Wk, wkT, wkL, look, AV.lo, AV.lo.loL, ABlk.toZ]⟩
      by_cases h : x = m
      · rw [h]; exact hd
      · exact hok x (by omega)
  · have hd : dropI b = [] := dropO_none fun x hx => hok x (by omega)
    rw [hd]
    exact retQ_cell_le (n := none) (by kernel_rfl) rfl (PVle.nil .full 0 1) rfl
theorem Drop_sem (k : SK) (b : DBook) : Sem1 29 [.agg (bookC k b)] (if okBook b then .tup [pis (dropI b), pi 0] else .tup [pis [], pi 70]) := by
  refine semC_of_exec' mixed Try.func29 (by kernel_rfl) (by kernel_rfl) ac29_ok 1 rfl (by decide) [(.tmp 2), (.tmp 3)] (by kernel_rfl) ?_
  intro hr C hC hI
  unfold ac29
  simp only [go_sem, Nat.reduceBEq, Nat.reduceAdd]
  refine askP hC k b true (fun hne => ?_) (fun h0 => ?_)
  · have ho : ¬ okBook b := fun ho => errI_ne hne ⟨ho, rfl⟩
    have he : errI b true = 70 := by unfold errI; rw [if_neg ho]
    rw [he, if_neg ho]
    simp only [go_sem, Nat.reduceBEq]
    exact ⟨fun _ => retQ_two_le rfl rfl (PVle.nil _ _ _) (PVle.refl _) rfl, fun h => absurd h (by decide)⟩
  obtain ⟨ho, -⟩ := errI_ok h0
  rw [if_pos ho]
  simp only [go_sem, Nat.reduceBEq]
  refine ⟨fun h => h.elim, fun _ => ?_⟩
  refine call_pure2 hC (drop_sem k ho) rfl (PVleL_refl _) ?_
  rintro r rfl
  simp only [go_sem, Nat.reduceBEq]
  exact retQ_two rfl rfl rfl
end Go.Proofs.Ytlbolnlcncjijaa
namespace Go.Proofs.Ytlbolnlcncjijaa
open Go.RowKit
def hasS (x : Int) (s : Nat) : Bool := meetB x (2 ^ s)
def sizesL (x : Int) : List Nat := (List.range 4).filter (hasS x)
def sizesF (x : Int) (t : Nat) : List (List PV) := (((List.range 4).drop t).filter (hasS x)).map encT
abbrev pu (n : Nat) : PV := .val (.int .u64 n)
def ownK (v : Nat × Nat) : Nat := v.1 * 8 + v.2
def addO (b : DBook) (p s m : Nat) (v : Nat × Nat) : Nat := if hasS ((rowL b v.1 v.2).getD p 0) s then m ||| 2 ^ ownK v else m
def ownF (b : DBook) (i p s : Nat) : Nat := ((viewsL b).take i).foldl (addO b p s) 0
def arrO (f : Nat → Nat → Nat) : List PV := (List.range 32).map fun q => pu (f (q / 4) (q % 4))
end Go.Proofs.Ytlbolnlcncjijaa
namespace Go.Proofs.Ytlbolnlcncjijaa
open Go.RowKit
def ownR (b : DBook) (i j : Nat) (p s : Nat) : Nat := if p < j then ownF b (i + 1) p s else ownF b i p s
def ownS (b : DBook) (i j : Nat) (zs : List Nat) (p s : Nat) : Nat := if p < j ∨ (p = j ∧ s ∈ zs) then ownF b (i + 1) p s else ownF b i p s
end Go.Proofs.Ytlbolnlcncjijaa
namespace Go.Proofs.Ytlbolnlcncjijaa
open Go.RowKit
def freeF (w : Nat → Nat → Nat) : Nat → List Int → Nat → List (List Int)
  | 0, l, m => if m = 0 then [l] else []
  | r + 1, l, m => (List.range 4).flatMap fun (s : Nat) => freeF w r (l ++ [(s : Int)]) (m &&& w l.length s)
def spanS (w : Nat → Nat → Nat) (r : Nat) (l : List Int) (m j : Nat) : List (List PV) := encLs (((List.range 4).drop j).flatMap fun (s : Nat) => freeF w r (l ++ [(s : Int)]) (m &&& w l.length s))
def ownW (b : DBook) : Nat → Nat → Nat := ownF b (viewsL b).length
def freeL (b : DBook) : List (List Int) := freeF (ownW b) (nR b) [] (2 ^ 64 - 1)
def firstL (zs : List (List Int)) : PV := match zs with | [] => .tup [pis [], pb false] | z :: _ => .tup [pis z, pb true]
def newR (b : DBook) : PV := if okBook b then (match freeL b with | [] => .tup [pis [], pi 4] | z :: _ => .tup [pis z, pi 0]) else .tup [pis [], pi 70]
end Go.Proofs.Ytlbolnlcncjijaa
namespace Go.Proofs.Ytlbolnlcncjijaa
open Go.RowKit
def openF (b : DBook) (h p : Nat) : Int := if openB ((rowL b h 0).getD p 0) then (rowL b h 0).getD p 0 else 0
def openL (b : DBook) (h : Nat) : List Int := arrN (openF b h) 8
def knownH (b : DBook) (h : Nat) : Bool := decide (openL b h = [0, 0, 0, 0, 0, 0, 0, 0])
def knownB (b : DBook) : Bool := (List.range b.horses.length).all (knownH b)
def knowB (b : DBook) (h p s : Nat) : DBook := ⟨b.round, (List.range b.horses.length).map fun i => (List.range (nR b)).map fun q => if (i, q) = (h, p) then 2 ^ s else (b.horses.getD i []).getD q 0⟩
def rowsO (e : TypeId) (ts : List Nat) (rows : List (List Int)) : List (List PV) := List.zipWith (fun t r => [slN e (some t) r]) ts rows
def slO (e e2 : TypeId) (o : Option Nat) (ts : List Nat) (rows : List (List Int)) : PV :=
  match o with
  | none => .sl .full 0 []
  | some t => .sl (.own t e 1) 1 (rowsO e2 ts rows)
def knowR (b : DBook) (h p s i j : Nat) : List Int := (List.range j).map fun q => if (i, q) = (h, p) then 2 ^ s else (b.horses.getD i []).getD q 0
def rowsK (b : DBook) (h p s i : Nat) : List (List Int) := (List.range i).map fun i => knowR b h p s i (nR b)
end Go.Proofs.Ytlbolnlcncjijaa
namespace Go.Proofs.Ytlbolnlcncjijaa
open Go.RowKit
def worstF (b : DBook) (h p : Nat) (l : List Nat) : Int := l.foldl (fun m s => maxI true m (clashI (knowB b h p s))) 0
def worstI (b : DBook) (h p : Nat) : Int := worstF b h p (sizesL ((rowL b h p).getD 0 0))
def encC (b : DBook) (v : Nat × Nat) : List PV := [.agg [pi v.1, pi v.2, pi (worstI b v.1 v.2)]]
def chIL (b : DBook) (h j : Nat) : List (Nat × Nat) := (((List.range 8).drop j).filter fun p => decide (openF b h p ≠ 0)).map fun p => (h, p)
def chL (b : DBook) (i : Nat) : List (Nat × Nat) := ((List.range b.horses.length).drop i).flatMap fun h => chIL b h 0
def chO (b : DBook) (i : Nat) : List (List PV) := (chL b i).map (encC b)
def chI (b : DBook) (h j : Nat) : List (List PV) := (chIL b h j).map (encC b)
def lessC (b : DBook) (v w : Nat × Nat) : Bool := decide (worstI b v.1 v.2 < worstI b w.1 w.2)
def bestF (b : DBook) (v : Nat × Nat) (l : List (Nat × Nat)) : Nat × Nat := l.foldl (fun m c => if lessC b c m then c else m) v
def lookI (b : DBook) : Nat × Nat := match chL b 0 with | [] => (0, 0) | v :: zs => bestF b v (v :: zs)
def lookR (b : DBook) : PV := if okBook b then (if knownB b then .tup [pi 0, pi 0, pi 4] else .tup [pi (lookI b).1, pi (lookI b).2, pi 0]) else .tup [pi 0, pi 0, pi 70]
end Go.Proofs.Ytlbolnlcncjijaa
namespace Go.Proofs.Ytlbolnlcncjijaa
open Go.RowKit
def setB (x : Int) : Prop := 1 ≤ x ∧ x ≤ 15
theorem setB_cases {x : Int} (h : setB x) : ∃ i : Fin 15, x = (i.val : Int) + 1 := ⟨⟨(x - 1).toNat, by unfold setB at h; omega⟩, by unfold setB at h; simp only; omega⟩
theorem meet_comm (x y : Int) : meetB x y = meetB y x := by
  unfold meetB andI
  rw [BitVec.and_comm]
set_option maxRecDepth 100000 in
theorem sure_tab : ∀ i j : Fin 15, sureB ((i.val : Int) + 1) ((j.val : Int) + 1) = (meetB ((i.val : Int) + 1) ((j.val : Int) + 1) && !openB ((i.val : Int) + 1) && !openB ((j.val : Int) + 1)) := by decide
theorem sure_eq {x y : Int} (hx : setB x) (hy : setB y) : sureB x y = (meetB x y && !openB x && !openB y) := by
  obtain ⟨i, rfl⟩ := setB_cases hx
  obtain ⟨j, rfl⟩ := setB_cases hy
  exact sure_tab i j
def hsI (b : DBook) (h p : Nat) : Int := (b.horses.getD h []).getD p 0
theorem hs_set {b : DBook} (ho : okBook b) {h p : Nat} (hh : h < b.horses.length) (hp : p < nR b) : setB (hsI b h p) := by
  have hH := ho.2.2 _ (List.getElem_mem hh)
  have hq : p < b.horses[h].length := by have := hH.1; have := (okR ho).2.2; omega
  have e : hsI b h p = b.horses[h][p] := by simp [hsI, List.getD_eq_getElem?_getD, List.getElem?_eq_getElem hh, List.getElem?_eq_getElem hq]
  rw [e]
  exact hH.2 _ (List.getElem_mem hq)
theorem rowI_hs (b : DBook) (h t p : Nat) : rowI b h t p = hsI b h ((p + t) % nR b) := rfl
theorem rowL_get {b : DBook} (ho : okBook b) {h t q : Nat} (hq : q < nR b) : (rowL b h t).getD q 0 = rowI b h t q := by
  obtain ⟨h1, h8, hn⟩ := okR ho
  unfold rowL rowN
  rw [List.getD_eq_getElem?_getD, List.getElem?_map, List.getElem?_range (by omega)]
  show (if q < nR b then rowI b h t q else 0) = _
  rw [if_pos hq]
theorem rowI_0 {b : DBook} {h q : Nat} (hq : q < nR b) : rowI b h 0 q = hsI b h q := by
  rw [rowI_hs, Nat.add_zero, Nat.mod_eq_of_lt hq]
def fit2 (b : DBook) (p : Int → Int → Bool) (h o t : Nat) : Prop := ∀ q, q < nR b → p (hsI b h ((q + t) % nR b)) (hsI b o q) = true
theorem fit2_iff {b : DBook} (ho : okBook b) {p : Int → Int → Bool} {h o t : Nat} : fitB b p h (rowL b o 0) t = true ↔ fit2 b p h o t := by
  unfold fitB fit2
  rw [List.all_eq_true]
  constructor
  · intro H q hq
    have := H q (List.mem_range.2 hq)
    rwa [rowL_get ho hq, rowI_0 hq] at this
  · intro H q hq
    have hq := List.mem_range.1 hq
    rw [rowL_get ho hq, rowI_0 hq]
    exact H q hq
theorem mem_turns {b : DBook} (ho : okBook b) {p : Int → Int → Bool} {h o t : Nat} : t ∈ turnsP b p h (rowL b o 0) ↔ t < nR b ∧ fit2 b p h o t := by
  unfold turnsP
  rw [List.mem_filter, List.mem_range, fit2_iff ho]
def backT (r t : Nat) : Nat := (r - t) % r
theorem back_lt {r t : Nat} (h : 1 ≤ r) : backT r t < r := Nat.mod_lt _ h
theorem back_mod {r t q : Nat} (ht : t < r) (hq : q < r) : ((q + t) % r + backT r t) % r = q := by
  unfold backT
  rcases Nat.eq_zero_or_pos t with rfl | h0
  · simp [Nat.mod_eq_of_lt hq]
  · rw [Nat.mod_eq_of_lt (show r - t < r by omega)]
    rcases Nat.lt_or_ge (q + t) r with h | h
    · rw [Nat.mod_eq_of_lt h, show q + t + (r - t) = q + r by omega, Nat.add_mod_right, Nat.mod_eq_of_lt hq]
    · rw [Nat.mod_eq_sub_mod h, Nat.mod_eq_of_lt (show q + t - r < r by omega), show q + t - r + (r - t) = q by omega, Nat.mod_eq_of_lt hq]
theorem back_back {r t : Nat} (ht : t < r) : backT r (backT r t) = t := by
  unfold backT
  rcases Nat.eq_zero_or_pos t with rfl | h0
  · simp
  · rw [Nat.mod_eq_of_lt (show r - t < r by omega), show r - (r - t) = t by omega, Nat.mod_eq_of_lt ht]
theorem fit_back {b : DBook} {p : Int → Int → Bool} (hp : ∀ x y, p x y = p y x) {h o t : Nat} (ht : t < nR b) (H : fit2 b p h o t) : fit2 b p o h (backT (nR b) t) := by
  intro q hq
  have h1 : 1 ≤ nR b := by omega
  have h2 := H ((q + backT (nR b) t) % nR b) (Nat.mod_lt _ h1)
  rw [hp]
  have e := back_mod (back_lt (t := t) h1) hq
  rw [back_back ht] at e
  rwa [e] at h2
theorem sure_comm (x y : Int) : sureB x y = sureB y x := by
  unfold sureB
  by_cases h : x = y
  · rw [h]
  · rw [decide_eq_false h, decide_eq_false (fun e => h e.symm), Bool.false_and, Bool.false_and]
theorem turns_nil_comm {b : DBook} (ho : okBook b) {p : Int → Int → Bool} (hp : ∀ x y, p x y = p y x) (h o : Nat) : turnsP b p h (rowL b o 0) = [] ↔ turnsP b p o (rowL b h 0) = [] := by
  have key : ∀ h o, turnsP b p h (rowL b o 0) = [] → turnsP b p o (rowL b h 0) = [] := by
    intro h o e
    rw [List.eq_nil_iff_forall_not_mem]
    intro t ht
    obtain ⟨h1, h2⟩ := (mem_turns ho).1 ht
    have := (mem_turns ho).2 ⟨back_lt (by omega), fit_back hp h1 h2⟩
    rw [e] at this
    exact absurd this (by simp)
  exact ⟨key h o, key o h⟩
theorem same_eq {b : DBook} (ho : okBook b) (h o : Nat) : sameI b h o = if turnsP b sureB h (rowL b o 0) = [] then (if turnsP b meetB h (rowL b o 0) = [] then 0 else 1) else 2 := by
  unfold sameI
  have e0 : likeAt b h (rowL b o 0) 1 = 0 := by
    show (if turnsP b (pL 0) h (rowL b o 0) = [] then (0 : Int) else maxI true 0 0) = 0
    split <;> rfl
  show (if turnsP b (pL 2) h (rowL b o 0) = [] then (if turnsP b (pL 1) h (rowL b o 0) = [] then likeAt b h (rowL b o 0) 1 else maxI true (likeAt b h (rowL b o 0) 1) 1) else maxI true (if turnsP b (pL 1) h (rowL b o 0) = [] then likeAt b h (rowL b o 0) 1 else maxI true (likeAt b h (rowL b o 0) 1) 1) 2) = _
  rw [e0]
  rw [show pL 2 = sureB from rfl, show pL 1 = meetB from rfl]
  split
  · split <;> rfl
  · split <;> rfl
theorem same_comm {b : DBook} (ho : okBook b) (h o : Nat) : sameI b h o = sameI b o h := by
  rw [same_eq ho, same_eq ho]
  simp only [turns_nil_comm ho sure_comm h o, turns_nil_comm ho meet_comm h o]
def allK (b : DBook) (h : Nat) : Prop := ∀ p, p < nR b → openB (hsI b h p) = false
theorem fit_sure {b : DBook} (ho : okBook b) {h o t : Nat} (hh : h < b.horses.length) (hoo : o < b.horses.length) (ht : t < nR b) : fit2 b sureB h o t ↔ fit2 b meetB h o t ∧ allK b h ∧ allK b o := by
  have h1 : 1 ≤ nR b := by omega
  constructor
  · intro H
    have H2 : ∀ q, q < nR b → meetB (hsI b h ((q + t) % nR b)) (hsI b o q) = true ∧ openB (hsI b h ((q + t) % nR b)) = false ∧ openB (hsI b o q) = false := by
      intro q hq
      have := H q hq
      rw [sure_eq (hs_set ho hh (Nat.mod_lt _ h1)) (hs_set ho hoo hq)] at this
      simpa [and_assoc] using this
    refine ⟨fun q hq => (H2 q hq).1, fun p hp => ?_, fun p hp => (H2 p hp).2.2⟩
    have e := back_mod (back_lt (t := t) h1) hp
    rw [back_back ht] at e
    have := (H2 _ (Nat.mod_lt (p + backT (nR b) t) h1)).2.1
    rwa [e] at this
  · rintro ⟨H, k1, k2⟩ q hq
    rw [sure_eq (hs_set ho hh (Nat.mod_lt _ h1)) (hs_set ho hoo hq), H q hq, k1 _ (Nat.mod_lt _ h1), k2 q hq]
    rfl
theorem same_two {b : DBook} (ho : okBook b) {h o : Nat} (hh : h < b.horses.length) (hoo : o < b.horses.length) : sameI b h o = 2 ↔ turnsI b h o ≠ [] ∧ allK b h ∧ allK b o := by
  rw [same_eq ho]
  have key : turnsP b sureB h (rowL b o 0) ≠ [] ↔ turnsI b h o ≠ [] ∧ allK b h ∧ allK b o := by
    constructor
    · intro hne
      obtain ⟨t, ht⟩ := List.exists_mem_of_ne_nil _ hne
      obtain ⟨h1, h2⟩ := (mem_turns ho).1 ht
      obtain ⟨h3, h4, h5⟩ := (fit_sure ho hh hoo h1).1 h2
      exact ⟨List.ne_nil_of_mem ((mem_turns ho).2 ⟨h1, h3⟩), h4, h5⟩
    · rintro ⟨hne, h4, h5⟩
      obtain ⟨t, ht⟩ := List.exists_mem_of_ne_nil _ hne
      obtain ⟨h1, h2⟩ := (mem_turns ho).1 ht
      exact List.ne_nil_of_mem ((mem_turns ho).2 ⟨h1, (fit_sure ho hh hoo h1).2 ⟨h2, h4, h5⟩⟩)
  split
  · rename_i h0
    constructor
    · intro e; split at e <;> omega
    · intro e; exact absurd h0 (key.2 e)
  · rename_i h0
    exact ⟨fun _ => key.1 h0, fun _ => rfl⟩
theorem same_pos {b : DBook} (ho : okBook b) {h o : Nat} (hh : h < b.horses.length) (hoo : o < b.horses.length) : sameI b h o ≠ 0 ↔ turnsI b h o ≠ [] := by
  have h2 := same_two ho hh hoo
  rw [same_eq ho] at h2 ⊢
  split
  · rename_i h0
    rw [show turnsI b h o = turnsP b meetB h (rowL b o 0) from rfl]
    split
    · rename_i h1; simp [h1]
    · rename_i h1; simp [h1]
  · rename_i h0
    rw [if_neg h0] at h2
    exact ⟨fun _ => (h2.1 rfl).1, fun _ => by omega⟩
end Go.Proofs.Ytlbolnlcncjijaa
namespace Go.Proofs.Ytlbolnlcncjijaa
open Go.RowKit
theorem lexB_pre : ∀ (l a b : List Int), lexB (l ++ a) (l ++ b) = lexB a b
  | [], a, b => rfl
  | x :: l, a, b => by simp [lexB, lexB_pre l a b]
theorem listsF_pw (e : Nat) : ∀ (r : Nat) (l : List Int) (a : Nat), (listsF e r l a).Pairwise fun x y => lexB x y = true
  | 0, l, a => List.pairwise_singleton _ _
  | r + 1, l, a => by
    unfold listsF
    rw [List.pairwise_flatMap]
    constructor
    · exact fun n _ => listsF_pw e r _ _
    · rw [List.pairwise_map]
      refine (List.pairwise_lt_range (n := e - a)).imp fun {q q'} hq x hx y hy => ?_
      obtain ⟨t, rfl, -⟩ := (mem_listsF r _ _ _).1 hx
      obtain ⟨t', rfl, -⟩ := (mem_listsF r _ _ _).1 hy
      rw [List.append_assoc, List.append_assoc, lexB_pre]
      simp only [List.singleton_append, lexB]
      rw [if_neg (by omega)]
      simp; omega
theorem lists_pw (e m : Nat) : (listsL e m).Pairwise fun x y => lexB x y = true := listsF_pw e m [] 0
theorem find_first {zs : List (List Int)} (hp : zs.Pairwise fun x y => lexB x y = true) {P : List Int → Bool} {z : List Int} (h : zs.find? P = some z) : z ∈ zs ∧ P z = true ∧ ∀ x ∈ zs, lexB x z = true → P x = false := by
  obtain ⟨h1, us, vs, rfl, h2⟩ := List.find?_eq_some_iff_append.1 h
  refine ⟨by simp, h1, fun x hx hlt => ?_⟩
  rcases List.mem_append.1 hx with hx | hx
  · have := h2 x hx; simpa using this
  · exfalso
    rcases List.mem_cons.1 hx with rfl | hx
    · rw [lexB_irr] at hlt; cases hlt
    · rw [List.pairwise_append] at hp
      have := lexB_trans ((List.pairwise_cons.1 hp.2.1).1 x hx) hlt
      rw [lexB_irr] at this; cases this
theorem mem_pair {e i k : Nat} (h : i < k) (hk : k < e) : [(i : Int), (k : Int)] ∈ listsL e 2 := by
  rw [mem_listsL]
  refine ⟨rfl, ?_, fun x hx => ?_⟩
  · unfold incL; simp; omega
  · simp at hx; rcases hx with rfl | rfl <;> omega
theorem pair_none {e : Nat} {P : Nat → Nat → Bool} (h : (listsL e 2).find? (pairP P) = none) {i k : Nat} (hi : i < k) (hk : k < e) : P i k = false := by
  have := List.find?_eq_none.1 h _ (mem_pair hi hk)
  rw [pairP_two] at this
  simpa using this
theorem pair_some {e : Nat} {P : Nat → Nat → Bool} {l : List Int} (h : (listsL e 2).find? (pairP P) = some l) : ∃ i k : Nat, l = [(i : Int), (k : Int)] ∧ i < k ∧ k < e ∧ P i k = true ∧ ∀ p q, p < q → q < e → (p < i ∨ p = i ∧ q < k) → P p q = false := by
  obtain ⟨h1, h2, h3⟩ := find_first (lists_pw e 2) h
  obtain ⟨i, k, rfl, hi, hk⟩ := pair_of h1
  rw [pairP_two] at h2
  refine ⟨i, k, rfl, hi, hk, h2, fun p q hp hq hlt => ?_⟩
  have := h3 _ (mem_pair hp hq) (by
    simp only [lexB]
    by_cases e1 : p = i
    · subst e1
      rw [if_pos rfl, if_neg (by omega)]
      exact decide_eq_true (by omega)
    · rw [if_neg (by omega)]
      exact decide_eq_true (by omega))
  rwa [pairP_two] at this
end Go.Proofs.Ytlbolnlcncjijaa
namespace Go.Proofs.Ytlbolnlcncjijaa
open Go.RowKit
theorem rid_iff {b : DBook} {out : List Int} : ridP b out = true ↔ ∀ i k : Nat, i < k → k < b.horses.length → leftP b out i k = false := by
  unfold ridP
  cases h : (listsL b.horses.length 2).find? (pairP (leftP b out)) with
  | none => exact ⟨fun _ i k hi hk => pair_none h hi hk, fun _ => rfl⟩
  | some l =>
    obtain ⟨i, k, -, h1, h2, h3, -⟩ := pair_some h
    refine ⟨(fun e => by cases e), fun e => ?_⟩
    rw [e i k h1 h2] at h3
    cases h3
theorem all_mem (n : Nat) : natL (List.range n) ∈ listsL n n := by
  rw [mem_listsL]
  unfold natL
  refine ⟨by simp, ?_, fun x hx => ?_⟩
  · unfold incL
    rw [List.pairwise_map]
    exact (List.pairwise_lt_range (n := n)).imp fun {a b} h => by omega
  · obtain ⟨y, hy, rfl⟩ := List.mem_map.1 hx
    have := List.mem_range.1 hy
    omega
theorem all_rid (b : DBook) : ridP b (natL (List.range b.horses.length)) = true := by
  rw [rid_iff]
  intro i k hi hk
  unfold leftP
  have : (i : Int) ∈ natL (List.range b.horses.length) := List.mem_map.2 ⟨i, List.mem_range.2 (by omega), rfl⟩
  rw [decide_eq_true this]
  rfl
theorem drop_facts (b : DBook) : growsI (dropI b) b.horses.length ∧ ridP b (dropI b) = true ∧ ∀ l, growsI l b.horses.length → shortB l (dropI b) = true → ridP b l = false := by
  have hne : dropO b ≠ none := by
    unfold dropO
    rw [Ne, List.findSome?_eq_none_iff]
    intro h
    have h2 := h b.horses.length (List.mem_range.2 (by omega))
    unfold dropAt at h2
    have := List.find?_eq_none.1 h2 _ (all_mem _)
    rw [all_rid] at this
    exact this rfl
  obtain ⟨d, hd⟩ := Option.ne_none_iff_exists'.1 hne
  have hdi : dropI b = d := by unfold dropI; rw [hd]; rfl
  rw [hdi]
  unfold dropO at hd
  obtain ⟨l1, a, l2, e, h1, h2⟩ := List.findSome?_eq_some_iff.1 hd
  unfold dropAt at h1
  obtain ⟨g1, g2, g3⟩ := find_first (lists_pw _ _) h1
  obtain ⟨m1, m2⟩ := mem_listsL.1 g1
  have hp := List.pairwise_lt_range (n := b.horses.length + 1)
  rw [e, List.pairwise_append] at hp
  have ha : a < b.horses.length + 1 := List.mem_range.1 (by rw [e]; simp)
  refine ⟨m2, g2, fun l hl hs => ?_⟩
  unfold shortB at hs
  split at hs
  · rename_i hlen
    exact g3 l (mem_listsL.2 ⟨by omega, hl⟩) hs
  · rename_i hlen
    have hlt : l.length < a := by have := of_decide_eq_true hs; omega
    have hm : l.length ∈ l1 := by
      have : l.length ∈ List.range (b.horses.length + 1) := List.mem_range.2 (by omega)
      rw [e] at this
      rcases List.mem_append.1 this with h | h
      · exact h
      · exfalso
        rcases List.mem_cons.1 h with h | h
        · omega
        · have := (List.pairwise_cons.1 hp.2.1).1 _ h
          omega
    have h3 := h2 _ hm
    unfold dropAt at h3
    have := List.find?_eq_none.1 h3 l (mem_listsL.2 ⟨rfl, hl⟩)
    simpa using this
theorem drop_nil (b : DBook) : dropI b = [] ↔ ∀ i k : Nat, i < k → k < b.horses.length → sameI b i k = 0 := by
  obtain ⟨h1, h2, h3⟩ := drop_facts b
  have key : ridP b [] = true ↔ ∀ i k : Nat, i < k → k < b.horses.length → sameI b i k = 0 := by
    rw [rid_iff]
    refine forall_congr' fun i => forall_congr' fun k => forall_congr' fun _ => forall_congr' fun _ => ?_
    simp [leftP]
  rw [← key]
  constructor
  · intro e; rw [e] at h2; exact h2
  · intro e
    cases hd : dropI b with
    | nil => rfl
    | cons x l =>
      have := h3 [] ⟨List.Pairwise.nil, by simp⟩ (by rw [hd]; simp [shortB])
      rw [this] at e; cases e
end Go.Proofs.Ytlbolnlcncjijaa
namespace Go.Proofs.Ytlbolnlcncjijaa
open Go.RowKit
def slG (e : TypeId) (o : Option Nat) (rows : List (List PV)) : PV :=
  match o with
  | none => .sl .full 1 []
  | some t => .sl (.own t e 1) 1 rows
def dropT (o : Option Nat) (L : List Nat) : List Nat := match o with | none => L | some t => L.erase t
theorem app_slG {C : Con} {Q : AEx → AS → Prop} {s : AS} {rd : List Nat} {d : Option Nat} {ops : List AOp} {e : TypeId} {o : Option Nat} {rows : List (List PV)} {k2 : SK} {v : PV} (h0 : o = none → rows = []) (hl : rows.length ≤ 999999) (hlv : ∀ t ∈ o.toList, t ∈ s.live)
    (K : ∀ t, t ∉ s.live → contOps C ops Q rd (({ s with live := t :: dropT o s.live } : AS).put d (.p (slG e (some t) (rows ++ [[v]]))))) : appK false (.p (slG e o rows)) (.p (.sl k2 1 [[v]])) e 1 C rd d ops Q s := by
  cases o with
  | none =>
    have := h0 rfl
    subst this
    exact ⟨.inl rfl, .inl rfl, by simp, trivial, K⟩
  | some t =>
    exact ⟨.inl rfl, .inl rfl, by simp; omega, ⟨hlv t (by simp), rfl, rfl⟩, K⟩
theorem retQ_slG {P : Program} {t : Nat} {R : PV → Prop} {s : AS} {e : TypeId} {o : Option Nat} {rows : List (List PV)} (h0 : o = none → rows = []) (h : look s.t t = .p (slG e o rows)) (hR : R (.sl .sh 1 rows)) : retQ P [.tmp t] R s := by
  cases o with
  | none =>
    have := h0 rfl
    subst this
    exact retQ_le h (PVle.sh _ _ _) hR
  | some t => exact retQ_le h (PVle.sh _ _ _) hR
end Go.Proofs.Ytlbolnlcncjijaa
namespace Go.Proofs.Ytlbolnlcncjijaa
open Go.RowKit
def slZ (e : TypeId) (sz : Nat) (o : Option Nat) (rows : List (List PV)) : PV :=
  match o with
  | none => .sl .full 0 []
  | some t => .sl (.own t e sz) sz rows
theorem app_slZ {C : Con} {Q : AEx → AS → Prop} {s : AS} {rd : List Nat} {d : Option Nat} {ops : List AOp} {e : TypeId} {sz : Nat} {o : Option Nat} {rows : List (List PV)} {k2 : SK} {v : List PV} (h0 : o = none → rows = []) (hl : rows.length ≤ 999999) (hlv : ∀ t ∈ o.toList, t ∈ s.live)
    (K : ∀ t, t ∉ s.live → contOps C ops Q rd (({ s with live := t :: dropT o s.live } : AS).put d (.p (slZ e sz (some t) (rows ++ [v]))))) : appK false (.p (slZ e sz o rows)) (.p (.sl k2 sz [v])) e sz C rd d ops Q s := by
  cases o with
  | none =>
    have := h0 rfl
    subst this
    exact ⟨.inr rfl, .inl rfl, by simp, trivial, K⟩
  | some t =>
    exact ⟨.inl rfl, .inl rfl, by simp; omega, ⟨hlv t (by simp), rfl, rfl⟩, K⟩
theorem slZ_le {e : TypeId} {sz : Nat} {o : Option Nat} {rows : List (List PV)} (h0 : o = none → rows = []) : PVle (slZ e sz o rows) (.sl .sh sz rows) := by
  cases o with
  | none =>
    have := h0 rfl
    subst this
    exact PVle.nil _ _ _
  | some t => exact PVle.sh _ _ _
end Go.Proofs.Ytlbolnlcncjijaa
