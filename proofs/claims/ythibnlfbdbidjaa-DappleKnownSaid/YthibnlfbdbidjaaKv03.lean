/- Contracts of dapple: whose a row is; which horses must go. Contracts of dapple: which horses must go. Contracts of dapple: who can have a size at a place. Contracts of dapple: who can have a size at a place, all of them. -/
import Derived.Test.YthibnlfbdbidjaaKv02
namespace Go.Proofs.Ythibnlfbdbidjaa
open Go.RowKit
def ac77 : AC := (AC.seq (AC.ops [(AOp.mk (some 2) (AK.new (PV.agg [(PV.val (Value.int IntKind.i64 0)), (PV.val (Value.int IntKind.i64 0)), (PV.val (Value.int IntKind.i64 0)), (PV.val (Value.int IntKind.i64 0)), (PV.val (Value.int IntKind.i64 0)), (PV.val (Value.int IntKind.i64 0)), (PV.val (Value.int IntKind.i64 0)), (PV.val (Value.int IntKind.i64 0))])) none 0 false true)]) (AC.seq (AC.seq (AC.ops [(AOp.mk (some 5) (AK.mv (AX.t 0)) none 0 false true), (AOp.mk (some 6) (AK.len (AX.t 5)) none 1 false true), (AOp.mk (some 7) (AK.mv (AX.c (PV.val (Value.int IntKind.i64 0)))) none 2 false true)]) (AC.block 0 (AC.loop (AC.seq (AC.ops [(AOp.mk (some 8) (AK.bin false BinOp.lss (AX.t 7) (AX.t 6)) none 0 false true)]) (AC.seq (AC.cond (AX.t 8) AC.skip (AC.exit 0)) (AC.seq (AC.block 1 (AC.seq (AC.ops [(AOp.mk (some 9) (AK.mv (AX.t 7)) none 0 false true), (AOp.mk (some 10) (AK.iadrS 1 (AX.t 5) (AX.t 7)) none 1 false true), (AOp.mk (some 11) (AK.ld none (AX.t 10)) none 2 false true), (AOp.mk (some 3) (AK.mv (AX.t 9)) none 3 false true), (AOp.mk (some 4) (AK.mv (AX.t 11)) none 4 false true)]) (AC.ops [(AOp.mk (some 12) (AK.mv (AX.t 3)) none 0 false true), (AOp.mk (some 13) (AK.mv (AX.t 4)) none 1 false true), (AOp.mk (some 14) (AK.call 113 [(AX.t 13)]) none 2 false true), (AOp.mk (some 15) (AK.iadrA 1 8 (AX.t 2) (AX.t 12)) none 3 false true), (AOp.mk none (AK.st 1 (AX.t 15) (AX.t 14)) none 4 false true)]))) (AC.ops [(AOp.mk (some 16) (AK.bin false BinOp.add (AX.t 7) (AX.c (PV.val (Value.int IntKind.i64 1)))) none 0 false true), (AOp.mk (some 7) (AK.mv (AX.t 16)) none 1 false true)]))))))) (AC.seq (AC.ops [(AOp.mk (some 17) (AK.ld (some 8) (AX.t 2)) none 0 false true), (AOp.mk none (AK.st 8 (AX.t 2) (AX.t 17)) none 1 false true)]) AC.ret)))
theorem ac77_ok : cCode Try.prog (fun _ => false) Try.f77.ntmps (Try.f77.body.getD .skip) = some ac77 := by kernel_rfl
def ac76 : AC := (AC.seq (AC.ops [(AOp.mk (some 3) (AK.box 8 (AX.t 1)) none 0 false true), (AOp.mk (some 4) (AK.mv (AX.c (PV.sl SK.full 0 []))) none 1 false true)]) (AC.seq (AC.ops [(AOp.mk (some 5) (AK.mv (AX.c (PV.sl SK.full 0 []))) none 0 false true)]) (AC.seq (AC.seq (AC.ops [(AOp.mk (some 9) (AK.mv (AX.t 0)) none 0 false true), (AOp.mk (some 10) (AK.nilc (AX.t 9)) none 1 false true), (AOp.mk (some 11) (AK.fadr 0 (AX.t 10)) none 2 false true), (AOp.mk (some 12) (AK.fadr 1 (AX.t 11)) none 3 false true), (AOp.mk (some 13) (AK.ld none (AX.t 12)) none 4 false true), (AOp.mk (some 14) (AK.len (AX.t 13)) none 5 false true), (AOp.mk (some 15) (AK.mv (AX.c (PV.val (Value.int IntKind.i64 0)))) none 6 false true)]) (AC.block 0 (AC.loop (AC.seq (AC.ops [(AOp.mk (some 16) (AK.bin false BinOp.lss (AX.t 15) (AX.t 14)) none 0 false true)]) (AC.seq (AC.cond (AX.t 16) AC.skip (AC.exit 0)) (AC.seq (AC.block 1 (AC.seq (AC.ops [(AOp.mk (some 17) (AK.mv (AX.t 15)) none 0 false true), (AOp.mk (some 6) (AK.mv (AX.t 17)) none 1 false true)]) (AC.seq (AC.ops [(AOp.mk (some 19) (AK.mv (AX.t 0)) none 0 false true), (AOp.mk (some 20) (AK.mv (AX.t 6)) none 1 false true), (AOp.mk (some 21) (AK.ld (some 8) (AX.t 3)) none 2 false true), (AOp.mk (some 22) (AK.call 68 [(AX.t 19), (AX.t 20), (AX.t 21), (AX.c (PV.val (Value.int IntKind.i64 1)))]) none 3 false true), (AOp.mk (some 23) (AK.call 112 [(AX.t 22)]) none 4 false true), (AOp.mk (some 18) (AK.mv (AX.t 23)) none 5 false true), (AOp.mk (some 24) (AK.ext (AX.t 18) 0) none 6 false true), (AOp.mk (some 25) (AK.ext (AX.t 18) 1) none 7 false true), (AOp.mk (some 7) (AK.mv (AX.t 24)) none 8 false true), (AOp.mk (some 8) (AK.mv (AX.t 25)) none 9 false true)]) (AC.seq (AC.ops [(AOp.mk (some 26) (AK.mv (AX.t 8)) none 0 false true)]) (AC.cond (AX.t 26) (AC.ops [(AOp.mk (some 27) (AK.mv (AX.t 5)) none 0 false true), (AOp.mk (some 28) (AK.mv (AX.t 6)) none 1 false true), (AOp.mk (some 29) (AK.bslice false 3 1 1 [(PV.val (Value.int IntKind.i64 0))] [(0, (1, (AX.t 28)))]) none 2 false true), (AOp.mk (some 30) (AK.app false 3 1 8 [(PV.val (Value.int IntKind.i64 0))] (AX.t 27) (AX.t 29)) none 3 false true), (AOp.mk (some 5) (AK.mv (AX.t 30)) none 4 false true)]) AC.skip))))) (AC.ops [(AOp.mk (some 31) (AK.bin false BinOp.add (AX.t 15) (AX.c (PV.val (Value.int IntKind.i64 1)))) none 0 false true), (AOp.mk (some 15) (AK.mv (AX.t 31)) none 1 false true)]))))))) (AC.seq (AC.ops [(AOp.mk (some 32) (AK.mv (AX.t 5)) none 0 false true), (AOp.mk (some 33) (AK.call 66 [(AX.t 32)]) none 1 false true), (AOp.mk (some 4) (AK.mv (AX.t 33)) none 2 false true)]) AC.ret))))
theorem ac76_ok : cCode Try.prog (fun _ => false) Try.f76.ntmps (Try.f76.body.getD .skip) = some ac76 := by kernel_rfl
def ac26 : AC := (AC.seq (AC.ops [(AOp.mk (some 2) (AK.box 2 (AX.t 0)) none 0 false true), (AOp.mk (some 4) (AK.mv (AX.c (PV.sl SK.full 0 []))) none 1 false true), (AOp.mk (some 5) (AK.mv (AX.c (PV.val (Value.int IntKind.i64 0)))) none 2 false true)]) (AC.seq (AC.ops [(AOp.mk (some 9) (AK.ld (some 2) (AX.t 2)) none 0 true false), (AOp.mk (some 10) (AK.ld (some 2) (AX.t 2)) none 1 true false), (AOp.mk (some 11) (AK.mv (AX.t 1)) none 2 true false), (AOp.mk (some 12) (AK.call 75 [(AX.t 10), (AX.t 11)]) none 3 false false), (AOp.mk (some 13) (AK.call 64 [(AX.t 9), (AX.t 12)]) none 4 false true), (AOp.mk (some 8) (AK.mv (AX.t 13)) none 5 true true), (AOp.mk (some 14) (AK.ext (AX.t 8) 0) none 6 true false), (AOp.mk (some 15) (AK.ext (AX.t 8) 1) none 7 true false), (AOp.mk (some 6) (AK.mv (AX.t 14)) none 8 true false), (AOp.mk (some 7) (AK.mv (AX.t 15)) none 9 true true)]) (AC.seq (AC.seq (AC.ops [(AOp.mk (some 16) (AK.mv (AX.t 7)) none 0 false true), (AOp.mk (some 17) (AK.bin false BinOp.neq (AX.t 16) (AX.c (PV.val (Value.int IntKind.i64 0)))) none 1 false true)]) (AC.cond (AX.t 17) (AC.seq (AC.ops [(AOp.mk (some 18) (AK.mv (AX.t 7)) none 0 false true), (AOp.mk (some 4) (AK.mv (AX.c (PV.sl SK.full 0 []))) none 1 false true), (AOp.mk (some 5) (AK.mv (AX.t 18)) none 2 false true)]) AC.ret) AC.skip)) (AC.seq (AC.ops [(AOp.mk (some 19) (AK.mv (AX.t 6)) none 0 false true), (AOp.mk (some 20) (AK.mv (AX.t 1)) none 1 false true), (AOp.mk (some 21) (AK.call 77 [(AX.t 20)]) none 2 false true), (AOp.mk (some 22) (AK.call 76 [(AX.t 19), (AX.t 21)]) none 3 false true), (AOp.mk (some 4) (AK.mv (AX.t 22)) none 4 false true), (AOp.mk (some 5) (AK.mv (AX.c (PV.val (Value.int IntKind.i64 0)))) none 5 false true)]) AC.ret))))
theorem ac26_ok : cCode Try.prog (fun _ => false) Try.f26.ntmps (Try.f26.body.getD .skip) = some ac26 := by kernel_rfl
def arrN (f : Nat → Int) (j : Nat) : List Int := (List.range 8).map fun p => if p < j then f p else 0
theorem arrN_len (f : Nat → Int) (j : Nat) : (arrN f j).length = 8 := by simp [arrN]
theorem arr_put (f : Nat → Int) {j : Nat} (hj : j < 8) : List.take j (((arrN f j).map pi).map AV.p) ++ [.p (pi (f j))] ++ List.drop (j + 1) (((arrN f j).map pi).map AV.p) = ((arrN f (j + 1)).map pi).map AV.p := by
  apply List.ext_getElem?
  intro q
  simp only [List.map_map, arrN]
  rcases Nat.lt_trichotomy q j with hq | rfl | hq
  · rw [List.append_assoc, List.getElem?_append_left (by simp; omega), List.getElem?_take_of_lt hq]
    simp [List.getElem?_range (show q < 8 by omega), hq, show q < j + 1 by omega]
  · rw [List.append_assoc, List.getElem?_append_right (by simp; omega)]
    simp [List.getElem?_range hj, show min q 8 = q by omega]
  · rw [List.getElem?_append_right (by simp; omega), List.getElem?_drop]
    simp only [List.length_append, List.length_take, List.length_map, List.length_range, List.length_cons, List.length_nil, Nat.min_eq_left (show j ≤ 8 by omega)]
    rw [show j + 1 + (q - (j + (0 + 1))) = q by omega]
    by_cases h8 : q < 8
    · simp [List.getElem?_range h8, show ¬ q < j by omega, show ¬ q < j + 1 by omega]
    · simp [List.getElem?_eq_none (show (List.range 8).length ≤ q by simp; omega)]
theorem arr_take (f : Nat → Int) (j : Nat) : List.take 8 (((arrN f j).map pi).map AV.p) = ((arrN f j).map pi).map AV.p := List.take_of_length_le (by simp [arrN_len])
theorem arr_drop (f : Nat → Int) (j : Nat) : List.drop 8 (((arrN f j).map pi).map AV.p) = [] := List.drop_eq_nil_of_le (by simp [arrN_len])
def knownN (r : List Int) : List Int := arrN (fun p => 2 ^ (r.getD p 0).toNat) r.length
theorem known_sem {r : List Int} (h8 : r.length ≤ 8) (hr3 : ∀ x ∈ r, 0 ≤ x ∧ x ≤ 3) : Sem1 77 [pis r] (.agg ((knownN r).map pi)) := by
  unfold knownN
  refine semC_of_exec' mixed Try.func77 (by kernel_rfl) (by kernel_rfl) ac77_ok 1 rfl (by decide) [(.cell 2 85)] (by kernel_rfl) ?_
  intro hr C hC hI
  unfold ac77
  simp only [go_sem, Nat.reduceBEq, List.length_map]
  refine loop_kl r.length (fun _ => True) [2, 5, 6] (fun j => [(7, .p (pi j))]) (fun j => [.cells (((arrN (fun p => 2 ^ (r.getD p 0).toNat) j).map pi).map .p)]) trivial (by simp [Wk, wkT, wkL, look, AV.lo, AV.lo.loL, upS_eq, keepS_nil, keepS_cons, arrN, List.range, List.range.loop]) ?_
  rintro j ⟨hj, -⟩
  simp only [go_sem, Nat.reduceBEq, List.length_map, arrN_len, arr_take, arr_drop]
  refine ⟨fun h5 => ?_, fun h5 => ?_⟩
  · have hj2 : j < r.length := by omega
    have hv : (2 : Int) ^ r[j].toNat = (2 : Int) ^ (r.getD j 0).toNat := by simp [List.getD_eq_getElem?_getD, List.getElem?_eq_getElem hj2]
    have hp := arr_put (fun p => 2 ^ (r.getD p 0).toNat) (show j < 8 by omega)
    rw [← hv] at hp
    have hj8 : j + 1 ≤ 8 := by omega
    simp only [go_sem, Nat.reduceBEq, iadr_pis hj2]
    refine call_pure2 hC (alone_sem (hr3 _ (List.getElem_mem hj2))) rfl (PVleL_refl _) ?_
    rintro r rfl
    simp only [go_sem, Nat.reduceBEq, iadr8 (show j < 8 by omega), List.length_map, arrN_len, hj8, hp, wrap_succ (k := j) (by omega)]
    exact ⟨⟨j + 1, hj2, trivial⟩, by simp only; omega, by simp [Wk, wkT, wkL, look, AV.lo, ABlk.toZ, loL_pc]⟩
  · have hjn : j = r.length := by omega
    subst hjn
    exact retQ_cell (n := some 8) (by kernel_rfl) (by simp only [go_sem, Nat.reduceBEq, List.length_map, arrN_len, arr_take]) rfl
def whoseP (b : DBook) (g : List Int) (h : Nat) : Bool := !(turnsP b meetB h g).isEmpty
def whoseI (b : DBook) (g : List Int) : List Nat := (List.range b.horses.length).filter (whoseP b g)
theorem filt_next (P : Nat → Bool) (j : Nat) : natL ((List.range (j + 1)).filter P) = natL ((List.range j).filter P) ++ if P j then [(j : Int)] else [] := filt_snoc j P
theorem filt_len (P : Nat → Bool) (j : Nat) : (natL ((List.range j).filter P)).length ≤ j := by
  unfold natL
  rw [List.length_map]
  exact Nat.le_trans (List.length_filter_le ..) (by simp)
theorem firstP_eq (b : DBook) (g : List Int) (h : Nat) : ∃ x : Int, firstP (turnsP b meetB h g) = .tup [pi x, pb (whoseP b g h)] := by
  unfold firstP whoseP
  cases turnsP b meetB h g with
  | nil => exact ⟨0, rfl⟩
  | cons z r => exact ⟨z, rfl⟩
theorem whose_sem (k : SK) {b : DBook} (ho : okBook b) {g : List Int} (hg : g.length = 8) : Sem1 76 [bookP k b, .agg (g.map pi)] (pis (natL (whoseI b g))) := by
  obtain ⟨h1, h8, hn⟩ := okR ho
  have h6 := ho.2.1
  have hts := fun h (hh : h < b.horses.length) => turns_it k ho (fL_sem (show 1 < 3 by omega)) (h := h) hh hg
  have htn := fun h => turns_sem k b h hg (show 1 < 3 by omega)
  have hgp : ∃ g0 g1 g2 g3 g4 g5 g6 g7, g = [g0, g1, g2, g3, g4, g5, g6, g7] := by
    match g, hg with
    | [g0, g1, g2, g3, g4, g5, g6, g7], _ => exact ⟨_, _, _, _, _, _, _, _, rfl⟩
  obtain ⟨g0, g1, g2, g3, g4, g5, g6, g7, hge⟩ := hgp
  have hgm : g.map pi = [pi g0, pi g1, pi g2, pi g3, pi g4, pi g5, pi g6, pi g7] := by rw [hge]; rfl
  rw [hgm]
  refine semC_of_exec' mixed Try.func76 (by kernel_rfl) (by kernel_rfl) ac76_ok 2 rfl (by decide) [(.tmp 4)] (by kernel_rfl) ?_
  intro hr C hC hI
  unfold ac76
  simp only [go_sem, Nat.reduceBEq, Nat.reduceAdd, List.length_map]
  refine loop_g (α := Nat × Option Nat) (fun a => a.1 ≤ b.horses.length ∧ (a.2 = none → natL ((List.range a.1).filter (whoseP b g)) = [])) (fun a => b.horses.length - a.1) [0, 3, 14] (fun a => [(5, .p (slN 3 a.2 (natL ((List.range a.1).filter (whoseP b g))))), (15, .p (pi a.1))]) (fun _ => [.cells [.p (pi g0), .p (pi g1), .p (pi g2), .p (pi g3), .p (pi g4), .p (pi g5), .p (pi g6), .p (pi g7)]]) (fun a => a.2.toList) (0, none) ⟨by omega, fun _ => rfl⟩ (by simp [Wk, wkT, wkL, look, AV.lo, AV.lo.loL, upS_eq, keepS_nil, keepS_cons, slN]) ?_
  rintro ⟨j, o⟩ ⟨hj, hok⟩
  replace hj : j ≤ b.horses.length := hj
  replace hok : o = none → natL ((List.range j).filter (whoseP b g)) = [] := hok
  have hnx := filt_next (whoseP b g) j
  have hln := filt_len (whoseP b g) j
  rw [hgm] at hts htn
  simp only [go_sem, Nat.reduceBEq, Nat.reduceAdd]
  refine ⟨fun h5 => ?_, fun h5 => ?_⟩
  · have hj2 : j < b.horses.length := by omega
    refine call_pure2 hC (htn j) rfl (PVleL_refl _) ?_
    rintro r rfl
    simp only [go_sem, Nat.reduceBEq]
    refine call_pure2 hC (first_sem (hts j hj2) (by simp only [noY.noYL, noY, noY_rows, noY_rowsE, Bool.and_true])) rfl (PVleL_refl _) ?_
    rintro r rfl
    simp only [go_sem, Nat.reduceBEq]
    obtain ⟨x, hx⟩ := firstP_eq b g j
    rw [show firstP (turnsP b (pL 1) j g) = _ from hx]
    cases hp : whoseP b g j
    · rw [hp, if_neg (by decide), List.append_nil] at hnx
      simp only [go_sem, Nat.reduceBEq, wrap_succ (k := j) (by omega)]
      refine ⟨⟨(j + 1, o), hj2, fun h => by rw [hnx]; exact hok h⟩, by simp only; omega, ?_⟩
      simp only [hnx]
      cases o <;> exact by simp [Wk, wkT, wkL, look, AV.lo, AV.lo.loL, ABlk.toZ]
    · rw [hp, if_pos rfl] at hnx
      cases o with
      | none =>
        rw [hok rfl] at hnx
        simp only [slN]
        simp only [go_sem, Nat.reduceBEq, Nat.reduceLeDiff, Nat.reduceEqDiff, wrap_succ (k := j) (by omega)]
        intro tk _
        refine ⟨⟨(j + 1, some tk), hj2, (fun h => by cases h)⟩, by simp only; omega, ?_⟩
        simp only [hnx]
        exact by simp [Wk, wkT, wkL, look, AV.lo, AV.lo.loL, ABlk.toZ]
      | some tk =>
        simp only [slN]
        simp only [go_sem, Nat.reduceBEq, Nat.reduceLeDiff, wrap_succ (k := j) (by omega), List.length_map]
        refine ⟨by omega, by simp, fun t2 _ => ?_⟩
        refine ⟨⟨(j + 1, some t2), hj2, (fun h => by cases h)⟩, by simp only; omega, ?_⟩
        simp only [hnx]
        simp only [List.map_append]
        exact by simp [Wk, wkT, wkL, look, AV.lo, AV.lo.loL, ABlk.toZ]
  · have hjn : j = b.horses.length := by omega
    subst hjn
    cases o with
    | none =>
      simp only [slN]
      refine call_pure2 hC (handedOn_sem .full 0 [] (.inr rfl)) rfl (PVleL_refl _) ?_
      rintro r rfl
      simp only [go_sem, Nat.reduceBEq]
      refine retQ_le rfl (PVle.sh _ _ _) ?_
      unfold whoseI
      rw [hok rfl]
      rfl
    | some tk =>
      simp only [slN]
      refine call_pure2 hC (handedOn_sem (.own tk 3 1) 1 (natL ((List.range b.horses.length).filter (whoseP b g))) (.inl rfl)) rfl (PVleL_refl _) ?_
      rintro r rfl
      simp only [go_sem, Nat.reduceBEq]
      exact retQ_le rfl (PVle.sh _ _ _) rfl
theorem Whose_sem (k : SK) (b : DBook) (r : List Int) : Sem1 26 [.agg (bookC k b), pis r] (if errI b (decide (okRow b r)) = 0 then .tup [pis (natL (whoseI b (knownN r))), pi 0] else .tup [pis [], pi (errI b (decide (okRow b r)))]) := by
  obtain ⟨R, hR⟩ : ∃ R, (if errI b (decide (okRow b r)) = 0 then PV.tup [pis (natL (whoseI b (knownN r))), pi 0] else .tup [pis [], pi (errI b (decide (okRow b r)))]) = R := ⟨_, rfl⟩
  rw [hR]
  refine semC_of_exec' mixed Try.func26 (by kernel_rfl) (by kernel_rfl) ac26_ok 2 rfl (by decide) [(.tmp 4), (.tmp 5)] (by kernel_rfl) ?_
  intro hr C hC hI
  unfold ac26
  simp only [go_sem, Nat.reduceBEq, Nat.reduceAdd]
  refine call_pure2 hC (isRow_sem k b r) rfl (PVleL_refl _) ?_
  rintro r rfl
  simp only [go_sem, Nat.reduceBEq]
  refine askP hC k b (decide (okRow b r)) (fun hne => ?_) (fun h0 => ?_)
  · rw [if_neg hne] at hR
    simp only [go_sem, Nat.reduceBEq]
    exact ⟨fun _ => retQ_two_le rfl rfl (PVle.nil _ _ _) (PVle.refl _) hR, fun h => absurd h hne⟩
  rw [if_pos h0] at hR
  obtain ⟨ho, hk⟩ := errI_ok h0
  have hk := of_decide_eq_true hk
  have hl : r.length = nR b := by have := hk.1; have := (okR ho).2.2; omega
  simp only [go_sem, Nat.reduceBEq]
  refine ⟨fun h => h.elim, fun _ => ?_⟩
  refine call_pure2 hC (known_sem (by have := (okR ho).2.1; omega) hk.2) rfl (PVleL_refl _) ?_
  rintro r rfl
  simp only [go_sem, Nat.reduceBEq]
  refine call_pure2 hC (whose_sem k ho (arrN_len _ _)) rfl (PVleL_refl _) ?_
  rintro r rfl
  simp only [go_sem, Nat.reduceBEq]
  exact retQ_two rfl rfl hR
end Go.Proofs.Ythibnlfbdbidjaa
namespace Go.Proofs.Ythibnlfbdbidjaa
open Go.RowKit
def ac147 : AC := (AC.seq (AC.ops [(AOp.mk (some 6) (AK.mv (AX.c (PV.val (Value.bool false)))) none 0 false true)]) (AC.seq (AC.ops [(AOp.mk (some 7) (AK.ld none (AX.t 2)) none 0 false true), (AOp.mk (some 8) (AK.mv (AX.t 0)) none 1 false true), (AOp.mk (some 9) (AK.call 148 [(AX.t 7), (AX.t 8)]) none 2 false true), (AOp.mk (some 10) (AK.un UnOp.not (AX.t 9)) none 3 false true), (AOp.mk (some 11) (AK.mv (AX.t 10)) none 4 false true), (AOp.mk (some 12) (AK.ld none (AX.t 2)) (some (11, true)) 5 false true), (AOp.mk (some 13) (AK.mv (AX.t 1)) (some (11, true)) 6 false true), (AOp.mk (some 14) (AK.call 148 [(AX.t 12), (AX.t 13)]) (some (11, true)) 7 false true), (AOp.mk (some 15) (AK.un UnOp.not (AX.t 14)) (some (11, true)) 8 false true), (AOp.mk (some 16) (AK.pick (AX.t 11) (AX.t 15) (AX.c (PV.val (Value.bool false)))) none 9 false true), (AOp.mk (some 17) (AK.mv (AX.t 16)) none 10 false true), (AOp.mk (some 18) (AK.ld none (AX.t 3)) (some (17, true)) 11 false true), (AOp.mk (some 19) (AK.mv (AX.t 0)) (some (17, true)) 12 false true), (AOp.mk (some 20) (AK.mv (AX.t 1)) (some (17, true)) 13 false true), (AOp.mk (some 21) (AK.call 83 [(AX.t 18), (AX.t 19), (AX.t 20)]) (some (17, true)) 14 false true), (AOp.mk (some 22) (AK.pick (AX.t 17) (AX.t 21) (AX.c (PV.val (Value.bool false)))) none 15 false true), (AOp.mk (some 6) (AK.mv (AX.t 22)) none 16 false true)]) AC.ret))
theorem ac147_ok : cCode Try.prog (fun _ => false) Try.f147.ntmps (Try.f147.body.getD .skip) = some ac147 := by kernel_rfl
def ac121 : AC := (AC.seq (AC.ops [(AOp.mk (some 2) (AK.box 1 (AX.t 0)) none 0 false true), (AOp.mk (some 3) (AK.box 1 (AX.t 1)) none 1 false true), (AOp.mk (some 4) (AK.mv (AX.c (PV.val (Value.bool false)))) none 2 false true)]) (AC.seq (AC.ops [(AOp.mk (some 9) (AK.mkf 147 [] [(AX.t 3), (AX.t 2)]) none 0 false true), (AOp.mk (some 5) (AK.mv (AX.t 9)) none 1 false true)]) (AC.seq (AC.ops [(AOp.mk (some 11) (AK.ld none (AX.t 2)) none 0 false true), (AOp.mk (some 12) (AK.nilc (AX.t 11)) none 1 false true), (AOp.mk (some 13) (AK.fadr 0 (AX.t 12)) none 2 false true), (AOp.mk (some 14) (AK.fadr 1 (AX.t 13)) none 3 false true), (AOp.mk (some 15) (AK.ld none (AX.t 14)) none 4 false true), (AOp.mk (some 16) (AK.len (AX.t 15)) none 5 false true), (AOp.mk (some 17) (AK.mv (AX.t 5)) none 6 false true), (AOp.mk (some 18) (AK.call 82 [(AX.t 16), (AX.t 17)]) none 7 false true), (AOp.mk (some 10) (AK.mv (AX.t 18)) none 8 false true), (AOp.mk (some 19) (AK.ext (AX.t 10) 0) none 9 false true), (AOp.mk (some 20) (AK.ext (AX.t 10) 1) none 10 false true), (AOp.mk (some 21) (AK.ext (AX.t 10) 2) none 11 false true), (AOp.mk (some 6) (AK.mv (AX.t 19)) none 12 false true), (AOp.mk (some 7) (AK.mv (AX.t 20)) none 13 false true), (AOp.mk (some 8) (AK.mv (AX.t 21)) none 14 false true)]) (AC.seq (AC.ops [(AOp.mk (some 22) (AK.mv (AX.t 8)) none 0 false true), (AOp.mk (some 23) (AK.bin false BinOp.eql (AX.t 22) (AX.c (PV.val (Value.int IntKind.i64 4)))) none 1 false true), (AOp.mk (some 4) (AK.mv (AX.t 23)) none 2 false true)]) AC.ret))))
theorem ac121_ok : cCode Try.prog (fun _ => false) Try.f121.ntmps (Try.f121.body.getD .skip) = some ac121 := by kernel_rfl
def ac86 : AC := (AC.seq (AC.ops [(AOp.mk (some 1) (AK.box 1 (AX.t 0)) none 0 false true), (AOp.mk (some 2) (AK.new (PV.sl SK.full 0 [])) none 1 false true)]) (AC.seq (AC.seq (AC.ops [(AOp.mk (some 5) (AK.ld none (AX.t 1)) none 0 false true), (AOp.mk (some 6) (AK.nilc (AX.t 5)) none 1 false true), (AOp.mk (some 7) (AK.fadr 0 (AX.t 6)) none 2 false true), (AOp.mk (some 8) (AK.fadr 1 (AX.t 7)) none 3 false true), (AOp.mk (some 9) (AK.ld none (AX.t 8)) none 4 false true), (AOp.mk (some 10) (AK.len (AX.t 9)) none 5 false true), (AOp.mk (some 11) (AK.bin false BinOp.add (AX.t 10) (AX.c (PV.val (Value.int IntKind.i64 1)))) none 6 false true), (AOp.mk (some 12) (AK.mv (AX.c (PV.val (Value.int IntKind.i64 0)))) none 7 false true)]) (AC.block 0 (AC.loop (AC.seq (AC.ops [(AOp.mk (some 13) (AK.bin false BinOp.lss (AX.t 12) (AX.t 11)) none 0 false true)]) (AC.seq (AC.cond (AX.t 13) AC.skip (AC.exit 0)) (AC.seq (AC.block 1 (AC.seq (AC.ops [(AOp.mk (some 14) (AK.mv (AX.t 12)) none 0 false true), (AOp.mk (some 3) (AK.mv (AX.t 14)) none 1 false true)]) (AC.seq (AC.ops [(AOp.mk (some 15) (AK.ld none (AX.t 1)) none 0 false true), (AOp.mk (some 16) (AK.nilc (AX.t 15)) none 1 false true), (AOp.mk (some 17) (AK.fadr 0 (AX.t 16)) none 2 false true), (AOp.mk (some 18) (AK.fadr 1 (AX.t 17)) none 3 false true), (AOp.mk (some 19) (AK.ld none (AX.t 18)) none 4 false true), (AOp.mk (some 20) (AK.len (AX.t 19)) none 5 false true), (AOp.mk (some 21) (AK.mv (AX.t 3)) none 6 false true), (AOp.mk (some 22) (AK.call 120 [(AX.t 20), (AX.t 21)]) none 7 false true)]) (AC.block 2 (AC.rng (AX.t 22) [23] (AC.ops [(AOp.mk (some 4) (AK.mv (AX.t 23)) none 0 false true)]) (AC.block 3 (AC.seq (AC.ops [(AOp.mk (some 24) (AK.ld none (AX.t 1)) none 0 false true), (AOp.mk (some 25) (AK.mv (AX.t 4)) none 1 false true), (AOp.mk (some 26) (AK.call 121 [(AX.t 24), (AX.t 25)]) none 2 false true)]) (AC.cond (AX.t 26) (AC.seq (AC.ops [(AOp.mk (some 27) (AK.mv (AX.t 4)) none 0 false true), (AOp.mk none (AK.st 1 (AX.t 2) (AX.t 27)) none 1 false true)]) AC.ret) AC.skip)))))))) (AC.ops [(AOp.mk (some 28) (AK.bin false BinOp.add (AX.t 12) (AX.c (PV.val (Value.int IntKind.i64 1)))) none 0 false true), (AOp.mk (some 12) (AK.mv (AX.t 28)) none 1 false true)]))))))) (AC.seq (AC.ops [(AOp.mk none (AK.st 1 (AX.t 2) (AX.c (PV.sl SK.full 0 []))) none 0 false true)]) AC.ret)))
theorem ac86_ok : cCode Try.prog (fun _ => false) Try.f86.ntmps (Try.f86.body.getD .skip) = some ac86 := by kernel_rfl
def ac34 : AC := (AC.seq (AC.ops [(AOp.mk (some 1) (AK.box 2 (AX.t 0)) none 0 false true), (AOp.mk (some 2) (AK.mv (AX.c (PV.sl SK.full 0 []))) none 1 false true), (AOp.mk (some 3) (AK.mv (AX.c (PV.val (Value.int IntKind.i64 0)))) none 2 false true)]) (AC.seq (AC.ops [(AOp.mk (some 7) (AK.ld (some 2) (AX.t 1)) none 0 false true), (AOp.mk (some 8) (AK.call 64 [(AX.t 7), (AX.c (PV.val (Value.bool true)))]) none 1 false true), (AOp.mk (some 6) (AK.mv (AX.t 8)) none 2 false true), (AOp.mk (some 9) (AK.ext (AX.t 6) 0) none 3 false true), (AOp.mk (some 10) (AK.ext (AX.t 6) 1) none 4 false true), (AOp.mk (some 4) (AK.mv (AX.t 9)) none 5 false true), (AOp.mk (some 5) (AK.mv (AX.t 10)) none 6 false true)]) (AC.seq (AC.seq (AC.ops [(AOp.mk (some 11) (AK.mv (AX.t 5)) none 0 false true), (AOp.mk (some 12) (AK.bin false BinOp.neq (AX.t 11) (AX.c (PV.val (Value.int IntKind.i64 0)))) none 1 false true)]) (AC.cond (AX.t 12) (AC.seq (AC.ops [(AOp.mk (some 13) (AK.mv (AX.t 5)) none 0 false true), (AOp.mk (some 2) (AK.mv (AX.c (PV.sl SK.full 0 []))) none 1 false true), (AOp.mk (some 3) (AK.mv (AX.t 13)) none 2 false true)]) AC.ret) AC.skip)) (AC.seq (AC.ops [(AOp.mk (some 14) (AK.mv (AX.t 4)) none 0 false true), (AOp.mk (some 15) (AK.call 86 [(AX.t 14)]) none 1 false true), (AOp.mk (some 2) (AK.mv (AX.t 15)) none 2 false true), (AOp.mk (some 3) (AK.mv (AX.c (PV.val (Value.int IntKind.i64 0)))) none 3 false true)]) AC.ret))))
theorem ac34_ok : cCode Try.prog (fun _ => false) Try.f34.ntmps (Try.f34.body.getD .skip) = some ac34 := by kernel_rfl
def leftP (b : DBook) (out : List Int) (i j : Nat) : Bool := !decide ((i : Int) ∈ out) && !decide ((j : Int) ∈ out) && decide (sameI b i j ≠ 0)
theorem isRidBy1_sem (k : SK) {b : DBook} (ho : okBook b) (out : List Int) {i j : Nat} (hi : i < j) (hj : j < b.horses.length) : Sem1 147 ([] ++ [pi i, pi j] ++ [.ptr [pis out] 0, .ptr [bookP k b] 0]) (pb (leftP b out i j)) := by
  simp only [List.nil_append, List.cons_append]
  obtain ⟨R, hR⟩ : ∃ R, leftP b out i j = R := ⟨_, rfl⟩
  rw [hR]
  unfold leftP at hR
  refine semC_of_exec' mixed Try.func147 (by kernel_rfl) (by kernel_rfl) ac147_ok 4 rfl (by decide) [(.tmp 6)] (by kernel_rfl) ?_
  intro hr C hC hI
  unfold ac147
  simp only [go_sem, Nat.reduceBEq, Nat.reduceAdd]
  refine call_pure2 hC (Contains_sem out i) rfl (PVleL_refl _) ?_
  rintro r rfl
  simp only [go_sem, Nat.reduceBEq]
  refine ⟨fun h1 => ?_, fun h1 => retQ_one rfl (congrArg pb (by rw [← hR]; simp [h1]))⟩
  refine call_pure2 hC (Contains_sem out j) rfl (PVleL_refl _) ?_
  rintro r rfl
  simp only [go_sem, Nat.reduceBEq]
  refine ⟨fun h2 => ?_, fun h2 => retQ_one rfl (congrArg pb (by rw [← hR]; simp [h2]))⟩
  refine call_pure2 hC (canBeSame_sem k ho (by omega) hj) rfl (PVleL_refl _) ?_
  rintro r rfl
  simp only [go_sem, Nat.reduceBEq]
  exact retQ_one rfl (congrArg pb (by rw [← hR]; simp [h1, h2]))
def ridP (b : DBook) (out : List Int) : Bool := ((listsL b.horses.length 2).find? (pairP (leftP b out))).isNone
theorem isRidBy_sem (k : SK) {b : DBook} (ho : okBook b) (out : List Int) : Sem1 121 [bookP k b, pis out] (pb (ridP b out)) := by
  have h6 := ho.2.1
  refine semC_of_exec' mixed Try.func121 (by kernel_rfl) (by kernel_rfl) ac121_ok 2 rfl (by decide) [(.tmp 4)] (by kernel_rfl) ?_
  intro hr C hC hI
  unfold ac121
  simp only [go_sem, Nat.reduceBEq, List.length_map]
  refine call_purA hC (firstPair_sem (by omega) fun i j h1 h2 => isRidBy1_sem k ho out h1 h2) (L' := [.frz [bookP k b], .frz [pis out]]) rfl (PVleL_refl _) ?_
  rintro r rfl
  unfold ridP twoP
  cases (listsL b.horses.length 2).find? (pairP (leftP b out)) with
  | none =>
    simp only [go_sem, Nat.reduceBEq]
    exact retQ_one rfl rfl
  | some l =>
    simp only [go_sem, Nat.reduceBEq]
    exact retQ_one rfl rfl
def dropAt (b : DBook) (m : Nat) : Option (List Int) := (listsL b.horses.length m).find? (ridP b)
def dropO (b : DBook) : Option (List Int) := (List.range (b.horses.length + 1)).findSome? (dropAt b)
def dropI (b : DBook) : List Int := (dropO b).getD []
theorem dropO_some {b : DBook} {m : Nat} {l : List Int} (hm : m < b.horses.length + 1) (h : ∀ x < m, dropAt b x = none) (hl : dropAt b m = some l) : dropI b = l := by
  unfold dropI dropO
  have : (List.range (b.horses.length + 1)).findSome? (dropAt b) = some l := by
    rw [List.findSome?_eq_some_iff]
    refine ⟨List.range m, m, (List.range' (m + 1) (b.horses.length - m)), ?_, hl, fun x hx => h x (List.mem_range.1 hx)⟩
    rw [List.range_eq_range', List.range_eq_range', ← List.range'_succ]
    have := List.range'_append (s := 0) (m := m) (n := b.horses.length - m + 1) (step := 1)
    rw [Nat.one_mul, Nat.zero_add, show m + (b.horses.length - m + 1) = b.horses.length + 1 by omega] at this
    exact this.symm
  rw [this]; rfl
theorem dropO_none {b : DBook} (h : ∀ x < b.horses.length + 1, dropAt b x = none) : dropI b = [] := by
  unfold dropI dropO
  have : (List.range (b.horses.length + 1)).findSome? (dropAt b) = none := List.findSome?_eq_none_iff.2 fun x hx => h x (List.mem_range.1 hx)
  rw [this]; rfl
theorem drop_sem (k : SK) {b : DBook} (ho : okBook b) : Sem1 86 [bookP k b] (pis (dropI b)) := by
  have h6 := ho.2.1
  refine semC_of_exec' mixed Try.func86 (by kernel_rfl) (by kernel_rfl) ac86_ok 1 rfl (by decide) [(.cell 2 26)] (by kernel_rfl) ?_
  intro hr C hC hI
  unfold ac86
  simp only [go_sem, Nat.reduceBEq, List.length_map]
  simp only [go_sem, wrap_succ (k := b.horses.length) (by omega)]
  refine loop_k (b.horses.length + 1) (fun m => ∀ x < m, dropAt b x = none) [1, 2, 11] (fun m => [(12, .p (pi m))]) (fun x h => absurd h (by omega)) rfl ⟨rfl, by simp, by simp⟩ (by simp [wkT, look, AV.lo]) ?_
  rintro m ⟨hm, hok⟩
  simp only [go_sem, Nat.reduceBEq]
  refine ⟨fun h5 => ?_, fun h5 => ?_⟩
  · have hm2 : m < b.horses.length + 1 := by omega
    simp only [go_sem, List.length_map]
    refine call_pure2 hC (lists_sem b.horses.length m) rfl (PVleL_refl _) ?_
    rintro r rfl
    simp only [go_sem]
    refine rng_m (ι := Unit) (listsL b.horses.length m) (fun l => [pis l]) [1, 2, 11, 12] (fun _ _ => [.cells [.p (bookP k b)], .cells [.p (.sl .full 0 [])]]) (fun _ _ => []) (fun _ => some []) (fun i _ => ∀ l ∈ (listsL b.horses.length m).take i, ridP b l = false) () rfl rfl (hI _ _ _ (lists_it (by omega) (by omega))) ?_ (fun _ => rfl) (by simp [Wk, wkT, wkL, look, AV.lo, AV.lo.loL, keepS]) (by simp) ?_ ?_
    · simp only [show noY.noYR ((listsL b.horses.length m).map fun l => [pis l]) = true from noY_encLs _, noY.noYL, noY, Bool.and_true]
    · rintro q - hq hk
      simp only [go_sem, Nat.reduceBEq, Nat.reduceAdd]
      refine call_pure2 hC (isRidBy_sem k ho _) rfl (PVleL_refl _) ?_
      rintro r rfl
      simp only [go_sem, Nat.reduceBEq]
      cases hp : ridP b (listsL b.horses.length m)[q]
      · simp only [go_sem]
        refine ⟨(), take_next hq hk hp, ?_⟩
        exact by simp [Wk, wkT, wkL, look, AV.lo, AV.lo.loL, ABlk.toZ]
      · have hd : dropI b = (listsL b.horses.length m)[q] := dropO_some hm2 hok (find_at hq hk hp)
        rw [hd]
        simp only [go_sem, Nat.reduceBEq, putCells]
        exact retQ_cell (n := none) (by kernel_rfl) rfl rfl
    · rintro - hk
      have hd : dropAt b m = none := find_no hk
      simp only [go_sem, Nat.reduceBEq, wrap_succ (k := m) (by omega)]
      refine ⟨⟨m + 1, hm2, fun x hx => ?_⟩, by simp only; omega, by simp [Wk, wkT, wkL, look, AV.lo, AV.lo.loL, ABlk.toZ]⟩
      by_cases h : x = m
      · rw [h]; exact hd
      · exact hok x (by omega)
  · have hd : dropI b = [] := dropO_none fun x hx => hok x (by omega)
    rw [hd]
    exact retQ_cell_le (n := none) (by kernel_rfl) rfl (PVle.nil .full 0 1) rfl
theorem Drop_sem (k : SK) (b : DBook) : Sem1 34 [.agg (bookC k b)] (if okBook b then .tup [pis (dropI b), pi 0] else .tup [pis [], pi 70]) := by
  refine semC_of_exec' mixed Try.func34 (by kernel_rfl) (by kernel_rfl) ac34_ok 1 rfl (by decide) [(.tmp 2), (.tmp 3)] (by kernel_rfl) ?_
  intro hr C hC hI
  unfold ac34
  simp only [go_sem, Nat.reduceBEq, Nat.reduceAdd]
  refine askP hC k b true (fun hne => ?_) (fun h0 => ?_)
  · have ho : ¬ okBook b := fun ho => errI_ne hne ⟨ho, rfl⟩
    have he : errI b true = 70 := by unfold errI; rw [if_neg ho]
    rw [he, if_neg ho]
    simp only [go_sem, Nat.reduceBEq]
    exact ⟨fun _ => retQ_two_le rfl rfl (PVle.nil _ _ _) (PVle.refl _) rfl, fun h => absurd h (by decide)⟩
  obtain ⟨ho, -⟩ := errI_ok h0
  rw [if_pos ho]
  simp only [go_sem, Nat.reduceBEq]
  refine ⟨fun h => h.elim, fun _ => ?_⟩
  refine call_pure2 hC (drop_sem k ho) rfl (PVleL_refl _) ?_
  rintro r rfl
  simp only [go_sem, Nat.reduceBEq]
  exact retQ_two rfl rfl rfl
end Go.Proofs.Ythibnlfbdbidjaa
namespace Go.Proofs.Ythibnlfbdbidjaa
open Go.RowKit
def ac143 : AC := (AC.seq (AC.ops [(AOp.mk (some 1) (AK.box 1 (AX.t 0)) none 0 false true), (AOp.mk (some 2) (AK.mv (AX.c (PV.val Value.nilFunc))) none 1 false true)]) (AC.seq (AC.ops [(AOp.mk (some 3) (AK.mkf 164 [] [(AX.t 1)]) none 0 false true), (AOp.mk (some 2) (AK.mv (AX.t 3)) none 1 false true)]) AC.ret))
theorem ac143_ok : cCode Try.prog (fun _ => false) Try.f143.ntmps (Try.f143.body.getD .skip) = some ac143 := by kernel_rfl
def ac164 : AC := (AC.seq (AC.ops [(AOp.mk (some 4) (AK.mv (AX.c (PV.val (Value.int IntKind.i64 0)))) none 0 false true)]) (AC.block 0 (AC.loop (AC.seq (AC.ops [(AOp.mk (some 5) (AK.bin false BinOp.lss (AX.t 4) (AX.c (PV.val (Value.int IntKind.i64 4)))) none 0 false true)]) (AC.seq (AC.cond (AX.t 5) AC.skip (AC.exit 0)) (AC.seq (AC.block 1 (AC.seq (AC.ops [(AOp.mk (some 6) (AK.mv (AX.t 4)) none 0 false true), (AOp.mk (some 3) (AK.mv (AX.t 6)) none 1 false true)]) (AC.seq (AC.ops [(AOp.mk (some 7) (AK.ld none (AX.t 1)) none 0 true false), (AOp.mk (some 8) (AK.mv (AX.t 3)) none 1 true false), (AOp.mk (some 9) (AK.call 113 [(AX.t 8)]) none 2 false false), (AOp.mk (some 10) (AK.call 138 [(AX.t 7), (AX.t 9)]) none 3 false true), (AOp.mk (some 11) (AK.mv (AX.t 10)) none 4 true true), (AOp.mk (some 12) (AK.mv (AX.t 0)) (some (11, true)) 5 true false), (AOp.mk (some 13) (AK.mv (AX.t 3)) (some (11, true)) 6 true false), (AOp.mk (some 14) (AK.callv (AX.t 12) [(AX.t 13)]) (some (11, true)) 7 false true), (AOp.mk (some 15) (AK.un UnOp.not (AX.t 14)) (some (11, true)) 8 true true), (AOp.mk (some 16) (AK.pick (AX.t 11) (AX.t 15) (AX.c (PV.val (Value.bool false)))) none 9 true true)]) (AC.cond (AX.t 16) AC.ret AC.skip)))) (AC.ops [(AOp.mk (some 17) (AK.bin false BinOp.add (AX.t 4) (AX.c (PV.val (Value.int IntKind.i64 1)))) none 0 false true), (AOp.mk (some 4) (AK.mv (AX.t 17)) none 1 false true)])))))))
theorem ac164_ok : cCode Try.prog (fun _ => false) Try.f164.ntmps (Try.f164.body.getD .skip) = some ac164 := by kernel_rfl
def ac144 : AC := (AC.seq (AC.ops [(AOp.mk (some 1) (AK.box 2 (AX.t 0)) none 0 false true), (AOp.mk (some 2) (AK.mv (AX.c (PV.val (Value.int IntKind.u64 0)))) none 1 false true)]) (AC.seq (AC.ops [(AOp.mk (some 3) (AK.fadr 0 (AX.t 1)) none 0 false true), (AOp.mk (some 4) (AK.ld none (AX.t 3)) none 1 false true), (AOp.mk (some 5) (AK.bin false BinOp.mul (AX.t 4) (AX.c (PV.val (Value.int IntKind.i64 8)))) none 2 false true), (AOp.mk (some 6) (AK.fadr 1 (AX.t 1)) none 3 false true), (AOp.mk (some 7) (AK.ld none (AX.t 6)) none 4 false true), (AOp.mk (some 8) (AK.bin false BinOp.add (AX.t 5) (AX.t 7)) none 5 false true), (AOp.mk (some 9) (AK.bin false BinOp.shl (AX.c (PV.val (Value.int IntKind.u64 1))) (AX.t 8)) none 6 false true), (AOp.mk (some 2) (AK.mv (AX.t 9)) none 7 false true)]) AC.ret))
theorem ac144_ok : cCode Try.prog (fun _ => false) Try.f144.ntmps (Try.f144.body.getD .skip) = some ac144 := by kernel_rfl
def ac115 : AC := (AC.seq (AC.ops [(AOp.mk (some 1) (AK.box 1 (AX.t 0)) none 0 false true), (AOp.mk (some 2) (AK.new (PV.agg [(PV.val (Value.int IntKind.u64 0)), (PV.val (Value.int IntKind.u64 0)), (PV.val (Value.int IntKind.u64 0)), (PV.val (Value.int IntKind.u64 0)), (PV.val (Value.int IntKind.u64 0)), (PV.val (Value.int IntKind.u64 0)), (PV.val (Value.int IntKind.u64 0)), (PV.val (Value.int IntKind.u64 0)), (PV.val (Value.int IntKind.u64 0)), (PV.val (Value.int IntKind.u64 0)), (PV.val (Value.int IntKind.u64 0)), (PV.val (Value.int IntKind.u64 0)), (PV.val (Value.int IntKind.u64 0)), (PV.val (Value.int IntKind.u64 0)), (PV.val (Value.int IntKind.u64 0)), (PV.val (Value.int IntKind.u64 0)), (PV.val (Value.int IntKind.u64 0)), (PV.val (Value.int IntKind.u64 0)), (PV.val (Value.int IntKind.u64 0)), (PV.val (Value.int IntKind.u64 0)), (PV.val (Value.int IntKind.u64 0)), (PV.val (Value.int IntKind.u64 0)), (PV.val (Value.int IntKind.u64 0)), (PV.val (Value.int IntKind.u64 0)), (PV.val (Value.int IntKind.u64 0)), (PV.val (Value.int IntKind.u64 0)), (PV.val (Value.int IntKind.u64 0)), (PV.val (Value.int IntKind.u64 0)), (PV.val (Value.int IntKind.u64 0)), (PV.val (Value.int IntKind.u64 0)), (PV.val (Value.int IntKind.u64 0)), (PV.val (Value.int IntKind.u64 0))])) none 1 false true)]) (AC.seq (AC.seq (AC.ops [(AOp.mk (some 7) (AK.ld none (AX.t 1)) none 0 false true), (AOp.mk (some 8) (AK.call 135 [(AX.t 7)]) none 1 false true)]) (AC.block 0 (AC.rng (AX.t 8) [9] (AC.ops [(AOp.mk (some 3) (AK.new (PV.agg [(PV.val (Value.int IntKind.i64 0)), (PV.val (Value.int IntKind.i64 0))])) none 0 false true), (AOp.mk none (AK.st 2 (AX.t 3) (AX.t 9)) none 1 false true)]) (AC.block 1 (AC.seq (AC.ops [(AOp.mk (some 10) (AK.ld none (AX.t 1)) none 0 true false), (AOp.mk (some 11) (AK.nilc (AX.t 10)) none 1 true false), (AOp.mk (some 12) (AK.fadr 2 (AX.t 11)) none 2 true false), (AOp.mk (some 13) (AK.ld none (AX.t 12)) none 3 true false), (AOp.mk (some 14) (AK.ld (some 2) (AX.t 3)) none 4 true false), (AOp.mk (some 15) (AK.lkp [CK.i, CK.i] true (PV.agg [(PV.val (Value.int IntKind.i64 0)), (PV.val (Value.int IntKind.i64 0)), (PV.val (Value.int IntKind.i64 0)), (PV.val (Value.int IntKind.i64 0)), (PV.val (Value.int IntKind.i64 0)), (PV.val (Value.int IntKind.i64 0)), (PV.val (Value.int IntKind.i64 0)), (PV.val (Value.int IntKind.i64 0))]) false (AX.t 13) (AX.t 14)) none 5 true false), (AOp.mk (some 16) (AK.mv (AX.c (PV.val (Value.int IntKind.i64 0)))) none 6 true false)]) (AC.block 2 (AC.loop (AC.seq (AC.ops [(AOp.mk (some 17) (AK.bin false BinOp.lss (AX.t 16) (AX.c (PV.val (Value.int IntKind.i64 8)))) none 0 false true)]) (AC.seq (AC.cond (AX.t 17) AC.skip (AC.exit 2)) (AC.seq (AC.block 3 (AC.seq (AC.ops [(AOp.mk (some 18) (AK.mv (AX.t 16)) none 0 false true), (AOp.mk (some 19) (AK.idx 1 8 none (AX.t 15) (AX.t 16)) none 1 false true), (AOp.mk (some 4) (AK.new (PV.val (Value.int IntKind.i64 0))) none 2 false true), (AOp.mk none (AK.st 1 (AX.t 4) (AX.t 18)) none 3 false true), (AOp.mk (some 5) (AK.mv (AX.t 19)) none 4 false true)]) (AC.seq (AC.ops [(AOp.mk (some 20) (AK.mv (AX.t 5)) none 0 false true), (AOp.mk (some 21) (AK.call 143 [(AX.t 20)]) none 1 false true)]) (AC.block 4 (AC.rng (AX.t 21) [22] (AC.ops [(AOp.mk (some 6) (AK.mv (AX.t 22)) none 0 false true)]) (AC.block 5 (AC.ops [(AOp.mk (some 23) (AK.ld none (AX.t 4)) none 0 true false), (AOp.mk (some 24) (AK.mv (AX.t 6)) none 1 true false), (AOp.mk (some 25) (AK.iadrA 4 8 (AX.t 2) (AX.t 23)) none 2 true false), (AOp.mk (some 26) (AK.iadrA 1 4 (AX.t 25) (AX.t 24)) none 3 true false), (AOp.mk (some 27) (AK.ld none (AX.t 26)) none 4 true false), (AOp.mk (some 28) (AK.ld (some 2) (AX.t 3)) none 5 true false), (AOp.mk (some 31) (AK.iadrA 4 8 (AX.t 2) (AX.t 23)) none 8 true false), (AOp.mk (some 29) (AK.call 144 [(AX.t 28)]) none 6 false false), (AOp.mk (some 30) (AK.bin false BinOp.or (AX.t 27) (AX.t 29)) none 7 true false), (AOp.mk (some 32) (AK.iadrA 1 4 (AX.t 31) (AX.t 24)) none 9 true true), (AOp.mk none (AK.st 1 (AX.t 32) (AX.t 30)) none 10 false true)]))))))) (AC.ops [(AOp.mk (some 33) (AK.bin false BinOp.add (AX.t 16) (AX.c (PV.val (Value.int IntKind.i64 1)))) none 0 false true), (AOp.mk (some 16) (AK.mv (AX.t 33)) none 1 false true)]))))))))))) (AC.seq (AC.ops [(AOp.mk (some 34) (AK.ld (some 32) (AX.t 2)) none 0 false true), (AOp.mk none (AK.st 32 (AX.t 2) (AX.t 34)) none 1 false true)]) AC.ret)))
theorem ac115_ok : cCode Try.prog (fun _ => false) Try.f115.ntmps (Try.f115.body.getD .skip) = some ac115 := by kernel_rfl
def hasS (x : Int) (s : Nat) : Bool := meetB x (2 ^ s)
def sizesL (x : Int) : List Nat := (List.range 4).filter (hasS x)
theorem sizes_sem (x : Int) : Sem1 143 [pi x] (.clo 164 [] [.ptr [pi x] 0]) := by
  refine semC_of_exec' mixed Try.func143 (by kernel_rfl) (by kernel_rfl) ac143_ok 1 rfl (by decide) [(.tmp 2)] (by kernel_rfl) ?_
  intro hr C hC hI
  unfold ac143
  simp only [go_sem, Nat.reduceBEq]
  exact retQ_pur rfl rfl (PVle.refl _) rfl
def sizesF (x : Int) (t : Nat) : List (List PV) := (((List.range 4).drop t).filter (hasS x)).map encT
theorem sizes_it (x : Int) : IterC Try.prog Fence.wide 164 [.yld, .ptr [pi x] 0] ((sizesL x).map encT) := by
  refine iterC_of_exec' mixed Try.func164 (by kernel_rfl) (by kernel_rfl) ac164_ok 2 rfl (by decide) (by kernel_rfl) ?_
  intro C hC hI
  unfold ac164
  simp only [go_sem]
  refine loop_ky 4 (fun _ => True) [0, 1] (fun t => [(4, .p (pi t))]) (fun _ => []) (fun t => some (sizesF x t)) trivial (by simp [Wk, wkT, wkL, look, AV.lo, keepS, sizesL, sizesF]) ?_
  rintro t ⟨ht, -⟩
  simp only [go_sem, Nat.reduceBEq]
  refine ⟨fun h5 => ?_, fun h5 => ?_⟩
  · have ht2 : t < 4 := by omega
    have hd : sizesF x t = (if hasS x t then [[pi t]] else []) ++ sizesF x (t + 1) := drop_filt (P := hasS x) ht2
    have hm : meetB x (2 ^ (t : Int).toNat) = hasS x t := rfl
    refine call_pure2 hC (alone_sem (show 0 ≤ (t : Int) ∧ (t : Int) ≤ 3 by omega)) rfl (PVleL_refl _) ?_
    rintro r rfl
    simp only [go_sem, Nat.reduceBEq]
    refine call_pure2 hC (canBe_sem x _) rfl (PVleL_refl _) ?_
    rintro r rfl
    simp only [go_sem, Nat.reduceBEq]
    rw [hm]
    cases hp : hasS x t
    · rw [hp, if_neg (by decide), List.nil_append] at hd
      simp only [go_sem, Nat.reduceBEq, wrap_succ (k := t) (by omega)]
      refine ⟨⟨t + 1, ht2, trivial⟩, by simp only; omega, ?_⟩
      rw [hd]
      exact by simp [Wk, wkT, wkL, look, AV.lo]
    · rw [hp, if_pos rfl, List.singleton_append] at hd
      rw [hd]
      simp only [go_sem, Nat.reduceBEq, wrap_succ (k := t) (by omega)]
      refine ⟨PVleL_refl _, ⟨⟨t + 1, ht2, trivial⟩, by simp only; omega, ?_⟩, .inr rfl⟩
      exact by simp [Wk, wkT, wkL, look, AV.lo]
  · have htn : t = 4 := by omega
    subst htn
    rw [show sizesF x 4 = [] from rfl]
    exact .inl rfl
abbrev pu (n : Nat) : PV := .val (.int .u64 n)
theorem wrap_u {n : Nat} (h : n < 2 ^ 64) : IntKind.u64.wrap (n : Int) = n := by
  have h1 : (n : Int) % 2 ^ 64 = n := Int.emod_eq_of_lt (by omega) (by omega)
  show (if (false && decide ((n : Int) % (2 : Int) ^ 64 ≥ (2 : Int) ^ 63)) = true then (n : Int) % (2 : Int) ^ 64 - (2 : Int) ^ 64 else (n : Int) % (2 : Int) ^ 64) = (n : Int)
  simp only [Bool.false_and, Bool.false_eq_true, if_false, h1]
theorem bits_u {n : Nat} : BitVec.ofInt 64 (n : Int) = BitVec.ofNat 64 n := by simp
theorem or_u {m n : Nat} (hm : m < 2 ^ 64) (hn : n < 2 ^ 64) : binS false .or (.p (pu m)) (.p (pu n)) = some (.p (pu (m ||| n))) := by
  rw [bin_or]
  show some (AV.p (.val (.int .u64 (IntKind.u64.wrap ((BitVec.ofInt 64 (m : Int) ||| BitVec.ofInt 64 (n : Int)).toNat : Int))))) = _
  have e : (BitVec.ofInt 64 (m : Int) ||| BitVec.ofInt 64 (n : Int)).toNat = m ||| n := by
    rw [bits_u, bits_u, BitVec.toNat_or, BitVec.toNat_ofNat, BitVec.toNat_ofNat, Nat.mod_eq_of_lt hm, Nat.mod_eq_of_lt hn]
  rw [e, wrap_u (Nat.or_lt_two_pow hm hn)]
theorem and_u {m n : Nat} (hm : m < 2 ^ 64) (hn : n < 2 ^ 64) : binS false .and (.p (pu m)) (.p (pu n)) = some (.p (pu (m &&& n))) := by
  rw [bin_and]
  show some (AV.p (.val (.int .u64 (IntKind.u64.wrap ((BitVec.ofInt 64 (m : Int) &&& BitVec.ofInt 64 (n : Int)).toNat : Int))))) = _
  have e : (BitVec.ofInt 64 (m : Int) &&& BitVec.ofInt 64 (n : Int)).toNat = m &&& n := by
    rw [bits_u, bits_u, BitVec.toNat_and, BitVec.toNat_ofNat, BitVec.toNat_ofNat, Nat.mod_eq_of_lt hm, Nat.mod_eq_of_lt hn]
  rw [e, wrap_u (Nat.and_lt_two_pow m hn)]
def ownK (v : Nat × Nat) : Nat := v.1 * 8 + v.2
theorem owner_sem {h t : Nat} (hh : h < 6) (ht : t < 8) : Sem1 144 [.agg [pi h, pi t]] (pu (2 ^ ownK (h, t))) := by
  have hk : h * 8 + t < 64 := by omega
  have e1 : (h : Int) * 8 = ((h * 8 : Nat) : Int) := by omega
  have e2 : ((h * 8 : Nat) : Int) + t = ((h * 8 + t : Nat) : Int) := by omega
  have hp : 2 ^ (h * 8 + t) < 2 ^ 64 := Nat.pow_lt_pow_right (by omega) hk
  have e3 : IntKind.u64.wrap (1 * 2 ^ min ((h * 8 + t : Nat) : Int).toNat 64) = ((2 ^ (h * 8 + t) : Nat) : Int) := by
    rw [Int.toNat_natCast, Nat.min_eq_left (by omega), Int.one_mul, show (2 : Int) ^ (h * 8 + t) = ((2 ^ (h * 8 + t) : Nat) : Int) by simp, wrap_u hp]
  refine semC_of_exec' mixed Try.func144 (by kernel_rfl) (by kernel_rfl) ac144_ok 1 rfl (by decide) [(.tmp 2)] (by kernel_rfl) ?_
  intro hr C hC hI
  unfold ac144
  simp only [go_sem, Nat.reduceBEq, Nat.reduceAdd, wrap_id (n := (h : Int) * 8) (by omega) (by omega), wrap_id (n := (h : Int) * 8 + t) (by omega) (by omega), bin_shl (show ¬ (h : Int) * 8 + t < 0 by omega)]
  refine retQ_one rfl ?_
  rw [e1, e2, e3]
  rfl
def addO (b : DBook) (p s m : Nat) (v : Nat × Nat) : Nat := if hasS ((rowL b v.1 v.2).getD p 0) s then m ||| 2 ^ ownK v else m
def ownF (b : DBook) (i p s : Nat) : Nat := ((viewsL b).take i).foldl (addO b p s) 0
def arrO (f : Nat → Nat → Nat) : List PV := (List.range 32).map fun q => pu (f (q / 4) (q % 4))
theorem arrO_len (f : Nat → Nat → Nat) : (arrO f).length = 32 := by simp [arrO]
theorem arrO_put (f g : Nat → Nat → Nat) {p s : Nat} (hp : p < 8) (hs : s < 4) (h : ∀ p' s', (p', s') ≠ (p, s) → p' < 8 → s' < 4 → f p' s' = g p' s') : List.take (p * 4 + s) ((arrO f).map AV.p) ++ [.p (pu (g p s))] ++ List.drop (p * 4 + s + 1) ((arrO f).map AV.p) = (arrO g).map AV.p := by
  apply List.ext_getElem?
  intro q
  simp only [List.map_map, arrO]
  have hq32 : p * 4 + s < 32 := by omega
  rcases Nat.lt_trichotomy q (p * 4 + s) with hq | rfl | hq
  · rw [List.append_assoc, List.getElem?_append_left (by simp; omega), List.getElem?_take_of_lt hq]
    have e := h (q / 4) (q % 4) (fun e => by simp only [Prod.mk.injEq] at e; omega) (by omega) (by omega)
    simp [List.getElem?_range (show q < 32 by omega), e]
  · rw [List.append_assoc, List.getElem?_append_right (by simp; omega)]
    simp [List.getElem?_range hq32, show min (p * 4 + s) 32 = p * 4 + s by omega, show (p * 4 + s) / 4 = p by omega, show (p * 4 + s) % 4 = s by omega]
  · rw [List.getElem?_append_right (by simp; omega), List.getElem?_drop]
    simp only [List.length_append, List.length_take, List.length_map, List.length_range, List.length_cons, List.length_nil, Nat.min_eq_left (show p * 4 + s ≤ 32 by omega)]
    rw [show p * 4 + s + 1 + (q - (p * 4 + s + (0 + 1))) = q by omega]
    by_cases h8 : q < 32
    · have e := h (q / 4) (q % 4) (fun e => by simp only [Prod.mk.injEq] at e; omega) (by omega) (by omega)
      simp [List.getElem?_range h8, e]
    · simp [List.getElem?_eq_none (show (List.range 32).length ≤ q by simp; omega)]
theorem arrO_get (f : Nat → Nat → Nat) {p s : Nat} (hp : p < 8) (hs : s < 4) : ((arrO f).map AV.p)[p * 4 + s]? = some (.p (pu (f p s))) := by
  simp [arrO, List.getElem?_range (show p * 4 + s < 32 by omega), show (p * 4 + s) / 4 = p by omega, show (p * 4 + s) % 4 = s by omega]
theorem arrO_getp (f : Nat → Nat → Nat) {p s : Nat} (hp : p < 8) (hs : s < 4) : (arrO f)[p * 4 + s]? = some (pu (f p s)) := by
  simp [arrO, List.getElem?_range (show p * 4 + s < 32 by omega), show (p * 4 + s) / 4 = p by omega, show (p * 4 + s) % 4 = s by omega]
theorem addO_lt {b : DBook} {p s m : Nat} {v : Nat × Nat} (hm : m < 2 ^ 64) (hv : ownK v < 64) : addO b p s m v < 2 ^ 64 := by
  unfold addO
  split
  · exact Nat.or_lt_two_pow hm (Nat.pow_lt_pow_right (by omega) hv)
  · exact hm
theorem ownK_lt {b : DBook} (ho : okBook b) {v : Nat × Nat} (h : v ∈ viewsL b) : ownK v < 64 := by
  obtain ⟨i, hi, rfl⟩ := List.mem_iff_getElem.1 h
  obtain ⟨hh, t, e, h1, h2⟩ := views_get hi
  have := ho.2.1
  have := (okR ho).2.1
  rw [e]
  unfold ownK
  simp only
  omega
theorem ownF_lt {b : DBook} (ho : okBook b) (i p s : Nat) : ownF b i p s < 2 ^ 64 := by
  unfold ownF
  have : ∀ (l : List (Nat × Nat)) (m : Nat), m < 2 ^ 64 → (∀ v ∈ l, v ∈ viewsL b) → l.foldl (addO b p s) m < 2 ^ 64 := by
    intro l
    induction l with
    | nil => exact fun m hm _ => hm
    | cons v l ih => exact fun m hm hl => ih _ (addO_lt hm (ownK_lt ho (hl v (by simp)))) fun v hv => hl v (by simp [hv])
  exact this _ 0 (by omega) fun v hv => List.mem_of_mem_take hv
theorem ownF_next {b : DBook} {i : Nat} (hi : i < (viewsL b).length) (p s : Nat) : ownF b (i + 1) p s = addO b p s (ownF b i p s) (viewsL b)[i] := by
  unfold ownF
  rw [List.take_succ_eq_append_getElem hi, List.foldl_append]
  rfl
end Go.Proofs.Ythibnlfbdbidjaa
namespace Go.Proofs.Ythibnlfbdbidjaa
open Go.RowKit
def ownR (b : DBook) (i j : Nat) (p s : Nat) : Nat := if p < j then ownF b (i + 1) p s else ownF b i p s
def ownS (b : DBook) (i j : Nat) (zs : List Nat) (p s : Nat) : Nat := if p < j ∨ (p = j ∧ s ∈ zs) then ownF b (i + 1) p s else ownF b i p s
theorem arrO_ext {f g : Nat → Nat → Nat} (h : ∀ p s, p < 8 → s < 4 → f p s = g p s) : arrO f = arrO g := by
  unfold arrO
  refine List.map_congr_left fun q hq => ?_
  have := List.mem_range.1 hq
  rw [h (q / 4) (q % 4) (by omega) (by omega)]
theorem arrO_take (f : Nat → Nat → Nat) : List.take 32 ((arrO f).map AV.p) = (arrO f).map AV.p := List.take_of_length_le (by simp [arrO_len])
theorem arrO_drop (f : Nat → Nat → Nat) : List.drop 32 ((arrO f).map AV.p) = [] := List.drop_eq_nil_of_le (by simp [arrO_len])
theorem idx8 {cs : List PV} {j : Nat} {x : PV} (h : j < 8) (e : cs[j]? = some x) : idxS 1 8 none (.p (.agg cs)) (.p (pi j)) = some (.p x) := by
  have h' : (j : Int) < 8 := by omega
  simp [idxS, partP, e, h']
theorem iadr4 {id j : Nat} (h : j < 8) : iadrAS 4 8 (.loc id 0) (.p (pi j)) = some (.loc id (j * 4)) := by
  rw [iadrA_loc' h]; simp
theorem iadr1 {id o j : Nat} (h : j < 4) : iadrAS 1 4 (.loc id o) (.p (pi j)) = some (.loc id (o + j)) := by
  rw [iadrA_loc' h]; simp
theorem loL_arrO (n : Nat) (f : Nat → Nat → Nat) : AV.lo.loL n ((arrO f).map AV.p) = true := by
  simp only [arrO, List.map_map]
  exact loL_pc _
theorem mem_sizes {x : Int} {s : Nat} : s ∈ sizesL x ↔ s < 4 ∧ hasS x s = true := by
  unfold sizesL
  rw [List.mem_filter, List.mem_range]
theorem ownS_nil (b : DBook) (i j : Nat) : ownS b i j [] = ownR b i j := by
  funext p s; simp [ownS, ownR]
theorem ownS_all {b : DBook} {i : Nat} (hi : i < (viewsL b).length) (j : Nat) : arrO (ownS b i j (sizesL ((rowL b (viewsL b)[i].1 (viewsL b)[i].2).getD j 0))) = arrO (ownR b i (j + 1)) := by
  refine arrO_ext fun p s hp hs => ?_
  unfold ownS ownR
  by_cases h1 : p < j
  · rw [if_pos (.inl h1), if_pos (by omega)]
  · by_cases h2 : p = j
    · subst h2
      rw [if_pos (show p < p + 1 by omega)]
      split
      · rfl
      · rename_i h
        rw [ownF_next hi]
        unfold addO
        rw [if_neg]
        intro hh
        exact h (.inr ⟨rfl, mem_sizes.2 ⟨hs, hh⟩⟩)
    · rw [if_neg (fun h => h2 (h.elim (fun h => absurd h h1) fun h => h.1)), if_neg (by omega)]
theorem owning_sem (k : SK) {b : DBook} (ho : okBook b) : Sem1 115 [bookP k b] (.agg (arrO (ownF b (viewsL b).length))) := by
  obtain ⟨h1, h8, hn⟩ := okR ho
  have h6 := ho.2.1
  refine semC_of_exec' mixed Try.func115 (by kernel_rfl) (by kernel_rfl) ac115_ok 1 rfl (by decide) [(.cell 2 133)] (by kernel_rfl) ?_
  intro hr C hC hI
  unfold ac115
  simp only [go_sem, Nat.reduceBEq]
  refine call_pure2 hC (views_sem k b _) rfl (PVleL_refl _) ?_
  rintro r rfl
  simp only [go_sem]
  refine rng_m (ι := Unit) (viewsL b) encV [1, 2] (fun i _ => [.cells [.p (bookP k b)], .cells ((arrO (ownF b i)).map .p)]) (fun _ _ => []) (fun _ => some []) (fun _ _ => True) () rfl rfl (hI _ _ _ (views_it k ho _)) ?_ (fun _ => rfl) (by simp [Wk, wkT, wkL, look, AV.lo, AV.lo.loL, keepS, ownF, arrO, pu, List.range, List.range.loop]) trivial ?_ ?_
  · simp only [noY_views, noY.noYL, noY, noY_rows, noY_rowsE, Bool.and_true]
  · rintro i - hi -
    obtain ⟨h, t, hv, hh, ht⟩ := views_get hi
    have hall := fun j => ownS_all hi j
    have hnext := fun p s => ownF_next hi p s
    rw [hv] at hall hnext ⊢
    have hrl : (rowL b h t).length = 8 := rowN_len ..
    simp only [go_sem, Nat.reduceBEq, Nat.reduceAdd, encV, putCells, look_row hh ht, Option.map_some]
    refine loop_kl 8 (fun _ => True) [1, 2, 3, 15] (fun j => [(16, .p (pi j))]) (fun j => [.cells [.p (bookP k b)], .cells ((arrO (ownR b i j)).map .p), .cells [.p (pi h), .p (pi t)]]) trivial (by simp [Wk, wkT, wkL, look, AV.lo, AV.lo.loL, upS_eq, keepS_nil, keepS_cons, ownR, arrO, loL_pc]) ?_
    rintro j ⟨hj, -⟩
    simp only [go_sem, Nat.reduceBEq]
    refine ⟨fun h5 => ?_, fun h5 => ?_⟩
    · have hj2 : j < 8 := by omega
      have hrj : ((rowL b h t).map pi)[j]? = some (pi ((rowL b h t).getD j 0)) := cell_ints (by omega)
      obtain ⟨x, hx⟩ : ∃ x, (rowL b h t).getD j 0 = x := ⟨_, rfl⟩
      have hallj := hall j
      simp only at hallj
      rw [hx] at hrj hallj
      simp only [go_sem, Nat.reduceBEq, Nat.reduceAdd, idx8 hj2 hrj, putCells]
      refine call_pure2 hC (sizes_sem x) rfl (PVleL_refl _) ?_
      rintro r rfl
      simp only [go_sem]
      refine rng_m (ι := Unit) (sizesL x) encT [1, 2, 3, 4, 15, 16] (fun q _ => [.cells [.p (bookP k b)], .cells ((arrO (ownS b i j ((sizesL x).take q))).map .p), .cells [.p (pi h), .p (pi t)], .cells [.p (pi j)]]) (fun _ _ => []) (fun _ => some []) (fun _ _ => True) () rfl rfl (hI _ _ _ (sizes_it x)) ?_ (fun _ => rfl) (by simp [Wk, wkT, wkL, look, AV.lo, AV.lo.loL, keepS, ownS_nil, arrO, loL_pc]) trivial ?_ ?_
      · simp only [noY_turns, noY.noYL, noY, Bool.and_true]
      · rintro q - hq -
        obtain ⟨hs4, hsx⟩ := mem_sizes.1 (List.getElem_mem hq)
        obtain ⟨s, hs⟩ : ∃ s, (sizesL x)[q] = s := ⟨_, rfl⟩
        rw [hs] at hs4 hsx ⊢
        have hnot : s ∉ (sizesL x).take q := by
          intro hm
          obtain ⟨q', hq', e⟩ := List.mem_iff_getElem.1 hm
          rw [List.length_take] at hq'
          rw [List.getElem_take] at e
          have hnd : (sizesL x).Nodup := (List.Pairwise.filter _ List.nodup_range)
          have := (List.getElem_inj (h₀ := by omega) (h₁ := hq) hnd).1 (e.trans hs.symm)
          omega
        have hold : ownS b i j ((sizesL x).take q) j s = ownF b i j s := by
          unfold ownS
          rw [if_neg (fun h => h.elim (fun h => absurd h (by omega)) fun h => hnot h.2)]
        have hnew : ownS b i j ((sizesL x).take (q + 1)) j s = ownF b i j s ||| 2 ^ ownK (h, t) := by
          unfold ownS
          rw [if_pos (.inr ⟨rfl, by rw [List.take_succ_eq_append_getElem hq, hs]; simp⟩), hnext]
          unfold addO
          rw [hx, if_pos hsx]
        have hput := arrO_put (ownS b i j ((sizesL x).take q)) (ownS b i j ((sizesL x).take (q + 1))) hj2 hs4 (fun p' s' hne h1 h2 => by
          unfold ownS
          rw [List.take_succ_eq_append_getElem hq, hs]
          have : (p' = j ∧ s' ∈ (sizesL x).take q ++ [s]) ↔ (p' = j ∧ s' ∈ (sizesL x).take q) := by
            rw [List.mem_append, List.mem_singleton]
            refine ⟨fun ⟨e1, e2⟩ => ⟨e1, e2.elim id fun e => absurd (by rw [e1, e]) hne⟩, fun ⟨e1, e2⟩ => ⟨e1, .inl e2⟩⟩
          simp only [this])
        rw [hnew] at hput
        have hget := arrO_get (ownS b i j ((sizesL x).take q)) hj2 hs4
        rw [hold] at hget
        have hle : j * 4 + s + 1 ≤ 32 := by omega
        simp only [go_sem, Nat.reduceBEq, Nat.reduceAdd, encT, iadr4 hj2, iadr1 hs4, hget]
        refine call_pure2 hC (owner_sem (show h < 6 by omega) (show t < 8 by omega)) rfl (PVleL_refl _) ?_
        rintro r rfl
        simp only [go_sem, Nat.reduceBEq]
        simp only [go_sem, Nat.reduceBEq, or_u (ownF_lt ho i j s) (Nat.pow_lt_pow_right (show 1 < 2 by omega) (show ownK (h, t) < 64 by unfold ownK; omega)), iadr1 hs4, putCells, List.length_map, arrO_len, hle, hput]
        exact ⟨(), by simp [Wk, wkT, wkL, look, AV.lo, AV.lo.loL, loL_arrO]⟩
      · rintro - -
        rw [List.take_length, hallj]
        simp only [go_sem, Nat.reduceBEq, wrap_succ (k := j) (by omega)]
        exact ⟨⟨j + 1, by omega, trivial⟩, by simp only; omega, by simp [Wk, wkT, wkL, look, AV.lo, AV.lo.loL, loL_arrO]⟩
    · have hj8 : j = 8 := by omega
      subst hj8
      refine ⟨(), ?_⟩
      rw [arrO_ext (f := ownR b i 8) (g := ownF b (i + 1)) fun p s hp hs => by unfold ownR; rw [if_pos hp]]
      simp [Wk, wkT, wkL, look, AV.lo, AV.lo.loL, loL_arrO]
  · rintro - -
    simp only [go_sem, Nat.reduceBEq, List.length_map, arrO_len, arrO_take, arrO_drop]
    exact retQ_cell (n := some 32) (by kernel_rfl) (by simp only [go_sem, Nat.reduceBEq, List.length_map, arrO_len, arrO_take]) rfl
end Go.Proofs.Ythibnlfbdbidjaa
