/- Contracts of stand: its truths. Contracts of stand: its truths, yielded. -/
import Derived.Test.YtaejmbmkkdkliaaGa15
namespace Go.Proofs.Ytaejmbmkkdkliaa
open Go.RowKit
def ac128 : AC := (AC.seq (AC.ops [(AOp.mk (some 6) (AK.box 4 (AX.t 0)) none 0 false true), (AOp.mk (some 8) (AK.mv (AX.c (PV.val (Value.bool false)))) none 1 false true)]) (AC.seq (AC.ops [(AOp.mk (some 12) (AK.ld none (AX.t 2)) none 0 false true), (AOp.mk (some 13) (AK.nilc (AX.t 12)) none 1 false true), (AOp.mk (some 14) (AK.fadr 0 (AX.t 13)) none 2 false true), (AOp.mk (some 15) (AK.fadr 4 (AX.t 14)) none 3 false true), (AOp.mk (some 16) (AK.ld none (AX.t 15)) none 4 false true), (AOp.mk (some 17) (AK.mv (AX.t 1)) none 5 false true), (AOp.mk (some 18) (AK.iadrS 4 (AX.t 16) (AX.t 17)) none 6 false true), (AOp.mk (some 19) (AK.fadr 0 (AX.t 18)) none 7 false true), (AOp.mk (some 20) (AK.ld (some 2) (AX.t 19)) none 8 false true), (AOp.mk (some 9) (AK.new (PV.agg [(PV.val (Value.int IntKind.i64 0)), (PV.val (Value.int IntKind.i64 0))])) none 9 false true), (AOp.mk none (AK.st 2 (AX.t 9) (AX.t 20)) none 10 false true)]) (AC.seq AC.skip (AC.seq (AC.seq (AC.ops [(AOp.mk (some 21) (AK.mv (AX.t 1)) none 0 false true), (AOp.mk (some 22) (AK.fadr 0 (AX.t 9)) none 1 false true), (AOp.mk (some 23) (AK.ld none (AX.t 22)) none 2 false true), (AOp.mk (some 24) (AK.iadrA 1 4 (AX.t 6) (AX.t 21)) none 3 false true), (AOp.mk none (AK.st 1 (AX.t 24) (AX.t 23)) none 4 false true)]) (AC.block 0 (AC.loop (AC.seq (AC.seq (AC.ops [(AOp.mk (some 25) (AK.mv (AX.t 1)) none 0 true false), (AOp.mk (some 26) (AK.iadrA 1 4 (AX.t 6) (AX.t 25)) none 1 true false), (AOp.mk (some 27) (AK.ld none (AX.t 26)) none 2 true false), (AOp.mk (some 28) (AK.fadr 1 (AX.t 9)) none 3 true false), (AOp.mk (some 29) (AK.ld none (AX.t 28)) none 4 true false), (AOp.mk (some 30) (AK.bin false BinOp.leq (AX.t 27) (AX.t 29)) none 5 true false)]) (AC.cond (AX.t 30) AC.skip (AC.exit 0))) (AC.seq (AC.block 1 (AC.seq (AC.seq (AC.ops [(AOp.mk (some 36) (AK.mv (AX.t 1)) none 0 false true), (AOp.mk (some 37) (AK.bin false BinOp.add (AX.t 36) (AX.c (PV.val (Value.int IntKind.i64 1)))) none 1 false true), (AOp.mk (some 38) (AK.ld none (AX.t 2)) none 2 false true), (AOp.mk (some 39) (AK.nilc (AX.t 38)) none 3 false true), (AOp.mk (some 40) (AK.fadr 0 (AX.t 39)) none 4 false true), (AOp.mk (some 41) (AK.fadr 4 (AX.t 40)) none 5 false true), (AOp.mk (some 42) (AK.ld none (AX.t 41)) none 6 false true), (AOp.mk (some 43) (AK.len (AX.t 42)) none 7 false true), (AOp.mk (some 44) (AK.bin false BinOp.lss (AX.t 37) (AX.t 43)) none 8 false true)]) (AC.cond (AX.t 44) (AC.seq (AC.seq (AC.ops [(AOp.mk (some 45) (AK.ld none (AX.t 3)) none 0 false true), (AOp.mk (some 46) (AK.ld (some 4) (AX.t 6)) none 1 false true), (AOp.mk (some 47) (AK.mv (AX.t 1)) none 2 false true), (AOp.mk (some 48) (AK.bin false BinOp.add (AX.t 47) (AX.c (PV.val (Value.int IntKind.i64 1)))) none 3 false true), (AOp.mk (some 49) (AK.callv (AX.t 45) [(AX.t 46), (AX.t 48)]) none 4 false true), (AOp.mk (some 50) (AK.un UnOp.not (AX.t 49)) none 5 false true)]) (AC.cond (AX.t 50) (AC.seq (AC.ops [(AOp.mk (some 8) (AK.mv (AX.c (PV.val (Value.bool false)))) none 0 false true)]) AC.ret) AC.skip)) (AC.exit 1)) AC.skip)) (AC.seq (AC.seq (AC.ops [(AOp.mk (some 51) (AK.ld none (AX.t 2)) none 0 false true), (AOp.mk (some 52) (AK.nilc (AX.t 51)) none 1 false true), (AOp.mk (some 53) (AK.fadr 0 (AX.t 52)) none 2 false true), (AOp.mk (some 54) (AK.fadr 9 (AX.t 53)) none 3 false true), (AOp.mk (some 55) (AK.ld none (AX.t 54)) none 4 false true), (AOp.mk (some 56) (AK.len (AX.t 55)) none 5 false true), (AOp.mk (some 57) (AK.mv (AX.c (PV.val (Value.int IntKind.i64 0)))) none 6 false true)]) (AC.block 2 (AC.loop (AC.seq (AC.ops [(AOp.mk (some 58) (AK.bin false BinOp.lss (AX.t 57) (AX.t 56)) none 0 false true)]) (AC.seq (AC.cond (AX.t 58) AC.skip (AC.exit 2)) (AC.seq (AC.block 3 (AC.seq (AC.ops [(AOp.mk (some 59) (AK.iadrS 3 (AX.t 55) (AX.t 57)) none 0 false true), (AOp.mk (some 60) (AK.ld (some 3) (AX.t 59)) none 1 false true), (AOp.mk (some 11) (AK.new (PV.agg [(PV.val (Value.int IntKind.i64 0)), (PV.val (Value.int IntKind.i64 0)), (PV.val (Value.bool false))])) none 2 false true), (AOp.mk none (AK.st 3 (AX.t 11) (AX.t 60)) none 3 false true)]) (AC.seq (AC.ops [(AOp.mk (some 61) (AK.ld none (AX.t 4)) none 0 false true), (AOp.mk (some 62) (AK.ld (some 4) (AX.t 6)) none 1 false true), (AOp.mk (some 63) (AK.ld (some 3) (AX.t 11)) none 2 false true), (AOp.mk (some 64) (AK.callv (AX.t 61) [(AX.t 62), (AX.t 63)]) none 3 false true), (AOp.mk (some 65) (AK.un UnOp.not (AX.t 64)) none 4 false true)]) (AC.cond (AX.t 65) (AC.exit 1) AC.skip)))) (AC.ops [(AOp.mk (some 66) (AK.bin false BinOp.add (AX.t 57) (AX.c (PV.val (Value.int IntKind.i64 1)))) none 0 false true), (AOp.mk (some 57) (AK.mv (AX.t 66)) none 1 false true)]))))))) (AC.seq (AC.ops [(AOp.mk (some 67) (AK.ld none (AX.t 5)) none 0 false true), (AOp.mk (some 68) (AK.ld (some 4) (AX.t 6)) none 1 false true), (AOp.mk (some 69) (AK.callv (AX.t 67) [(AX.t 68)]) none 2 false true), (AOp.mk (some 70) (AK.un UnOp.not (AX.t 69)) none 3 false true)]) (AC.cond (AX.t 70) (AC.seq (AC.ops [(AOp.mk (some 8) (AK.mv (AX.c (PV.val (Value.bool false)))) none 0 false true)]) AC.ret) AC.skip))))) (AC.ops [(AOp.mk (some 31) (AK.mv (AX.t 1)) none 0 false true), (AOp.mk (some 32) (AK.iadrA 1 4 (AX.t 6) (AX.t 31)) none 1 false true), (AOp.mk (some 33) (AK.ld none (AX.t 32)) none 2 false true), (AOp.mk (some 34) (AK.bin false BinOp.add (AX.t 33) (AX.c (PV.val (Value.int IntKind.i64 1)))) none 3 false true), (AOp.mk (some 35) (AK.iadrA 1 4 (AX.t 6) (AX.t 31)) none 4 false true), (AOp.mk none (AK.st 1 (AX.t 35) (AX.t 34)) none 5 false true)])))))) (AC.seq (AC.ops [(AOp.mk (some 8) (AK.mv (AX.c (PV.val (Value.bool true)))) none 0 false true)]) AC.ret)))))
theorem ac128_ok : cCode Try.prog (fun _ => false) Try.f128.ntmps (Try.f128.body.getD .skip) = some ac128 := by kernel_rfl
def spanL (lo hi : Int) : List Int := (List.range (hi - lo + 1).toNat).map fun (k : Nat) => lo + k
/-- What the parts weigh in each truth, from a part on. -/
def truthsF (b : SBook) : Nat → Nat → List Int → List (List Int)
  | 0, _, _ => []
  | r + 1, j, ws => (spanL ((b.parts.map (·.lo)).getD j 0) ((b.parts.map (·.hi)).getD j 0)).flatMap fun w =>
    if j + 1 < b.parts.length then truthsF b r (j + 1) (ws.set j w) else if b.trials.all (rightI b (ws.set j w)) then [ws.set j w] else []
def tailF (b : SBook) (r j : Nat) (ws : List Int) : List (List Int) := if j + 1 < b.parts.length then truthsF b r (j + 1) ws else if b.trials.all (rightI b ws) then [ws] else []
theorem truthsF_succ (b : SBook) (r j : Nat) (ws : List Int) : truthsF b (r + 1) j ws = (spanL ((b.parts.map (·.lo)).getD j 0) ((b.parts.map (·.hi)).getD j 0)).flatMap fun w => tailF b r j (ws.set j w) := rfl
theorem spanL_len (lo hi : Int) : (spanL lo hi).length = (hi - lo + 1).toNat := by simp [spanL]
theorem spanL_drop {lo hi : Int} {k : Nat} (h : k < (hi - lo + 1).toNat) : (spanL lo hi).drop k = (lo + k) :: (spanL lo hi).drop (k + 1) := by
  rw [List.drop_eq_getElem_cons (by rw [spanL_len]; exact h)]
  simp [spanL]
def yC (l : List (List Int)) : List (List PV) := l.map fun ws => [.agg (ws.map pi)]
theorem yC_append (l r : List (List Int)) : yC (l ++ r) = yC l ++ yC r := by simp [yC]
def LW (bp : PV) : List ABlk := [.cells [.p .yld], .cells [.p (.clo 127 [bp] [])], .cells [.clo 128 [] [.p (.ptr [bp] 0), .loc 2 0, .loc 1 0, .loc 0 0]]]
theorem take_LW {bp : PV} {L : List ABlk} (h : L.take 3 = LW bp) : ∃ X, L = LW bp ++ X := ⟨L.drop 3, by rw [← h, List.take_append_drop]⟩
/-- A book that is valid, as far as its truths ask for it. -/
structure Fit (b : SBook) : Prop where
  kind : b.kind = 0 ∨ b.kind = 1
  small : small b
  few : b.parts.length ≤ 4
  parts : ∀ p ∈ b.parts, okPart p
  trials : ∀ t ∈ b.trials, (-1000 ≤ t.weight ∧ t.weight ≤ 1000) ∧ -40 ≤ t.lean ∧ t.lean ≤ 40
  many : b.trials.length ≤ 1000000
theorem okBook.fit {b : SBook} (h : okBook b) : Fit b := by
  obtain ⟨h1, h2, h3, h4, h5, h6⟩ := h
  unfold okBase at h1
  unfold okSeat at h2
  refine ⟨by omega, ⟨by omega, by omega, by omega, by omega, by omega⟩, h3.2, h5, fun t ht => ?_, by omega⟩
  have := h6 t ht
  unfold okTrial at this
  omega

theorem weigh3_sem (k k2 ks : SK) (b : SBook) (hb : Fit b) {w0 w1 w2 w3 : Int} (hw : ∀ w ∈ [w0, w1, w2, w3], 0 ≤ w ∧ w ≤ 99) (r : Nat) (_ : b.parts.length ≤ 3 + 1 + r) (hp : 3 < b.parts.length) (rest : List (List PV)) :
    SemM Try.prog Fence.wide 128 [.p (.agg [pi w0, pi w1, pi w2, pi w3]), .p (pi 3), .p (.ptr [bookP k k2 ks b] 0), .loc 2 0, .loc 1 0, .loc 0 0] (LW (bookP k k2 ks b)) (some (yC (truthsF b (r + 1) 3 [w0, w1, w2, w3]) ++ rest))
      (fun v L' ys' => L'.take 3 = LW (bookP k k2 ks b) ∧ ((v = .p (pb true) ∧ ys' = some rest) ∨ (v = .p (pb false) ∧ ys' = none))) := by
  obtain ⟨PT, hPT⟩ : ∃ q, b.parts[3] = q := ⟨_, rfl⟩
  have hlo : (b.parts.map (·.lo)).getD 3 0 = PT.lo := by simp [hp, hPT]
  have hhi : (b.parts.map (·.hi)).getD 3 0 = PT.hi := by simp [hp, hPT]
  have hPo : okPart PT := by rw [← hPT]; exact hb.parts _ (List.getElem_mem hp)
  obtain ⟨⟨o1, o2⟩, ⟨o3, o4⟩, o5, -, -⟩ := hPo
  rw [truthsF_succ, hlo, hhi]
  obtain ⟨bp, hbp⟩ : ∃ bp, bookP k k2 ks b = bp := ⟨_, rfl⟩
  refine semM_of_exec' mixed Try.func128 (by kernel_rfl) (by kernel_rfl) ac128_ok 6 rfl (by decide) [.tmp 8] (by kernel_rfl) ?_
  intro C hC hI
  unfold ac128 LW
  have a1 := iadr_map (f := partC) (kd := k) (sz := 4) hp
  rw [hPT] at a1
  have e0 : iadrS' 4 (.p (.sl k 4 (b.parts.map partC))) (.p (.val (.int .i64 3))) = some (.p (.ptr (partC PT) 0)) := a1
  have e1 : ∀ id, iadrAS 1 4 (.loc id 0) (.p (.val (.int .i64 3))) = some (.loc id 3) := fun _ => rfl
  have ew : IntKind.i64.wrap (3 + 1) = 4 := rfl
  simp only [go_sem, Nat.reduceBEq, Nat.reduceAdd, Nat.reduceLeDiff, e0, e1, partC, putCells]
  refine loop_nat (PT.hi - PT.lo + 1).toNat (fun _ => True) (fun (j : Nat) => ⟨[(1, .p (pi 3)), (2, .p (.ptr [bookP k k2 ks b] 0)), (3, .loc 2 0), (4, .loc 1 0), (5, .loc 0 0), (6, .loc 3 0), (9, .loc 4 0)],
    LW (bookP k k2 ks b) ++ [.cells [.p (pi w0), .p (pi w1), .p (pi w2), .p (pi (PT.lo + j))], .cells [.p (pi PT.lo), .p (pi PT.hi)]], [], some (yC (((spanL PT.lo PT.hi).drop j).flatMap fun w => tailF b r 3 ([w0, w1, w2, w3].set 3 w)) ++ rest), 3⟩) trivial (by simp [Wk, wkT, wkL, look, AV.lo, AV.lo.loL, LW]) ?_
  rintro j ⟨hj, -⟩
  unfold LW
  simp only [go_sem, Nat.reduceBEq, Nat.reduceAdd, e1]
  refine ⟨fun h5 => ?_, fun h5 => ?_⟩
  · have hlt : j < (PT.hi - PT.lo + 1).toNat := by omega
    have hwk : IntKind.i64.wrap (PT.lo + j + 1) = PT.lo + ((j + 1 : Nat) : Int) := by rw [wrap_id (by omega) (by omega)]; omega
    rw [spanL_drop hlt, List.flatMap_cons, yC_append, List.append_assoc]
    simp only [go_sem, ew, List.length_map]
    refine ⟨fun hn => ?_, fun hn => ?_⟩
    · exact absurd hn (by have := hb.few; omega)
    · have htl : tailF b r 3 [w0, w1, w2, PT.lo + j] = if b.trials.all (rightI b [w0, w1, w2, PT.lo + j]) then [[w0, w1, w2, PT.lo + j]] else [] := by
        unfold tailF; rw [if_neg (by omega)]
      have hw' : ∀ w ∈ [w0, w1, w2, PT.lo + j], 0 ≤ w ∧ w ≤ 99 := by
        intro w hm
        simp only [List.mem_cons, List.not_mem_nil, or_false] at hm hw
        have := fun x hx => hw x hx
        rcases hm with rfl | rfl | rfl | rfl <;> first | omega | exact this _ (by simp)
      refine loop_nat b.trials.length (fun i => ∀ q, q < i → ∀ t, b.trials[q]? = some t → rightI b [w0, w1, w2, PT.lo + j] t = true) (fun (i : Nat) => ⟨[(57, .p (pi i)), (56, .p (pi b.trials.length)), (55, .p (.sl k2 3 (b.trials.map trialC))), (1, .p (pi 3)), (2, .p (.ptr [bookP k k2 ks b] 0)), (3, .loc 2 0), (4, .loc 1 0), (5, .loc 0 0), (6, .loc 3 0), (9, .loc 4 0)],
        LW (bookP k k2 ks b) ++ [.cells [.p (pi w0), .p (pi w1), .p (pi w2), .p (pi (PT.lo + j))], .cells [.p (pi PT.lo), .p (pi PT.hi)]], [], some (yC (tailF b r 3 [w0, w1, w2, PT.lo + j]) ++ (yC (((spanL PT.lo PT.hi).drop (j + 1)).flatMap fun w => tailF b r 3 ([w0, w1, w2, w3].set 3 w)) ++ rest)), 3⟩) (fun q hq => by omega) (by simp [Wk, wkT, wkL, look, AV.lo, AV.lo.loL, LW]) ?_
      rintro i ⟨hi, hI0⟩
      unfold LW
      simp only [go_sem, Nat.reduceBEq, Nat.reduceAdd]
      refine ⟨fun h6 => ?_, fun h6 => ?_⟩
      · have hi2 : i < b.trials.length := by omega
        have ht := hb.trials _ (List.getElem_mem hi2)
        have hmany := hb.many
        simp only [go_sem, Nat.reduceBEq, Nat.reduceAdd, iadr_map hi2, trialC]
        refine call_pure2 hC (right_sem k k2 ks b [w0, w1, w2, PT.lo + j] b.trials[i] hb.kind hb.small rfl hb.few hb.parts hw' ht.1 ht.2) rfl (PVleL_refl _) ?_
        rintro r' rfl
        obtain ⟨B, hB⟩ : ∃ B, rightI b [w0, w1, w2, PT.lo + j] b.trials[i] = B := ⟨_, rfl⟩
        rw [hB]
        cases B with
        | true =>
          simp only [go_sem, Nat.reduceBEq, wrap_succ (k := i) (by omega)]
          refine ⟨⟨i + 1, hi2, fun q hq t hqt => ?_⟩, by simp only; omega, by simp [Wk, wkT, wkL, look, AV.lo, AV.lo.loL]⟩
          rcases Nat.lt_succ_iff_lt_or_eq.1 hq with hq | rfl
          · exact hI0 q hq t hqt
          · rw [List.getElem?_eq_getElem hi2] at hqt
            simp only [Option.some.injEq] at hqt
            subst hqt
            exact hB
        | false =>
          have hno : b.trials.all (rightI b [w0, w1, w2, PT.lo + j]) = false := by
            rw [List.all_eq_false]
            exact ⟨_, List.getElem_mem hi2, by simp [hB]⟩
          rw [hno] at htl
          simp only [Bool.false_eq_true, if_false] at htl
          rw [htl]
          simp only [go_sem, Nat.reduceBEq, Nat.reduceAdd, e1, hwk, putCells]
          refine ⟨⟨j + 1, by omega, trivial⟩, by simp only; omega, ?_⟩
          rw [show yC [] = [] from rfl, List.nil_append]
          exact by simp [Wk, wkT, wkL, look, AV.lo, AV.lo.loL]
      · have hall : b.trials.all (rightI b [w0, w1, w2, PT.lo + j]) = true := by
          rw [List.all_eq_true]
          intro t ht
          obtain ⟨q, hq⟩ := List.mem_iff_getElem?.1 ht
          have := (List.getElem?_eq_some_iff.1 hq).1
          exact hI0 q (by omega) t hq
        rw [hall] at htl
        simp only [if_true] at htl
        rw [htl, show yC [[w0, w1, w2, PT.lo + j]] = [[.agg [pi w0, pi w1, pi w2, pi (PT.lo + j)]]] from rfl]
        simp only [go_sem, Nat.reduceBEq, Nat.reduceAdd, e1, hwk, putCells]
        refine ⟨PVleL_refl _, ?_, ?_⟩
        · refine ⟨⟨j + 1, by omega, trivial⟩, by simp only; omega, ?_⟩
          exact by simp [Wk, wkT, wkL, look, AV.lo, AV.lo.loL]
        · exact retMQ_one rfl ⟨rfl, .inr ⟨rfl, rfl⟩⟩
  · have hjn : j = (PT.hi - PT.lo + 1).toNat := by omega
    have hdn : (spanL PT.lo PT.hi).drop j = [] := List.drop_eq_nil_of_le (by rw [spanL_len]; omega)
    rw [hdn]
    refine retMQ_one rfl ⟨rfl, .inl ⟨rfl, rfl⟩⟩

theorem weigh2_sem (k k2 ks : SK) (b : SBook) (hb : Fit b) {w0 w1 w2 w3 : Int} (hw : ∀ w ∈ [w0, w1, w2, w3], 0 ≤ w ∧ w ≤ 99) (r : Nat) (hr : b.parts.length ≤ 2 + 1 + r) (hp : 2 < b.parts.length) (rest : List (List PV)) :
    SemM Try.prog Fence.wide 128 [.p (.agg [pi w0, pi w1, pi w2, pi w3]), .p (pi 2), .p (.ptr [bookP k k2 ks b] 0), .loc 2 0, .loc 1 0, .loc 0 0] (LW (bookP k k2 ks b)) (some (yC (truthsF b (r + 1) 2 [w0, w1, w2, w3]) ++ rest))
      (fun v L' ys' => L'.take 3 = LW (bookP k k2 ks b) ∧ ((v = .p (pb true) ∧ ys' = some rest) ∨ (v = .p (pb false) ∧ ys' = none))) := by
  obtain ⟨PT, hPT⟩ : ∃ q, b.parts[2] = q := ⟨_, rfl⟩
  have hlo : (b.parts.map (·.lo)).getD 2 0 = PT.lo := by simp [hp, hPT]
  have hhi : (b.parts.map (·.hi)).getD 2 0 = PT.hi := by simp [hp, hPT]
  have hPo : okPart PT := by rw [← hPT]; exact hb.parts _ (List.getElem_mem hp)
  obtain ⟨⟨o1, o2⟩, ⟨o3, o4⟩, o5, -, -⟩ := hPo
  rw [truthsF_succ, hlo, hhi]
  obtain ⟨bp, hbp⟩ : ∃ bp, bookP k k2 ks b = bp := ⟨_, rfl⟩
  refine semM_of_exec' mixed Try.func128 (by kernel_rfl) (by kernel_rfl) ac128_ok 6 rfl (by decide) [.tmp 8] (by kernel_rfl) ?_
  intro C hC hI
  unfold ac128 LW
  have a1 := iadr_map (f := partC) (kd := k) (sz := 4) hp
  rw [hPT] at a1
  have e0 : iadrS' 4 (.p (.sl k 4 (b.parts.map partC))) (.p (.val (.int .i64 2))) = some (.p (.ptr (partC PT) 0)) := a1
  have e1 : ∀ id, iadrAS 1 4 (.loc id 0) (.p (.val (.int .i64 2))) = some (.loc id 2) := fun _ => rfl
  have ew : IntKind.i64.wrap (2 + 1) = 3 := rfl
  simp only [go_sem, Nat.reduceBEq, Nat.reduceAdd, Nat.reduceLeDiff, e0, e1, partC, putCells]
  refine loop_nat (PT.hi - PT.lo + 1).toNat (fun _ => True) (fun (j : Nat) => ⟨[(1, .p (pi 2)), (2, .p (.ptr [bookP k k2 ks b] 0)), (3, .loc 2 0), (4, .loc 1 0), (5, .loc 0 0), (6, .loc 3 0), (9, .loc 4 0)],
    LW (bookP k k2 ks b) ++ [.cells [.p (pi w0), .p (pi w1), .p (pi (PT.lo + j)), .p (pi w3)], .cells [.p (pi PT.lo), .p (pi PT.hi)]], [], some (yC (((spanL PT.lo PT.hi).drop j).flatMap fun w => tailF b r 2 ([w0, w1, w2, w3].set 2 w)) ++ rest), 3⟩) trivial (by simp [Wk, wkT, wkL, look, AV.lo, AV.lo.loL, LW]) ?_
  rintro j ⟨hj, -⟩
  unfold LW
  simp only [go_sem, Nat.reduceBEq, Nat.reduceAdd, e1]
  refine ⟨fun h5 => ?_, fun h5 => ?_⟩
  · have hlt : j < (PT.hi - PT.lo + 1).toNat := by omega
    have hwk : IntKind.i64.wrap (PT.lo + j + 1) = PT.lo + ((j + 1 : Nat) : Int) := by rw [wrap_id (by omega) (by omega)]; omega
    rw [spanL_drop hlt, List.flatMap_cons, yC_append, List.append_assoc]
    simp only [go_sem, ew, List.length_map]
    refine ⟨fun hn => ?_, fun hn => ?_⟩
    · obtain ⟨r', rfl⟩ : ∃ r', r = r' + 1 := ⟨r - 1, by omega⟩
      have htl : tailF b (r' + 1) 2 [w0, w1, PT.lo + j, w3] = truthsF b (r' + 1) 3 [w0, w1, PT.lo + j, w3] := by unfold tailF; rw [if_pos (by omega)]
      have hw' : ∀ w ∈ [w0, w1, PT.lo + j, w3], 0 ≤ w ∧ w ≤ 99 := by
        intro w hm
        simp only [List.mem_cons, List.not_mem_nil, or_false] at hm hw
        have := fun x hx => hw x hx
        rcases hm with rfl | rfl | rfl | rfl <;> first | omega | exact this _ (by simp)
      rw [htl]
      refine call_mem2 hC [0, 1, 2] (weigh3_sem k k2 ks b hb hw' r' (by omega) (by omega) _) rfl (by decide) rfl rfl rfl rfl (by simp) ?_
      rintro v L' ys' ⟨hL3, hcase⟩ -
      obtain ⟨X, rfl⟩ := take_LW hL3
      rcases hcase with ⟨rfl, rfl⟩ | ⟨rfl, rfl⟩
      · unfold LW
        simp only [go_sem, Nat.reduceBEq, Nat.reduceAdd, Nat.reduceLeDiff, e1, hwk, putCells]
        refine ⟨⟨j + 1, by omega, trivial⟩, by simp only; omega, ?_⟩
        exact by simp [Wk, wkT, wkL, look, AV.lo, AV.lo.loL]
      · unfold LW
        simp only [go_sem, Nat.reduceBEq, Nat.reduceAdd]
        exact retMQ_one rfl ⟨rfl, .inr ⟨rfl, rfl⟩⟩
    · have htl : tailF b r 2 [w0, w1, PT.lo + j, w3] = if b.trials.all (rightI b [w0, w1, PT.lo + j, w3]) then [[w0, w1, PT.lo + j, w3]] else [] := by
        unfold tailF; rw [if_neg (by omega)]
      have hw' : ∀ w ∈ [w0, w1, PT.lo + j, w3], 0 ≤ w ∧ w ≤ 99 := by
        intro w hm
        simp only [List.mem_cons, List.not_mem_nil, or_false] at hm hw
        have := fun x hx => hw x hx
        rcases hm with rfl | rfl | rfl | rfl <;> first | omega | exact this _ (by simp)
      refine loop_nat b.trials.length (fun i => ∀ q, q < i → ∀ t, b.trials[q]? = some t → rightI b [w0, w1, PT.lo + j, w3] t = true) (fun (i : Nat) => ⟨[(57, .p (pi i)), (56, .p (pi b.trials.length)), (55, .p (.sl k2 3 (b.trials.map trialC))), (1, .p (pi 2)), (2, .p (.ptr [bookP k k2 ks b] 0)), (3, .loc 2 0), (4, .loc 1 0), (5, .loc 0 0), (6, .loc 3 0), (9, .loc 4 0)],
        LW (bookP k k2 ks b) ++ [.cells [.p (pi w0), .p (pi w1), .p (pi (PT.lo + j)), .p (pi w3)], .cells [.p (pi PT.lo), .p (pi PT.hi)]], [], some (yC (tailF b r 2 [w0, w1, PT.lo + j, w3]) ++ (yC (((spanL PT.lo PT.hi).drop (j + 1)).flatMap fun w => tailF b r 2 ([w0, w1, w2, w3].set 2 w)) ++ rest)), 3⟩) (fun q hq => by omega) (by simp [Wk, wkT, wkL, look, AV.lo, AV.lo.loL, LW]) ?_
      rintro i ⟨hi, hI0⟩
      unfold LW
      simp only [go_sem, Nat.reduceBEq, Nat.reduceAdd]
      refine ⟨fun h6 => ?_, fun h6 => ?_⟩
      · have hi2 : i < b.trials.length := by omega
        have ht := hb.trials _ (List.getElem_mem hi2)
        have hmany := hb.many
        simp only [go_sem, Nat.reduceBEq, Nat.reduceAdd, iadr_map hi2, trialC]
        refine call_pure2 hC (right_sem k k2 ks b [w0, w1, PT.lo + j, w3] b.trials[i] hb.kind hb.small rfl hb.few hb.parts hw' ht.1 ht.2) rfl (PVleL_refl _) ?_
        rintro r' rfl
        obtain ⟨B, hB⟩ : ∃ B, rightI b [w0, w1, PT.lo + j, w3] b.trials[i] = B := ⟨_, rfl⟩
        rw [hB]
        cases B with
        | true =>
          simp only [go_sem, Nat.reduceBEq, wrap_succ (k := i) (by omega)]
          refine ⟨⟨i + 1, hi2, fun q hq t hqt => ?_⟩, by simp only; omega, by simp [Wk, wkT, wkL, look, AV.lo, AV.lo.loL]⟩
          rcases Nat.lt_succ_iff_lt_or_eq.1 hq with hq | rfl
          · exact hI0 q hq t hqt
          · rw [List.getElem?_eq_getElem hi2] at hqt
            simp only [Option.some.injEq] at hqt
            subst hqt
            exact hB
        | false =>
          have hno : b.trials.all (rightI b [w0, w1, PT.lo + j, w3]) = false := by
            rw [List.all_eq_false]
            exact ⟨_, List.getElem_mem hi2, by simp [hB]⟩
          rw [hno] at htl
          simp only [Bool.false_eq_true, if_false] at htl
          rw [htl]
          simp only [go_sem, Nat.reduceBEq, Nat.reduceAdd, Nat.reduceLeDiff, e1, hwk, putCells]
          refine ⟨⟨j + 1, by omega, trivial⟩, by simp only; omega, ?_⟩
          rw [show yC [] = [] from rfl, List.nil_append]
          exact by simp [Wk, wkT, wkL, look, AV.lo, AV.lo.loL]
      · have hall : b.trials.all (rightI b [w0, w1, PT.lo + j, w3]) = true := by
          rw [List.all_eq_true]
          intro t ht
          obtain ⟨q, hq⟩ := List.mem_iff_getElem?.1 ht
          have := (List.getElem?_eq_some_iff.1 hq).1
          exact hI0 q (by omega) t hq
        rw [hall] at htl
        simp only [if_true] at htl
        rw [htl, show yC [[w0, w1, PT.lo + j, w3]] = [[.agg [pi w0, pi w1, pi (PT.lo + j), pi w3]]] from rfl]
        simp only [go_sem, Nat.reduceBEq, Nat.reduceAdd, Nat.reduceLeDiff, e1, hwk, putCells]
        refine ⟨PVleL_refl _, ?_, ?_⟩
        · refine ⟨⟨j + 1, by omega, trivial⟩, by simp only; omega, ?_⟩
          exact by simp [Wk, wkT, wkL, look, AV.lo, AV.lo.loL]
        · exact retMQ_one rfl ⟨rfl, .inr ⟨rfl, rfl⟩⟩
  · have hjn : j = (PT.hi - PT.lo + 1).toNat := by omega
    have hdn : (spanL PT.lo PT.hi).drop j = [] := List.drop_eq_nil_of_le (by rw [spanL_len]; omega)
    rw [hdn]
    refine retMQ_one rfl ⟨rfl, .inl ⟨rfl, rfl⟩⟩

theorem weigh1_sem (k k2 ks : SK) (b : SBook) (hb : Fit b) {w0 w1 w2 w3 : Int} (hw : ∀ w ∈ [w0, w1, w2, w3], 0 ≤ w ∧ w ≤ 99) (r : Nat) (hr : b.parts.length ≤ 1 + 1 + r) (hp : 1 < b.parts.length) (rest : List (List PV)) :
    SemM Try.prog Fence.wide 128 [.p (.agg [pi w0, pi w1, pi w2, pi w3]), .p (pi 1), .p (.ptr [bookP k k2 ks b] 0), .loc 2 0, .loc 1 0, .loc 0 0] (LW (bookP k k2 ks b)) (some (yC (truthsF b (r + 1) 1 [w0, w1, w2, w3]) ++ rest))
      (fun v L' ys' => L'.take 3 = LW (bookP k k2 ks b) ∧ ((v = .p (pb true) ∧ ys' = some rest) ∨ (v = .p (pb false) ∧ ys' = none))) := by
  obtain ⟨PT, hPT⟩ : ∃ q, b.parts[1] = q := ⟨_, rfl⟩
  have hlo : (b.parts.map (·.lo)).getD 1 0 = PT.lo := by simp [hp, hPT]
  have hhi : (b.parts.map (·.hi)).getD 1 0 = PT.hi := by simp [hp, hPT]
  have hPo : okPart PT := by rw [← hPT]; exact hb.parts _ (List.getElem_mem hp)
  obtain ⟨⟨o1, o2⟩, ⟨o3, o4⟩, o5, -, -⟩ := hPo
  rw [truthsF_succ, hlo, hhi]
  obtain ⟨bp, hbp⟩ : ∃ bp, bookP k k2 ks b = bp := ⟨_, rfl⟩
  refine semM_of_exec' mixed Try.func128 (by kernel_rfl) (by kernel_rfl) ac128_ok 6 rfl (by decide) [.tmp 8] (by kernel_rfl) ?_
  intro C hC hI
  unfold ac128 LW
  have a1 := iadr_map (f := partC) (kd := k) (sz := 4) hp
  rw [hPT] at a1
  have e0 : iadrS' 4 (.p (.sl k 4 (b.parts.map partC))) (.p (.val (.int .i64 1))) = some (.p (.ptr (partC PT) 0)) := a1
  have e1 : ∀ id, iadrAS 1 4 (.loc id 0) (.p (.val (.int .i64 1))) = some (.loc id 1) := fun _ => rfl
  have ew : IntKind.i64.wrap (1 + 1) = 2 := rfl
  simp only [go_sem, Nat.reduceBEq, Nat.reduceAdd, Nat.reduceLeDiff, e0, e1, partC, putCells]
  refine loop_nat (PT.hi - PT.lo + 1).toNat (fun _ => True) (fun (j : Nat) => ⟨[(1, .p (pi 1)), (2, .p (.ptr [bookP k k2 ks b] 0)), (3, .loc 2 0), (4, .loc 1 0), (5, .loc 0 0), (6, .loc 3 0), (9, .loc 4 0)],
    LW (bookP k k2 ks b) ++ [.cells [.p (pi w0), .p (pi (PT.lo + j)), .p (pi w2), .p (pi w3)], .cells [.p (pi PT.lo), .p (pi PT.hi)]], [], some (yC (((spanL PT.lo PT.hi).drop j).flatMap fun w => tailF b r 1 ([w0, w1, w2, w3].set 1 w)) ++ rest), 3⟩) trivial (by simp [Wk, wkT, wkL, look, AV.lo, AV.lo.loL, LW]) ?_
  rintro j ⟨hj, -⟩
  unfold LW
  simp only [go_sem, Nat.reduceBEq, Nat.reduceAdd, e1]
  refine ⟨fun h5 => ?_, fun h5 => ?_⟩
  · have hlt : j < (PT.hi - PT.lo + 1).toNat := by omega
    have hwk : IntKind.i64.wrap (PT.lo + j + 1) = PT.lo + ((j + 1 : Nat) : Int) := by rw [wrap_id (by omega) (by omega)]; omega
    rw [spanL_drop hlt, List.flatMap_cons, yC_append, List.append_assoc]
    simp only [go_sem, ew, List.length_map]
    refine ⟨fun hn => ?_, fun hn => ?_⟩
    · obtain ⟨r', rfl⟩ : ∃ r', r = r' + 1 := ⟨r - 1, by omega⟩
      have htl : tailF b (r' + 1) 1 [w0, PT.lo + j, w2, w3] = truthsF b (r' + 1) 2 [w0, PT.lo + j, w2, w3] := by unfold tailF; rw [if_pos (by omega)]
      have hw' : ∀ w ∈ [w0, PT.lo + j, w2, w3], 0 ≤ w ∧ w ≤ 99 := by
        intro w hm
        simp only [List.mem_cons, List.not_mem_nil, or_false] at hm hw
        have := fun x hx => hw x hx
        rcases hm with rfl | rfl | rfl | rfl <;> first | omega | exact this _ (by simp)
      rw [htl]
      refine call_mem2 hC [0, 1, 2] (weigh2_sem k k2 ks b hb hw' r' (by omega) (by omega) _) rfl (by decide) rfl rfl rfl rfl (by simp) ?_
      rintro v L' ys' ⟨hL3, hcase⟩ -
      obtain ⟨X, rfl⟩ := take_LW hL3
      rcases hcase with ⟨rfl, rfl⟩ | ⟨rfl, rfl⟩
      · unfold LW
        simp only [go_sem, Nat.reduceBEq, Nat.reduceAdd, Nat.reduceLeDiff, e1, hwk, putCells]
        refine ⟨⟨j + 1, by omega, trivial⟩, by simp only; omega, ?_⟩
        exact by simp [Wk, wkT, wkL, look, AV.lo, AV.lo.loL]
      · unfold LW
        simp only [go_sem, Nat.reduceBEq, Nat.reduceAdd]
        exact retMQ_one rfl ⟨rfl, .inr ⟨rfl, rfl⟩⟩
    · have htl : tailF b r 1 [w0, PT.lo + j, w2, w3] = if b.trials.all (rightI b [w0, PT.lo + j, w2, w3]) then [[w0, PT.lo + j, w2, w3]] else [] := by
        unfold tailF; rw [if_neg (by omega)]
      have hw' : ∀ w ∈ [w0, PT.lo + j, w2, w3], 0 ≤ w ∧ w ≤ 99 := by
        intro w hm
        simp only [List.mem_cons, List.not_mem_nil, or_false] at hm hw
        have := fun x hx => hw x hx
        rcases hm with rfl | rfl | rfl | rfl <;> first | omega | exact this _ (by simp)
      refine loop_nat b.trials.length (fun i => ∀ q, q < i → ∀ t, b.trials[q]? = some t → rightI b [w0, PT.lo + j, w2, w3] t = true) (fun (i : Nat) => ⟨[(57, .p (pi i)), (56, .p (pi b.trials.length)), (55, .p (.sl k2 3 (b.trials.map trialC))), (1, .p (pi 1)), (2, .p (.ptr [bookP k k2 ks b] 0)), (3, .loc 2 0), (4, .loc 1 0), (5, .loc 0 0), (6, .loc 3 0), (9, .loc 4 0)],
        LW (bookP k k2 ks b) ++ [.cells [.p (pi w0), .p (pi (PT.lo + j)), .p (pi w2), .p (pi w3)], .cells [.p (pi PT.lo), .p (pi PT.hi)]], [], some (yC (tailF b r 1 [w0, PT.lo + j, w2, w3]) ++ (yC (((spanL PT.lo PT.hi).drop (j + 1)).flatMap fun w => tailF b r 1 ([w0, w1, w2, w3].set 1 w)) ++ rest)), 3⟩) (fun q hq => by omega) (by simp [Wk, wkT, wkL, look, AV.lo, AV.lo.loL, LW]) ?_
      rintro i ⟨hi, hI0⟩
      unfold LW
      simp only [go_sem, Nat.reduceBEq, Nat.reduceAdd]
      refine ⟨fun h6 => ?_, fun h6 => ?_⟩
      · have hi2 : i < b.trials.length := by omega
        have ht := hb.trials _ (List.getElem_mem hi2)
        have hmany := hb.many
        simp only [go_sem, Nat.reduceBEq, Nat.reduceAdd, iadr_map hi2, trialC]
        refine call_pure2 hC (right_sem k k2 ks b [w0, PT.lo + j, w2, w3] b.trials[i] hb.kind hb.small rfl hb.few hb.parts hw' ht.1 ht.2) rfl (PVleL_refl _) ?_
        rintro r' rfl
        obtain ⟨B, hB⟩ : ∃ B, rightI b [w0, PT.lo + j, w2, w3] b.trials[i] = B := ⟨_, rfl⟩
        rw [hB]
        cases B with
        | true =>
          simp only [go_sem, Nat.reduceBEq, wrap_succ (k := i) (by omega)]
          refine ⟨⟨i + 1, hi2, fun q hq t hqt => ?_⟩, by simp only; omega, by simp [Wk, wkT, wkL, look, AV.lo, AV.lo.loL]⟩
          rcases Nat.lt_succ_iff_lt_or_eq.1 hq with hq | rfl
          · exact hI0 q hq t hqt
          · rw [List.getElem?_eq_getElem hi2] at hqt
            simp only [Option.some.injEq] at hqt
            subst hqt
            exact hB
        | false =>
          have hno : b.trials.all (rightI b [w0, PT.lo + j, w2, w3]) = false := by
            rw [List.all_eq_false]
            exact ⟨_, List.getElem_mem hi2, by simp [hB]⟩
          rw [hno] at htl
          simp only [Bool.false_eq_true, if_false] at htl
          rw [htl]
          simp only [go_sem, Nat.reduceBEq, Nat.reduceAdd, Nat.reduceLeDiff, e1, hwk, putCells]
          refine ⟨⟨j + 1, by omega, trivial⟩, by simp only; omega, ?_⟩
          rw [show yC [] = [] from rfl, List.nil_append]
          exact by simp [Wk, wkT, wkL, look, AV.lo, AV.lo.loL]
      · have hall : b.trials.all (rightI b [w0, PT.lo + j, w2, w3]) = true := by
          rw [List.all_eq_true]
          intro t ht
          obtain ⟨q, hq⟩ := List.mem_iff_getElem?.1 ht
          have := (List.getElem?_eq_some_iff.1 hq).1
          exact hI0 q (by omega) t hq
        rw [hall] at htl
        simp only [if_true] at htl
        rw [htl, show yC [[w0, PT.lo + j, w2, w3]] = [[.agg [pi w0, pi (PT.lo + j), pi w2, pi w3]]] from rfl]
        simp only [go_sem, Nat.reduceBEq, Nat.reduceAdd, Nat.reduceLeDiff, e1, hwk, putCells]
        refine ⟨PVleL_refl _, ?_, ?_⟩
        · refine ⟨⟨j + 1, by omega, trivial⟩, by simp only; omega, ?_⟩
          exact by simp [Wk, wkT, wkL, look, AV.lo, AV.lo.loL]
        · exact retMQ_one rfl ⟨rfl, .inr ⟨rfl, rfl⟩⟩
  · have hjn : j = (PT.hi - PT.lo + 1).toNat := by omega
    have hdn : (spanL PT.lo PT.hi).drop j = [] := List.drop_eq_nil_of_le (by rw [spanL_len]; omega)
    rw [hdn]
    refine retMQ_one rfl ⟨rfl, .inl ⟨rfl, rfl⟩⟩

theorem weigh0_sem (k k2 ks : SK) (b : SBook) (hb : Fit b) {w0 w1 w2 w3 : Int} (hw : ∀ w ∈ [w0, w1, w2, w3], 0 ≤ w ∧ w ≤ 99) (r : Nat) (hr : b.parts.length ≤ 0 + 1 + r) (hp : 0 < b.parts.length) (rest : List (List PV)) :
    SemM Try.prog Fence.wide 128 [.p (.agg [pi w0, pi w1, pi w2, pi w3]), .p (pi 0), .p (.ptr [bookP k k2 ks b] 0), .loc 2 0, .loc 1 0, .loc 0 0] (LW (bookP k k2 ks b)) (some (yC (truthsF b (r + 1) 0 [w0, w1, w2, w3]) ++ rest))
      (fun v L' ys' => L'.take 3 = LW (bookP k k2 ks b) ∧ ((v = .p (pb true) ∧ ys' = some rest) ∨ (v = .p (pb false) ∧ ys' = none))) := by
  obtain ⟨PT, hPT⟩ : ∃ q, b.parts[0] = q := ⟨_, rfl⟩
  have hlo : (b.parts.map (·.lo)).getD 0 0 = PT.lo := by simp [hp, hPT]
  have hhi : (b.parts.map (·.hi)).getD 0 0 = PT.hi := by simp [hp, hPT]
  have hPo : okPart PT := by rw [← hPT]; exact hb.parts _ (List.getElem_mem hp)
  obtain ⟨⟨o1, o2⟩, ⟨o3, o4⟩, o5, -, -⟩ := hPo
  rw [truthsF_succ, hlo, hhi]
  obtain ⟨bp, hbp⟩ : ∃ bp, bookP k k2 ks b = bp := ⟨_, rfl⟩
  refine semM_of_exec' mixed Try.func128 (by kernel_rfl) (by kernel_rfl) ac128_ok 6 rfl (by decide) [.tmp 8] (by kernel_rfl) ?_
  intro C hC hI
  unfold ac128 LW
  have a1 := iadr_map (f := partC) (kd := k) (sz := 4) hp
  rw [hPT] at a1
  have e0 : iadrS' 4 (.p (.sl k 4 (b.parts.map partC))) (.p (.val (.int .i64 0))) = some (.p (.ptr (partC PT) 0)) := a1
  have e1 : ∀ id, iadrAS 1 4 (.loc id 0) (.p (.val (.int .i64 0))) = some (.loc id 0) := fun _ => rfl
  have ew : IntKind.i64.wrap (0 + 1) = 1 := rfl
  simp only [go_sem, Nat.reduceBEq, Nat.reduceAdd, Nat.reduceLeDiff, e0, e1, partC, putCells]
  refine loop_nat (PT.hi - PT.lo + 1).toNat (fun _ => True) (fun (j : Nat) => ⟨[(1, .p (pi 0)), (2, .p (.ptr [bookP k k2 ks b] 0)), (3, .loc 2 0), (4, .loc 1 0), (5, .loc 0 0), (6, .loc 3 0), (9, .loc 4 0)],
    LW (bookP k k2 ks b) ++ [.cells [.p (pi (PT.lo + j)), .p (pi w1), .p (pi w2), .p (pi w3)], .cells [.p (pi PT.lo), .p (pi PT.hi)]], [], some (yC (((spanL PT.lo PT.hi).drop j).flatMap fun w => tailF b r 0 ([w0, w1, w2, w3].set 0 w)) ++ rest), 3⟩) trivial (by simp [Wk, wkT, wkL, look, AV.lo, AV.lo.loL, LW]) ?_
  rintro j ⟨hj, -⟩
  unfold LW
  simp only [go_sem, Nat.reduceBEq, Nat.reduceAdd, e1]
  refine ⟨fun h5 => ?_, fun h5 => ?_⟩
  · have hlt : j < (PT.hi - PT.lo + 1).toNat := by omega
    have hwk : IntKind.i64.wrap (PT.lo + j + 1) = PT.lo + ((j + 1 : Nat) : Int) := by rw [wrap_id (by omega) (by omega)]; omega
    rw [spanL_drop hlt, List.flatMap_cons, yC_append, List.append_assoc]
    simp only [go_sem, ew, List.length_map]
    refine ⟨fun hn => ?_, fun hn => ?_⟩
    · obtain ⟨r', rfl⟩ : ∃ r', r = r' + 1 := ⟨r - 1, by omega⟩
      have htl : tailF b (r' + 1) 0 [PT.lo + j, w1, w2, w3] = truthsF b (r' + 1) 1 [PT.lo + j, w1, w2, w3] := by unfold tailF; rw [if_pos (by omega)]
      have hw' : ∀ w ∈ [PT.lo + j, w1, w2, w3], 0 ≤ w ∧ w ≤ 99 := by
        intro w hm
        simp only [List.mem_cons, List.not_mem_nil, or_false] at hm hw
        have := fun x hx => hw x hx
        rcases hm with rfl | rfl | rfl | rfl <;> first | omega | exact this _ (by simp)
      rw [htl]
      refine call_mem2 hC [0, 1, 2] (weigh1_sem k k2 ks b hb hw' r' (by omega) (by omega) _) rfl (by decide) rfl rfl rfl rfl (by simp) ?_
      rintro v L' ys' ⟨hL3, hcase⟩ -
      obtain ⟨X, rfl⟩ := take_LW hL3
      rcases hcase with ⟨rfl, rfl⟩ | ⟨rfl, rfl⟩
      · unfold LW
        simp only [go_sem, Nat.reduceBEq, Nat.reduceAdd, Nat.reduceLeDiff, e1, hwk, putCells]
        refine ⟨⟨j + 1, by omega, trivial⟩, by simp only; omega, ?_⟩
        exact by simp [Wk, wkT, wkL, look, AV.lo, AV.lo.loL]
      · unfold LW
        simp only [go_sem, Nat.reduceBEq, Nat.reduceAdd]
        exact retMQ_one rfl ⟨rfl, .inr ⟨rfl, rfl⟩⟩
    · have htl : tailF b r 0 [PT.lo + j, w1, w2, w3] = if b.trials.all (rightI b [PT.lo + j, w1, w2, w3]) then [[PT.lo + j, w1, w2, w3]] else [] := by
        unfold tailF; rw [if_neg (by omega)]
      have hw' : ∀ w ∈ [PT.lo + j, w1, w2, w3], 0 ≤ w ∧ w ≤ 99 := by
        intro w hm
        simp only [List.mem_cons, List.not_mem_nil, or_false] at hm hw
        have := fun x hx => hw x hx
        rcases hm with rfl | rfl | rfl | rfl <;> first | omega | exact this _ (by simp)
      refine loop_nat b.trials.length (fun i => ∀ q, q < i → ∀ t, b.trials[q]? = some t → rightI b [PT.lo + j, w1, w2, w3] t = true) (fun (i : Nat) => ⟨[(57, .p (pi i)), (56, .p (pi b.trials.length)), (55, .p (.sl k2 3 (b.trials.map trialC))), (1, .p (pi 0)), (2, .p (.ptr [bookP k k2 ks b] 0)), (3, .loc 2 0), (4, .loc 1 0), (5, .loc 0 0), (6, .loc 3 0), (9, .loc 4 0)],
        LW (bookP k k2 ks b) ++ [.cells [.p (pi (PT.lo + j)), .p (pi w1), .p (pi w2), .p (pi w3)], .cells [.p (pi PT.lo), .p (pi PT.hi)]], [], some (yC (tailF b r 0 [PT.lo + j, w1, w2, w3]) ++ (yC (((spanL PT.lo PT.hi).drop (j + 1)).flatMap fun w => tailF b r 0 ([w0, w1, w2, w3].set 0 w)) ++ rest)), 3⟩) (fun q hq => by omega) (by simp [Wk, wkT, wkL, look, AV.lo, AV.lo.loL, LW]) ?_
      rintro i ⟨hi, hI0⟩
      unfold LW
      simp only [go_sem, Nat.reduceBEq, Nat.reduceAdd]
      refine ⟨fun h6 => ?_, fun h6 => ?_⟩
      · have hi2 : i < b.trials.length := by omega
        have ht := hb.trials _ (List.getElem_mem hi2)
        have hmany := hb.many
        simp only [go_sem, Nat.reduceBEq, Nat.reduceAdd, iadr_map hi2, trialC]
        refine call_pure2 hC (right_sem k k2 ks b [PT.lo + j, w1, w2, w3] b.trials[i] hb.kind hb.small rfl hb.few hb.parts hw' ht.1 ht.2) rfl (PVleL_refl _) ?_
        rintro r' rfl
        obtain ⟨B, hB⟩ : ∃ B, rightI b [PT.lo + j, w1, w2, w3] b.trials[i] = B := ⟨_, rfl⟩
        rw [hB]
        cases B with
        | true =>
          simp only [go_sem, Nat.reduceBEq, wrap_succ (k := i) (by omega)]
          refine ⟨⟨i + 1, hi2, fun q hq t hqt => ?_⟩, by simp only; omega, by simp [Wk, wkT, wkL, look, AV.lo, AV.lo.loL]⟩
          rcases Nat.lt_succ_iff_lt_or_eq.1 hq with hq | rfl
          · exact hI0 q hq t hqt
          · rw [List.getElem?_eq_getElem hi2] at hqt
            simp only [Option.some.injEq] at hqt
            subst hqt
            exact hB
        | false =>
          have hno : b.trials.all (rightI b [PT.lo + j, w1, w2, w3]) = false := by
            rw [List.all_eq_false]
            exact ⟨_, List.getElem_mem hi2, by simp [hB]⟩
          rw [hno] at htl
          simp only [Bool.false_eq_true, if_false] at htl
          rw [htl]
          simp only [go_sem, Nat.reduceBEq, Nat.reduceAdd, Nat.reduceLeDiff, e1, hwk, putCells]
          refine ⟨⟨j + 1, by omega, trivial⟩, by simp only; omega, ?_⟩
          rw [show yC [] = [] from rfl, List.nil_append]
          exact by simp [Wk, wkT, wkL, look, AV.lo, AV.lo.loL]
      · have hall : b.trials.all (rightI b [PT.lo + j, w1, w2, w3]) = true := by
          rw [List.all_eq_true]
          intro t ht
          obtain ⟨q, hq⟩ := List.mem_iff_getElem?.1 ht
          have := (List.getElem?_eq_some_iff.1 hq).1
          exact hI0 q (by omega) t hq
        rw [hall] at htl
        simp only [if_true] at htl
        rw [htl, show yC [[PT.lo + j, w1, w2, w3]] = [[.agg [pi (PT.lo + j), pi w1, pi w2, pi w3]]] from rfl]
        simp only [go_sem, Nat.reduceBEq, Nat.reduceAdd, Nat.reduceLeDiff, e1, hwk, putCells]
        refine ⟨PVleL_refl _, ?_, ?_⟩
        · refine ⟨⟨j + 1, by omega, trivial⟩, by simp only; omega, ?_⟩
          exact by simp [Wk, wkT, wkL, look, AV.lo, AV.lo.loL]
        · exact retMQ_one rfl ⟨rfl, .inr ⟨rfl, rfl⟩⟩
  · have hjn : j = (PT.hi - PT.lo + 1).toNat := by omega
    have hdn : (spanL PT.lo PT.hi).drop j = [] := List.drop_eq_nil_of_le (by rw [spanL_len]; omega)
    rw [hdn]
    refine retMQ_one rfl ⟨rfl, .inl ⟨rfl, rfl⟩⟩

end Go.Proofs.Ytaejmbmkkdkliaa
namespace Go.Proofs.Ytaejmbmkkdkliaa
open Go.RowKit
def ac126 : AC := (AC.seq (AC.ops [(AOp.mk (some 2) (AK.box 1 (AX.t 0)) none 0 false true)]) (AC.seq (AC.ops [(AOp.mk (some 5) (AK.ld none (AX.t 1)) none 0 false true), (AOp.mk (some 6) (AK.mkf 127 [(AX.t 5)] []) none 1 false true), (AOp.mk (some 3) (AK.new (PV.val Value.nilFunc)) none 2 false true), (AOp.mk none (AK.st 1 (AX.t 3) (AX.t 6)) none 3 false true)]) (AC.seq (AC.ops [(AOp.mk (some 4) (AK.new (PV.val Value.nilFunc)) none 0 false true)]) (AC.seq (AC.ops [(AOp.mk (some 7) (AK.mkf 128 [] [(AX.t 1), (AX.t 4), (AX.t 3), (AX.t 2)]) none 0 false true), (AOp.mk none (AK.st 1 (AX.t 4) (AX.t 7)) none 1 false true)]) (AC.ops [(AOp.mk (some 8) (AK.ld none (AX.t 4)) none 0 false true), (AOp.mk (some 9) (AK.build [(PV.val (Value.int IntKind.i64 0)), (PV.val (Value.int IntKind.i64 0)), (PV.val (Value.int IntKind.i64 0)), (PV.val (Value.int IntKind.i64 0))] []) none 1 false true), (AOp.mk (some 10) (AK.callv (AX.t 8) [(AX.t 9), (AX.c (PV.val (Value.int IntKind.i64 0)))]) none 2 false true)])))))
theorem ac126_ok : cCode Try.prog (fun _ => false) Try.f126.ntmps (Try.f126.body.getD .skip) = some ac126 := by kernel_rfl
def ac111 : AC := (AC.seq (AC.ops [(AOp.mk (some 1) (AK.box 1 (AX.t 0)) none 0 false true), (AOp.mk (some 2) (AK.mv (AX.c (PV.val Value.nilFunc))) none 1 false true)]) (AC.seq (AC.ops [(AOp.mk (some 3) (AK.mkf 126 [] [(AX.t 1)]) none 0 false true), (AOp.mk (some 2) (AK.mv (AX.t 3)) none 1 false true)]) AC.ret))
theorem ac111_ok : cCode Try.prog (fun _ => false) Try.f111.ntmps (Try.f111.body.getD .skip) = some ac111 := by kernel_rfl
def truthL (b : SBook) : List (List Int) := truthsF b 4 0 [0, 0, 0, 0]
theorem truths_it (k k2 ks : SK) (b : SBook) (hb : Fit b) (hp : 0 < b.parts.length) : IterC Try.prog Fence.wide 126 [.yld, .ptr [bookP k k2 ks b] 0] (yC (truthL b)) := by
  refine iterC_of_exec' mixed Try.func126 (by kernel_rfl) (by kernel_rfl) ac126_ok 2 rfl (by decide) (by kernel_rfl) ?_
  intro C hC hI
  unfold ac126
  simp only [go_sem, Nat.reduceBEq, Nat.reduceAdd]
  rw [show yC (truthL b) = yC (truthsF b (3 + 1) 0 [0, 0, 0, 0]) ++ [] from (List.append_nil _).symm]
  refine call_mem2 hC [0, 1, 2] (weigh0_sem k k2 ks b hb (w0 := 0) (w1 := 0) (w2 := 0) (w3 := 0) (by simp) 3 (by have := hb.few; omega) hp []) rfl (by decide) rfl rfl rfl rfl (by simp) ?_
  rintro v L' ys' ⟨hL3, hcase⟩ -
  rcases hcase with ⟨rfl, rfl⟩ | ⟨rfl, rfl⟩
  · exact .inl rfl
  · exact .inr rfl
theorem truths_sem (k k2 ks : SK) (b : SBook) : Sem1 111 [bookP k k2 ks b] (.clo 126 [] [.ptr [bookP k k2 ks b] 0]) := by
  refine semC_of_exec' mixed Try.func111 (by kernel_rfl) (by kernel_rfl) ac111_ok 1 rfl (by decide) [(.tmp 2)] (by kernel_rfl) ?_
  intro hr C hC hI
  unfold ac111
  simp only [go_sem, Nat.reduceBEq]
  exact retQ_pur rfl rfl (PVle.refl _) rfl
def ac99 : AC := (AC.seq (AC.ops [(AOp.mk (some 2) (AK.new (PV.agg [(PV.val (Value.int IntKind.i64 0)), (PV.val (Value.int IntKind.i64 0)), (PV.val (Value.int IntKind.i64 0)), (PV.val (Value.int IntKind.i64 0))])) none 0 false true)]) (AC.seq (AC.seq (AC.ops [(AOp.mk (some 4) (AK.mv (AX.t 0)) none 0 false true), (AOp.mk (some 5) (AK.call 111 [(AX.t 4)]) none 1 false true)]) (AC.block 0 (AC.rng (AX.t 5) [6] (AC.ops [(AOp.mk (some 3) (AK.new (PV.agg [(PV.val (Value.int IntKind.i64 0)), (PV.val (Value.int IntKind.i64 0)), (PV.val (Value.int IntKind.i64 0)), (PV.val (Value.int IntKind.i64 0))])) none 0 false true), (AOp.mk none (AK.st 4 (AX.t 3) (AX.t 6)) none 1 false true)]) (AC.block 1 (AC.seq (AC.ops [(AOp.mk (some 7) (AK.ld (some 4) (AX.t 3)) none 0 false true), (AOp.mk none (AK.st 4 (AX.t 2) (AX.t 7)) none 1 false true)]) AC.ret))))) (AC.seq (AC.ops [(AOp.mk (some 8) (AK.build [(PV.val (Value.int IntKind.i64 0)), (PV.val (Value.int IntKind.i64 0)), (PV.val (Value.int IntKind.i64 0)), (PV.val (Value.int IntKind.i64 0))] []) none 0 false true), (AOp.mk none (AK.st 4 (AX.t 2) (AX.t 8)) none 1 false true)]) AC.ret)))
theorem ac99_ok : cCode Try.prog (fun _ => false) Try.f99.ntmps (Try.f99.body.getD .skip) = some ac99 := by kernel_rfl
def ac62 : AC := (AC.seq (AC.ops [(AOp.mk (some 2) (AK.mv (AX.c (PV.val (Value.bool false)))) none 0 false true)]) (AC.seq (AC.ops [(AOp.mk (some 3) (AK.mv (AX.t 0)) none 0 false true), (AOp.mk (some 4) (AK.call 99 [(AX.t 3)]) none 1 false true), (AOp.mk (some 5) (AK.build [(PV.val (Value.int IntKind.i64 0)), (PV.val (Value.int IntKind.i64 0)), (PV.val (Value.int IntKind.i64 0)), (PV.val (Value.int IntKind.i64 0))] []) none 2 false true), (AOp.mk (some 6) (AK.eqs [CK.i, CK.i, CK.i, CK.i] true (AX.t 4) (AX.t 5)) none 3 false true), (AOp.mk (some 2) (AK.mv (AX.t 6)) none 4 false true)]) AC.ret))
theorem ac62_ok : cCode Try.prog (fun _ => false) Try.f62.ntmps (Try.f62.body.getD .skip) = some ac62 := by kernel_rfl
theorem noY_parts (l : List SPart) : noY.noYR (l.map partC) = true := noYR_map (fun _ => rfl) _
theorem noY_trials (l : List STrial) : noY.noYR (l.map trialC) = true := noYR_map (fun _ => rfl) _
theorem noY_sides (n : Int) : noY.noYR (sidesL n) = true := by unfold sidesL; split <;> rfl
theorem noY_yC (l : List (List Int)) : noY.noYR (yC l) = true := noYR_map (fun ws => by
  have := noYL_map (f := pi) (fun _ => rfl) ws
  simp [noY.noYL, noY, this]) l
theorem len_yC (l : List (List Int)) : ∀ y ∈ yC l, y.length = 1 := by
  intro y hy
  unfold yC at hy
  rw [List.mem_map] at hy
  obtain ⟨ws, _, rfl⟩ := hy
  rfl
theorem at_yC {l : List (List Int)} {i : Nat} {y : List PV} (h : (yC l)[i]? = some y) : ∃ ws, l[i]? = some ws ∧ y = [.agg (ws.map pi)] := by
  unfold yC at h
  rw [List.getElem?_map, Option.map_eq_some_iff] at h
  obtain ⟨ws, h1, h2⟩ := h
  exact ⟨ws, h1, h2.symm⟩
/-- Each truth has four weights, none below 0. -/
theorem truthsF_ok (b : SBook) (hb : Fit b) : ∀ (r j : Nat) (ws : List Int), (ws.length = 4 ∧ ∀ w ∈ ws, 0 ≤ w ∧ w ≤ 99) → ∀ ws' ∈ truthsF b r j ws, ws'.length = 4 ∧ ∀ w ∈ ws', 0 ≤ w ∧ w ≤ 99
  | 0, j, ws, _, ws', h => by simp [truthsF] at h
  | r + 1, j, ws, hws, ws', h => by
    rw [truthsF_succ, List.mem_flatMap] at h
    obtain ⟨w, hw, h⟩ := h
    have hset : (ws.set j w).length = 4 ∧ ∀ x ∈ ws.set j w, 0 ≤ x ∧ x ≤ 99 := by
      refine ⟨by simp [hws.1], fun x hx => ?_⟩
      rcases List.mem_or_eq_of_mem_set hx with hx | rfl
      · exact hws.2 x hx
      · unfold spanL at hw
        rw [List.mem_map] at hw
        obtain ⟨q, hq, rfl⟩ := hw
        rw [List.mem_range] at hq
        by_cases hj : j < b.parts.length
        · have hp := hb.parts _ (List.getElem_mem hj)
          obtain ⟨⟨o1, o2⟩, ⟨o3, o4⟩, o5, -, -⟩ := hp
          simp only [List.getD_eq_getElem?_getD, List.getElem?_map, List.getElem?_eq_getElem hj, Option.map_some, Option.getD_some] at hq ⊢
          omega
        · simp only [List.getD_eq_getElem?_getD, List.getElem?_map, List.getElem?_eq_none (Nat.le_of_not_lt hj), Option.map_none, Option.getD_none] at hq ⊢
          omega
    unfold tailF at h
    split at h
    · exact truthsF_ok b hb r (j + 1) _ hset ws' h
    · split at h
      · simp only [List.mem_singleton] at h
        subst h
        exact hset
      · simp at h
theorem truthL_ok {b : SBook} (hb : Fit b) : ∀ ws ∈ truthL b, ws.length = 4 ∧ ∀ w ∈ ws, 0 ≤ w ∧ w ≤ 99 := truthsF_ok b hb 4 0 _ (by simp)
theorem four {ws : List Int} (h : ws.length = 4) : ∃ w0 w1 w2 w3, ws = [w0, w1, w2, w3] := by
  match ws, h with
  | [w0, w1, w2, w3], _ => exact ⟨w0, w1, w2, w3, rfl⟩
theorem firstTruth_sem (k k2 ks : SK) (b : SBook) (hb : Fit b) (hp : 0 < b.parts.length) : Sem1 99 [bookP k k2 ks b] (.agg (((truthL b).headD [0, 0, 0, 0]).map pi)) := by
  have hit := truths_it k k2 ks b hb hp
  refine semC_of_exec' mixed Try.func99 (by kernel_rfl) (by kernel_rfl) ac99_ok 1 rfl (by decide) [(.cell 2 123)] (by kernel_rfl) ?_
  intro hr C hC hI
  unfold ac99
  simp only [go_sem, Nat.reduceBEq]
  refine call_pure2 hC (truths_sem k k2 ks b) rfl (PVleL_refl _) ?_
  rintro r rfl
  simp only [go_sem]
  refine rng_st ⟨_, _, _, _, _, yC (truthL b), fun _ => ⟨[(2, .loc 0 0)], [.cells [.p (pi 0), .p (pi 0), .p (pi 0), .p (pi 0)]], [], some [], 0⟩, fun i => i = 0, rfl, rfl, hI _ _ _ hit, ?_, len_yC _, by simp [Wk, wkT, wkL, look, AV.lo, AV.lo.loL], rfl, fun _ => ⟨rfl, rfl⟩, ?_, ?_⟩
  · simp [noY.noYL, noY_parts, noY_trials, noY_sides, noY_yC, noY]
  · rintro i y hy rfl
    obtain ⟨ws, h1, rfl⟩ := at_yC hy
    have hws := truthL_ok hb ws (List.mem_of_getElem? h1)
    obtain ⟨w0, w1, w2, w3, rfl⟩ := four hws.1
    simp only [go_sem, Nat.reduceBEq, Nat.reduceAdd, Nat.reduceEqDiff]
    refine retQ_cell (n := some 4) (by kernel_rfl) rfl ?_
    cases hl : truthL b with
    | nil => rw [hl] at h1; cases h1
    | cons x l => rw [hl] at h1; simp at h1; subst h1; rfl
  · intro h0
    have hl : truthL b = [] := by
      have : (yC (truthL b)).length = 0 := h0
      unfold yC at this
      rw [List.length_map] at this
      exact List.eq_nil_of_length_eq_zero this
    simp only [go_sem, Nat.reduceBEq, Nat.reduceAdd]
    refine retQ_cell (n := some 4) (by kernel_rfl) rfl ?_
    rw [hl]; rfl
theorem truthsF_first (b : SBook) : ∀ (r j : Nat) (ws : List Int), 1 ≤ j → ∀ ws' ∈ truthsF b r j ws, ws'[0]? = ws[0]?
  | 0, j, ws, _, ws', h => by simp [truthsF] at h
  | r + 1, j, ws, hj, ws', h => by
    rw [truthsF_succ, List.mem_flatMap] at h
    obtain ⟨w, _, h⟩ := h
    have h0 : (ws.set j w)[0]? = ws[0]? := List.getElem?_set_ne (by omega)
    unfold tailF at h
    split at h
    · rw [truthsF_first b r (j + 1) _ (by omega) ws' h, h0]
    · split at h
      · simp only [List.mem_singleton] at h
        subst h
        exact h0
      · simp at h
theorem truthL_first {b : SBook} (hb : Fit b) (hp : 0 < b.parts.length) : ∀ ws ∈ truthL b, ∃ w, ws[0]? = some w ∧ 1 ≤ w := by
  intro ws h
  unfold truthL at h
  rw [truthsF_succ, List.mem_flatMap] at h
  obtain ⟨w, hw, h⟩ := h
  have h1 : 1 ≤ w := by
    unfold spanL at hw
    rw [List.mem_map] at hw
    obtain ⟨q, hq, rfl⟩ := hw
    have hpo := hb.parts _ (List.getElem_mem hp)
    obtain ⟨⟨o1, o2⟩, -⟩ := hpo
    simp only [List.getD_eq_getElem?_getD, List.getElem?_map, List.getElem?_eq_getElem hp, Option.map_some, Option.getD_some]
    omega
  refine ⟨w, ?_, h1⟩
  unfold tailF at h
  split at h
  · rw [truthsF_first b 3 1 _ (by omega) ws h]; rfl
  · split at h
    · simp only [List.mem_singleton] at h
      subst h; rfl
    · simp at h
theorem canBeTrue_sem (k k2 ks : SK) (b : SBook) (hb : Fit b) (hp : 0 < b.parts.length) : Sem1 62 [bookP k k2 ks b] (pb (decide (truthL b ≠ []))) := by
  obtain ⟨w0, w1, w2, w3, hw, hz⟩ : ∃ w0 w1 w2 w3, (truthL b).headD [0, 0, 0, 0] = [w0, w1, w2, w3] ∧ (decide (¬(w0 = 0 ∧ w1 = 0 ∧ w2 = 0 ∧ w3 = 0)) = decide (truthL b ≠ [])) := by
    cases hl : truthL b with
    | nil => exact ⟨0, 0, 0, 0, rfl, by simp⟩
    | cons x l =>
      obtain ⟨w0, w1, w2, w3, hx⟩ := four (truthL_ok hb x (by rw [hl]; exact List.mem_cons_self ..)).1
      obtain ⟨w, h1, h2⟩ := truthL_first hb hp x (by rw [hl]; exact List.mem_cons_self ..)
      rw [hx] at h1
      simp at h1
      subst h1
      refine ⟨w0, w1, w2, w3, hx, ?_⟩
      have : ¬ (w0 = 0 ∧ w1 = 0 ∧ w2 = 0 ∧ w3 = 0) := by omega
      simp [this]
  have hft := firstTruth_sem k k2 ks b hb hp
  rw [hw] at hft
  rw [← hz]
  refine semC_of_exec' mixed Try.func62 (by kernel_rfl) (by kernel_rfl) ac62_ok 1 rfl (by decide) [(.tmp 2)] (by kernel_rfl) ?_
  intro hr C hC hI
  unfold ac62
  simp only [go_sem, Nat.reduceBEq]
  refine call_pure2 hC (hft) rfl (PVleL_refl _) ?_
  rintro r rfl
  simp only [go_sem, Nat.reduceBEq]
  exact retQ_one rfl rfl
theorem fit_parts {b : SBook} (h : okBook b) : 0 < b.parts.length := by have := h.2.2.1; omega
def ac16 : AC := (AC.seq (AC.ops [(AOp.mk (some 1) (AK.box 10 (AX.t 0)) none 0 false true), (AOp.mk (some 2) (AK.mv (AX.c (PV.val (Value.bool false)))) none 1 false true), (AOp.mk (some 3) (AK.mv (AX.c (PV.val (Value.int IntKind.i64 0)))) none 2 false true)]) (AC.seq (AC.seq (AC.ops [(AOp.mk (some 5) (AK.ld (some 10) (AX.t 1)) none 0 false true), (AOp.mk (some 6) (AK.call 18 [(AX.t 5)]) none 1 false true), (AOp.mk (some 4) (AK.mv (AX.t 6)) none 2 false true)]) (AC.seq (AC.ops [(AOp.mk (some 7) (AK.mv (AX.t 4)) none 0 false true), (AOp.mk (some 8) (AK.bin false BinOp.neq (AX.t 7) (AX.c (PV.val (Value.int IntKind.i64 0)))) none 1 false true)]) (AC.cond (AX.t 8) (AC.seq (AC.ops [(AOp.mk (some 9) (AK.mv (AX.t 4)) none 0 false true), (AOp.mk (some 2) (AK.mv (AX.c (PV.val (Value.bool false)))) none 1 false true), (AOp.mk (some 3) (AK.mv (AX.t 9)) none 2 false true)]) AC.ret) AC.skip))) (AC.seq (AC.ops [(AOp.mk (some 10) (AK.ld (some 10) (AX.t 1)) none 0 false true), (AOp.mk (some 11) (AK.call 61 [(AX.t 10)]) none 1 false true), (AOp.mk (some 12) (AK.call 62 [(AX.t 11)]) none 2 false true), (AOp.mk (some 2) (AK.mv (AX.t 12)) none 3 false true), (AOp.mk (some 3) (AK.mv (AX.c (PV.val (Value.int IntKind.i64 0)))) none 4 false true)]) AC.ret)))
theorem ac16_ok : cCode Try.prog (fun _ => false) Try.f16.ntmps (Try.f16.body.getD .skip) = some ac16 := by kernel_rfl
theorem Right_sem (k k2 : SK) (b : SBook) : Sem1 16 [.agg (bookC k k2 b)] (if okBook b then .tup [pb (decide (truthL b ≠ [])), pi 0] else .tup [pb false, pi 20]) := by
  refine semC_of_exec' mixed Try.func16 (by kernel_rfl) (by kernel_rfl) ac16_ok 1 rfl (by decide) [(.tmp 2), (.tmp 3)] (by kernel_rfl) ?_
  intro hr C hC hI
  unfold ac16
  simp only [go_sem, Nat.reduceBEq, Nat.reduceAdd]
  refine call_pure2 hC (Check_sem ..) rfl (PVleL_refl _) ?_
  rintro r rfl
  simp only [go_sem, Nat.reduceBEq, Nat.reduceAdd]
  by_cases h : okBook b
  · simp only [if_pos h]
    refine ⟨fun h => absurd h (by simp), fun _ => ?_⟩
    refine call_pure2 hC (newBook_sem k k2 b h.fit.kind) rfl (PVleL_refl _) ?_
    rintro r rfl
    simp only [go_sem, Nat.reduceBEq]
    refine call_pure2 hC (canBeTrue_sem k k2 .sh b h.fit (fit_parts h)) rfl (PVleL_refl _) ?_
    rintro r rfl
    simp only [go_sem, Nat.reduceBEq]
    exact retQ_two rfl rfl (by simp)
  · simp only [if_neg h]
    refine ⟨fun _ => retQ_two rfl rfl rfl, fun h => absurd h (by simp)⟩
end Go.Proofs.Ytaejmbmkkdkliaa
