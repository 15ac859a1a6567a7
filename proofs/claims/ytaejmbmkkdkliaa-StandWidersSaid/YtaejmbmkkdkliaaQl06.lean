/- The specification of stand: Lead and Wider. The specification of stand: Wrong. -/
import Derived.Test.YtaejmbmkkdkliaaQl05
namespace Go.Proofs.Ytaejmbmkkdkliaa
open Go.RowKit
def leadX (b : SBook) (along : Int) : SBook := { b with parts := b.parts ++ [⟨0, 0, along, 0⟩] }
theorem loadW_end {ps : List SPart} {ws : List Int} (h : ws.length = ps.length) (q : SPart) (x : Int) : loadW (ps ++ [q]) (ws ++ [x]) = (loadW ps ws).add x q.along q.high := by
  unfold loadW
  rw [List.zip_append h.symm, List.foldl_append]
  rfl
theorem leadX_mok {b : SBook} {along : Int} (ha : -60 ≤ along ∧ along ≤ 60) (h4 : b.parts.length ≤ 4) {ws : List Int} (h : MOk b ws) {j : Int} (hj : 0 ≤ j ∧ j ≤ 99) : MOk (leadX b along) (ws ++ [j]) := by
  refine ⟨h.kind, h.small, ?_, fun p hp => ?_, ?_, fun w hw => ?_⟩
  · show (b.parts ++ [_]).length ≤ 5
    simp; omega
  · rcases List.mem_append.1 hp with hp | hp
    · exact h.place p hp
    · rw [List.mem_singleton] at hp; subst hp; exact ⟨ha, Int.le_refl _, by simp only; omega⟩
  · show (ws ++ [j]).length = (b.parts ++ [_]).length
    simp [h.len]
  · rcases List.mem_append.1 hw with hw | hw
    · exact h.wt w hw
    · rw [List.mem_singleton] at hw; subst hw; exact hj
theorem leadX_loads {b : SBook} {T : List (List Int)} (hT : ∀ ws ∈ T, MOk b ws) (along j : Int) : ldL (leadX b along) (T.map fun ws => ws ++ [j]) = leadL (ldL b T) j along := by
  unfold ldL leadL
  rw [List.map_map, List.map_map]
  refine List.map_congr_left fun ws hws => ?_
  exact loadW_end (hT ws hws).len _ j
theorem rLead_sem (k k2 : SK) (b : SBook) (along : Int) : Sem1 32 [.agg (bookC k k2 b), pi along]
    (if errI b (decide (-60 ≤ along ∧ along ≤ 60)) = 0 then (match leadI b (loadsI b) along with | some j => .tup [pi j, pi 0] | none => .tup [pi 0, pi 4]) else .tup [pi 0, pi (errI b (decide (-60 ≤ along ∧ along ≤ 60)))]) := by
  obtain ⟨R, hR⟩ : ∃ R, (if errI b (decide (-60 ≤ along ∧ along ≤ 60)) = 0 then (match leadI b (loadsI b) along with | some j => PV.tup [pi j, pi 0] | none => .tup [pi 0, pi 4]) else .tup [pi 0, pi (errI b (decide (-60 ≤ along ∧ along ≤ 60)))]) = R := ⟨_, rfl⟩
  rw [hR]
  refine semC_of_exec' mixed Try.func32 (by kernel_rfl) (by kernel_rfl) ac32_ok 2 rfl (by decide) [(.tmp 4), (.tmp 5)] (by kernel_rfl) ?_
  intro hr C hC hI
  unfold ac32
  simp only [go_sem, Nat.reduceBEq, Nat.reduceAdd]
  refine call_pure2 hC (In_sem ..) rfl (PVleL_refl _) ?_
  rintro r rfl
  simp only [go_sem, Nat.reduceBEq]
  refine askC hC k k2 b _ (fun hne => ?_) (fun h0 => ?_)
  · rw [if_neg hne] at hR
    simp only [go_sem, Nat.reduceBEq, Nat.reduceAdd, Nat.reduceLeDiff]
    exact ⟨fun _ => retQ_two rfl rfl hR, fun h => absurd h hne⟩
  rw [if_pos h0] at hR
  obtain ⟨ho, hk⟩ := errI_ok h0
  have hk := of_decide_eq_true hk
  have hg := ok_rng ho
  have h4 := ho.2.2.1
  have hmok := refT_mok ho
  have hlen := refT_len ho
  have hls := ldL_ref ho
  obtain ⟨T, hT⟩ : ∃ T, refT b = T := ⟨_, rfl⟩
  rw [hT] at hmok hlen hls ⊢
  obtain ⟨ls, hls2⟩ : ∃ ls, loadsI b = ls := ⟨_, rfl⟩
  rw [hls2] at hls hR
  have hpart : List.map partC b.parts ++ [[pi 0, pi 0, pi along, pi 0]] = (leadX b along).parts.map partC := by unfold leadX; simp [partC]
  have hleast : ∀ j : Nat, j < 100 → ∀ kp : SK, Sem1 79 [.agg (bookC kp k2 (leadX b along)), lls (T.map fun ws => ws ++ [(j : Int)])] (pi (leastN (leastI (leadX b along) (leadL ls j along)))) := fun j hj kp => by
    have := rleast_sem kp k2 (b := leadX b along) (T := T.map fun ws => ws ++ [(j : Int)]) (fun ws hws => by
      rw [List.mem_map] at hws
      obtain ⟨v, hv, rfl⟩ := hws
      exact leadX_mok hk h4.2 (hmok v hv) (by omega)) (by rw [List.length_map]; omega) hg.2.2 (by show 1 ≤ b.limit ∧ b.limit ≤ 60; omega)
    rwa [leadX_loads hmok, hls] at this
  have hnone : ∀ j : Nat, (0 : Int) = leastN (leastI (leadX b along) (leadL ls j along)) ↔ safeAllI b (leadL ls j along) = true := fun j => by
    have := least_safeAll (b := leadX b along) (show 0 ≤ b.lean by omega) (show 1 ≤ b.limit by omega) (ls := leadL ls j along)
    rw [show safeAllI b (leadL ls j along) = safeAllI (leadX b along) (leadL ls j along) from rfl, ← this]
    cases leastI (leadX b along) (leadL ls j along) with
    | none => simp [leastN]
    | some i => simp [leastN]; omega
  simp only [go_sem, Nat.reduceBEq, Nat.reduceAdd, Nat.reduceLeDiff]
  refine ⟨fun h => by (simp at h), fun _ => ?_⟩
  simp only [go_sem, List.length_map, hpart]
  refine ⟨by omega, fun tk1 _ => ⟨by omega, fun tk2 _ => ?_⟩⟩
  refine loop_g (α := Nat) (fun j => j ≤ 100 ∧ ∀ q : Nat, q < j → safeAllI b (leadL ls q along) = false) (fun j => 100 - j) [6, 8] (fun j => [(9, .p (pi j))]) (fun _ => [.cells ((bookC k k2 b).map .p), .cells ((bookC (.own tk2 70 4) k2 (leadX b along)).map .p)]) (fun _ => []) 0 ⟨by omega, fun q hq => absurd hq (by omega)⟩ (by simp [Wk, wkT, wkL, look, AV.lo, AV.lo.loL, upS_eq, keepS_nil, keepS_cons, leadX]) ?_
  rintro j ⟨hj, hok⟩
  simp only [go_sem, Nat.reduceBEq]
  refine ⟨fun h5 => ?_, fun h5 => ?_⟩
  rotate_left
  · have hn : leadI b ls along = none := leadI_none.2 fun q hq => hok q (by omega)
    rw [hn] at hR
    exact retQ_two rfl rfl hR
  have hj2 : j < 100 := by omega
  have hlst := hleast j hj2
  refine loop_g (α := Nat × Option Nat) (fun x => x.1 ≤ T.length ∧ (x.2 = none → x.1 = 0)) (fun x => T.length - x.1) [6, 8, 9] (fun x => [(10, .p (slLL x.2 ((T.take x.1).map fun ws => ws ++ [(j : Int)]))), (11, .p (pi x.1)), (9, .p (pi j))]) (fun _ => [.cells ((bookC k k2 b).map .p), .cells ((bookC (.own tk2 70 4) k2 (leadX b along)).map .p)]) (fun x => x.2.toList) (0, none) ⟨by simp, fun _ => rfl⟩ (by simp [Wk, wkT, wkL, look, AV.lo, AV.lo.loL, upS_eq, keepS_nil, keepS_cons, leadX, slLL]) ?_
  rintro ⟨i, o⟩ ⟨hi, hio⟩
  simp only at hi hio
  simp only [go_sem, Nat.reduceBEq, Nat.reduceAdd, List.length_map]
  refine ⟨fun h6 => ?_, fun h6 => ?_⟩
  · have hi2 : i < T.length := by omega
    have hnx : (T.take (i + 1)).map (fun ws => ws ++ [(j : Int)]) = (T.take i).map (fun ws => ws ++ [(j : Int)]) ++ [T[i] ++ [(j : Int)]] := by
      rw [List.take_succ_eq_append_getElem hi2, List.map_append]; rfl
    have hml := (hmok _ (List.getElem_mem hi2)).len
    simp only [go_sem, Nat.reduceBEq, lls_at (kd := .sh) hi2]
    refine call_pure2 hC (Add_sem T[i] j (by omega)) rfl (PVleL_refl _) ?_
    rintro r rfl
    simp only [go_sem, Nat.reduceBEq]
    cases o with
    | none =>
      have h0 := hio rfl
      subst h0
      simp only [slLL]
      simp only [go_sem, Nat.reduceBEq, Nat.reduceLeDiff, Nat.reduceEqDiff, wrap_succ (k := 0) (by omega)]
      intro tk _
      refine ⟨⟨(0 + 1, some tk), by simp only; omega, fun h => by cases h⟩, by simp only; omega, ?_⟩
      simp only [hnx]
      simp [Wk, wkT, wkL, look, AV.lo, AV.lo.loL]
    | some tk =>
      simp only [slLL]
      simp only [go_sem, Nat.reduceBEq, Nat.reduceLeDiff, wrap_succ (k := i) (by omega), List.length_map]
      refine ⟨by rw [List.length_take]; omega, by simp, fun t2 _ => ?_⟩
      refine ⟨⟨(i + 1, some t2), by simp only; omega, fun h => by cases h⟩, by simp only; omega, ?_⟩
      simp only [hnx]
      simp [Wk, wkT, wkL, look, AV.lo, AV.lo.loL]
  · have hin : i = T.length := by omega
    rw [hin, List.take_length]
    have hne : T ≠ [] := fun h => by
      have := errI_ne h0
      rw [hls2, ← hls, h] at this
      exact this rfl
    cases o with
    | none => exact absurd (List.eq_nil_of_length_eq_zero (by have := hio rfl; omega)) hne
    | some tk =>
      simp only [slLL]
      refine call_pure2 hC (hlst _) rfl ⟨PVle.refl _, PVle.sh _ _ _, trivial⟩ ?_
      rintro r rfl
      simp only [go_sem, Nat.reduceBEq, wrap_succ (k := j) (by omega)]
      refine ⟨fun h7 => ?_, fun h7 => ?_⟩
      · have hs := (hnone j).1 h7.symm
        have hl : leadI b ls along = some j := leadI_some.2 ⟨hj2, hs, hok⟩
        rw [hl] at hR
        exact retQ_two rfl rfl hR
      · have hs : safeAllI b (leadL ls j along) = false := by
          cases e : safeAllI b (leadL ls j along)
          · rfl
          · exact absurd ((hnone j).2 e).symm h7
        refine ⟨⟨j + 1, by omega, fun q hq => ?_⟩, by simp only; omega, by simp [Wk, wkT, wkL, look, AV.lo, AV.lo.loL, leadX]⟩
        rcases Nat.lt_or_ge q j with h | h
        · exact hok q h
        · have : q = j := by omega
          subst this; exact hs
theorem wide_mok {b : SBook} (ho : okBook b) {n : Int} (hn : 0 ≤ n ∧ n ≤ 20) {ws : List Int} (h : MOk b ws) : MOk (wideB b n) ws := by
  have hb := ho.1
  have hs := h.small
  unfold okBase at hb
  unfold small at hs
  refine ⟨h.kind, ?_, h.few, h.place, h.len, h.wt⟩
  unfold small wideB
  simp only
  omega
theorem rWider_sem (k k2 : SK) (b : SBook) : Sem1 34 [.agg (bookC k k2 b)]
    (if errI b true = 0 then (match widerI b (loadsI b) with | some j => .tup [pi j, pi 0] | none => .tup [pi 0, pi 4]) else .tup [pi 0, pi (errI b true)]) := by
  obtain ⟨R, hR⟩ : ∃ R, (if errI b true = 0 then (match widerI b (loadsI b) with | some j => PV.tup [pi j, pi 0] | none => .tup [pi 0, pi 4]) else .tup [pi 0, pi (errI b true)]) = R := ⟨_, rfl⟩
  rw [hR]
  refine semC_of_exec' mixed Try.func34 (by kernel_rfl) (by kernel_rfl) ac34_ok 1 rfl (by decide) [(.tmp 2), (.tmp 3)] (by kernel_rfl) ?_
  intro hr C hC hI
  unfold ac34
  simp only [go_sem, Nat.reduceBEq, Nat.reduceAdd]
  refine askC hC k k2 b true (fun hne => ?_) (fun h0 => ?_)
  · rw [if_neg hne] at hR
    simp only [go_sem, Nat.reduceBEq]
    exact ⟨fun _ => retQ_two rfl rfl hR, fun h => absurd h hne⟩
  rw [if_pos h0] at hR
  obtain ⟨ho, -⟩ := errI_ok h0
  have hg := ok_rng ho
  have hb := ho.1
  unfold okBase at hb
  have hmok := refT_mok ho
  have hlen := refT_len ho
  have hls := ldL_ref ho
  obtain ⟨T, hT⟩ : ∃ T, refT b = T := ⟨_, rfl⟩
  rw [hT] at hmok hlen hls ⊢
  obtain ⟨ls, hls2⟩ : ∃ ls, loadsI b = ls := ⟨_, rfl⟩
  rw [hls2] at hls hR
  have hleast : ∀ j : Nat, j < 21 → Sem1 79 [.agg (bookC k k2 (wideB b j)), lls T] (pi (leastN (leastI (wideB b j) ls))) := fun j hj => by
    have := rleast_sem k k2 (b := wideB b j) (T := T) (fun ws hws => wide_mok ho (by omega) (hmok ws hws)) (by omega) hg.2.2 (by show 1 ≤ b.limit ∧ b.limit ≤ 60; omega)
    rwa [show ldL (wideB b j) T = ldL b T from rfl, hls] at this
  have hnone : ∀ j : Nat, leastN (leastI (wideB b j) ls) = 0 ↔ safeAllI (wideB b j) ls = true := fun j => by
    have := least_safeAll (b := wideB b j) (show 0 ≤ b.lean by omega) (show 1 ≤ b.limit by omega) (ls := ls)
    rw [← this]
    cases leastI (wideB b j) ls with
    | none => simp [leastN]
    | some i => simp [leastN]; omega
  simp only [go_sem, Nat.reduceBEq]
  refine ⟨fun h => by (simp at h), fun _ => ?_⟩
  refine loop_g (α := Nat) (fun j => j ≤ 21 ∧ ∀ q : Nat, q < j → safeAllI (wideB b q) ls = false) (fun j => 21 - j) [1, 4] (fun j => [(6, .p (pi j))]) (fun _ => [.cells ((bookC k k2 b).map .p)]) (fun _ => []) 0 ⟨by omega, fun q hq => absurd hq (by omega)⟩ (by simp [Wk, wkT, wkL, look, AV.lo, AV.lo.loL, upS_eq, keepS_nil, keepS_cons]) ?_
  rintro j ⟨hj, hok⟩
  simp only [go_sem, Nat.reduceBEq, Nat.reduceAdd, Nat.reduceLeDiff, Nat.reduceEqDiff]
  refine ⟨fun h5 => ?_, fun h5 => ?_⟩
  rotate_left
  · have hn : widerI b ls = none := widerJ_none.2 fun q hq => hok q (by omega)
    rw [hn] at hR
    exact retQ_two rfl rfl hR
  have hj2 : j < 21 := by omega
  have hlst := hleast j hj2
  unfold wideB at hlst
  simp only [go_sem, wrap_id (n := b.front + j) (by omega) (by omega), wrap_id (n := b.back + j) (by omega) (by omega)]
  refine call_pure2 hC (hlst) rfl (PVleL_refl _) ?_
  rintro r rfl
  simp only [go_sem, Nat.reduceBEq, wrap_succ (k := j) (by omega)]
  refine ⟨fun h7 => ?_, fun h7 => ?_⟩
  · have hl : widerI b ls = some j := widerJ_some.2 ⟨hj2, (hnone j).1 h7, hok⟩
    rw [hl] at hR
    exact retQ_two rfl rfl hR
  · have hs : safeAllI (wideB b j) ls = false := by
      cases e : safeAllI (wideB b j) ls
      · rfl
      · exact absurd ((hnone j).2 e) h7
    refine ⟨⟨j + 1, by omega, fun q hq => ?_⟩, by simp only; omega, by simp [Wk, wkT, wkL, look, AV.lo, AV.lo.loL]⟩
    rcases Nat.lt_or_ge q j with h | h
    · exact hok q h
    · have : q = j := by omega
      subst this; exact hs
end Go.Proofs.Ytaejmbmkkdkliaa
namespace Go.Proofs.Ytaejmbmkkdkliaa
open Go.RowKit
def ac90 : AC := (AC.seq (AC.ops [(AOp.mk (some 2) (AK.box 10 (AX.t 0)) none 0 false true), (AOp.mk (some 4) (AK.new (PV.agg [(PV.val (Value.int IntKind.i64 0)), (PV.val (Value.int IntKind.i64 0)), (PV.val (Value.int IntKind.i64 0)), (PV.val (Value.int IntKind.i64 0)), (PV.sl SK.full 0 []), (PV.val (Value.int IntKind.i64 0)), (PV.val (Value.int IntKind.i64 0)), (PV.val (Value.int IntKind.i64 0)), (PV.val (Value.int IntKind.i64 0)), (PV.sl SK.full 0 [])])) none 1 false true)]) (AC.seq (AC.ops [(AOp.mk (some 7) (AK.ld (some 10) (AX.t 2)) none 0 false true), (AOp.mk (some 5) (AK.new (PV.agg [(PV.val (Value.int IntKind.i64 0)), (PV.val (Value.int IntKind.i64 0)), (PV.val (Value.int IntKind.i64 0)), (PV.val (Value.int IntKind.i64 0)), (PV.sl SK.full 0 []), (PV.val (Value.int IntKind.i64 0)), (PV.val (Value.int IntKind.i64 0)), (PV.val (Value.int IntKind.i64 0)), (PV.val (Value.int IntKind.i64 0)), (PV.sl SK.full 0 [])])) none 1 false true), (AOp.mk none (AK.st 10 (AX.t 5) (AX.t 7)) none 2 false true)]) (AC.seq (AC.ops [(AOp.mk (some 8) (AK.fadr 9 (AX.t 5)) none 0 false true), (AOp.mk none (AK.st 1 (AX.t 8) (AX.c (PV.sl SK.full 0 []))) none 1 false true)]) (AC.seq (AC.seq (AC.ops [(AOp.mk (some 6) (AK.mv (AX.c (PV.val (Value.int IntKind.i64 0)))) none 0 false true)]) (AC.block 0 (AC.loop (AC.seq (AC.seq (AC.ops [(AOp.mk (some 9) (AK.mv (AX.t 6)) none 0 false true), (AOp.mk (some 10) (AK.fadr 9 (AX.t 2)) none 1 false true), (AOp.mk (some 11) (AK.ld none (AX.t 10)) none 2 false true), (AOp.mk (some 12) (AK.len (AX.t 11)) none 3 false true), (AOp.mk (some 13) (AK.bin false BinOp.lss (AX.t 9) (AX.t 12)) none 4 false true)]) (AC.cond (AX.t 13) AC.skip (AC.exit 0))) (AC.seq (AC.block 1 (AC.seq (AC.ops [(AOp.mk (some 16) (AK.mv (AX.t 1)) none 0 false true), (AOp.mk (some 17) (AK.mv (AX.t 6)) none 1 false true), (AOp.mk (some 18) (AK.call 96 [(AX.t 16), (AX.t 17)]) none 2 false true), (AOp.mk (some 19) (AK.un UnOp.not (AX.t 18)) none 3 false true)]) (AC.cond (AX.t 19) (AC.ops [(AOp.mk (some 20) (AK.fadr 9 (AX.t 5)) none 0 true false), (AOp.mk (some 21) (AK.ld none (AX.t 20)) none 1 true false), (AOp.mk (some 22) (AK.fadr 9 (AX.t 2)) none 2 true false), (AOp.mk (some 23) (AK.ld none (AX.t 22)) none 3 true false), (AOp.mk (some 24) (AK.mv (AX.t 6)) none 4 true false), (AOp.mk (some 25) (AK.iadrS 3 (AX.t 23) (AX.t 24)) none 5 true false), (AOp.mk (some 26) (AK.ld (some 3) (AX.t 25)) none 6 true false), (AOp.mk (some 27) (AK.bslice false 65 3 1 [(PV.val (Value.int IntKind.i64 0)), (PV.val (Value.int IntKind.i64 0)), (PV.val (Value.bool false))] [(0, (3, (AX.t 26)))]) none 7 false false), (AOp.mk (some 28) (AK.app false 65 3 24 [(PV.val (Value.int IntKind.i64 0)), (PV.val (Value.int IntKind.i64 0)), (PV.val (Value.bool false))] (AX.t 21) (AX.t 27)) none 8 false false), (AOp.mk (some 29) (AK.fadr 9 (AX.t 5)) none 9 true false), (AOp.mk none (AK.st 1 (AX.t 29) (AX.t 28)) none 10 false true)]) AC.skip))) (AC.ops [(AOp.mk (some 14) (AK.mv (AX.t 6)) none 0 false true), (AOp.mk (some 15) (AK.bin false BinOp.add (AX.t 14) (AX.c (PV.val (Value.int IntKind.i64 1)))) none 1 false true), (AOp.mk (some 6) (AK.mv (AX.t 15)) none 2 false true)])))))) (AC.seq (AC.ops [(AOp.mk (some 30) (AK.ld (some 10) (AX.t 5)) none 0 false true), (AOp.mk none (AK.st 10 (AX.t 4) (AX.t 30)) none 1 false true)]) AC.ret)))))
theorem ac90_ok : cCode Try.prog (fun _ => false) Try.f90.ntmps (Try.f90.body.getD .skip) = some ac90 := by kernel_rfl
def ac36 : AC := (AC.seq (AC.ops [(AOp.mk (some 1) (AK.box 10 (AX.t 0)) none 0 false true), (AOp.mk (some 2) (AK.mv (AX.c (PV.sl SK.full 0 []))) none 1 false true), (AOp.mk (some 3) (AK.mv (AX.c (PV.val (Value.int IntKind.i64 0)))) none 2 false true)]) (AC.seq (AC.seq (AC.ops [(AOp.mk (some 9) (AK.ld (some 10) (AX.t 1)) none 0 false true), (AOp.mk (some 10) (AK.call 19 [(AX.t 9)]) none 1 false true), (AOp.mk (some 4) (AK.mv (AX.t 10)) none 2 false true)]) (AC.seq (AC.ops [(AOp.mk (some 11) (AK.mv (AX.t 4)) none 0 false true), (AOp.mk (some 12) (AK.bin false BinOp.neq (AX.t 11) (AX.c (PV.val (Value.int IntKind.i64 0)))) none 1 false true)]) (AC.cond (AX.t 12) (AC.seq (AC.ops [(AOp.mk (some 13) (AK.mv (AX.t 4)) none 0 false true), (AOp.mk (some 2) (AK.mv (AX.c (PV.sl SK.full 0 []))) none 1 false true), (AOp.mk (some 3) (AK.mv (AX.t 13)) none 2 false true)]) AC.ret) AC.skip))) (AC.seq (AC.ops [(AOp.mk (some 14) (AK.fadr 9 (AX.t 1)) none 0 false true), (AOp.mk (some 15) (AK.ld none (AX.t 14)) none 1 false true), (AOp.mk (some 16) (AK.len (AX.t 15)) none 2 false true), (AOp.mk (some 5) (AK.mv (AX.t 16)) none 3 false true)]) (AC.seq (AC.ops [(AOp.mk (some 17) (AK.mv (AX.t 5)) none 0 false true), (AOp.mk (some 18) (AK.bin false BinOp.shl (AX.c (PV.val (Value.int IntKind.i64 1))) (AX.t 17)) none 1 false true), (AOp.mk (some 19) (AK.bin false BinOp.sub (AX.t 18) (AX.c (PV.val (Value.int IntKind.i64 1)))) none 2 false true), (AOp.mk (some 20) (AK.mv (AX.t 5)) none 3 false true), (AOp.mk (some 21) (AK.call 53 [(AX.t 19), (AX.t 20)]) none 4 false true), (AOp.mk (some 6) (AK.mv (AX.t 21)) none 5 false true)]) (AC.seq (AC.seq (AC.ops [(AOp.mk (some 7) (AK.mv (AX.c (PV.val (Value.int IntKind.i64 0)))) none 0 false true)]) (AC.block 0 (AC.loop (AC.seq (AC.seq (AC.ops [(AOp.mk (some 22) (AK.mv (AX.t 7)) none 0 false true), (AOp.mk (some 23) (AK.mv (AX.t 5)) none 1 false true), (AOp.mk (some 24) (AK.bin false BinOp.shl (AX.c (PV.val (Value.int IntKind.i64 1))) (AX.t 23)) none 2 false true), (AOp.mk (some 25) (AK.bin false BinOp.lss (AX.t 22) (AX.t 24)) none 3 false true)]) (AC.cond (AX.t 25) AC.skip (AC.exit 0))) (AC.seq (AC.block 1 (AC.seq (AC.ops [(AOp.mk (some 28) (AK.mv (AX.t 7)) none 0 false true), (AOp.mk (some 29) (AK.mv (AX.t 5)) none 1 false true), (AOp.mk (some 30) (AK.call 53 [(AX.t 28), (AX.t 29)]) none 2 false true), (AOp.mk (some 8) (AK.mv (AX.t 30)) none 3 false true)]) (AC.seq (AC.ops [(AOp.mk (some 31) (AK.mv (AX.t 8)) none 0 false true), (AOp.mk (some 32) (AK.mv (AX.t 6)) none 1 false true), (AOp.mk (some 33) (AK.call 54 [(AX.t 31), (AX.t 32)]) none 2 false true), (AOp.mk (some 34) (AK.mv (AX.t 33)) none 3 false true), (AOp.mk (some 35) (AK.ld (some 10) (AX.t 1)) (some (34, true)) 4 false true), (AOp.mk (some 36) (AK.mv (AX.t 7)) (some (34, true)) 5 false true), (AOp.mk (some 37) (AK.call 90 [(AX.t 35), (AX.t 36)]) (some (34, true)) 6 false true), (AOp.mk (some 38) (AK.call 63 [(AX.t 37)]) (some (34, true)) 7 false true), (AOp.mk (some 39) (AK.len (AX.t 38)) (some (34, true)) 8 false true), (AOp.mk (some 40) (AK.bin false BinOp.gtr (AX.t 39) (AX.c (PV.val (Value.int IntKind.i64 0)))) (some (34, true)) 9 false true), (AOp.mk (some 41) (AK.pick (AX.t 34) (AX.t 40) (AX.c (PV.val (Value.bool false)))) none 10 false true)]) (AC.cond (AX.t 41) (AC.ops [(AOp.mk (some 42) (AK.mv (AX.t 8)) none 0 false true), (AOp.mk (some 6) (AK.mv (AX.t 42)) none 1 false true)]) AC.skip)))) (AC.ops [(AOp.mk (some 26) (AK.mv (AX.t 7)) none 0 false true), (AOp.mk (some 27) (AK.bin false BinOp.add (AX.t 26) (AX.c (PV.val (Value.int IntKind.i64 1)))) none 1 false true), (AOp.mk (some 7) (AK.mv (AX.t 27)) none 2 false true)])))))) (AC.seq (AC.ops [(AOp.mk (some 43) (AK.mv (AX.t 6)) none 0 false true), (AOp.mk (some 2) (AK.mv (AX.t 43)) none 1 false true), (AOp.mk (some 3) (AK.mv (AX.c (PV.val (Value.int IntKind.i64 0)))) none 2 false true)]) AC.ret))))))
theorem ac36_ok : cCode Try.prog (fun _ => false) Try.f36.ntmps (Try.f36.body.getD .skip) = some ac36 := by kernel_rfl
theorem mem_listI {set : Int} {m j : Nat} (h : j < m) : ((j : Int) ∈ listI set m) ↔ ofI set j = true := by
  unfold listI
  rw [List.mem_map]
  constructor
  · rintro ⟨i, hi, e⟩
    have : i = j := by omega
    subst this
    exact (List.mem_filter.1 hi).2
  · intro h2
    exact ⟨j, List.mem_filter.2 ⟨List.mem_range.2 h, h2⟩, rfl⟩
theorem set5 (a b c d e : Bool) : ofI ((a.toNat + 2 * b.toNat + 4 * c.toNat + 8 * d.toNat + 16 * e.toNat : Nat) : Int) ((0 : Nat) : Int) = a ∧ ofI ((a.toNat + 2 * b.toNat + 4 * c.toNat + 8 * d.toNat + 16 * e.toNat : Nat) : Int) ((1 : Nat) : Int) = b ∧
    ofI ((a.toNat + 2 * b.toNat + 4 * c.toNat + 8 * d.toNat + 16 * e.toNat : Nat) : Int) ((2 : Nat) : Int) = c ∧ ofI ((a.toNat + 2 * b.toNat + 4 * c.toNat + 8 * d.toNat + 16 * e.toNat : Nat) : Int) ((3 : Nat) : Int) = d ∧ ofI ((a.toNat + 2 * b.toNat + 4 * c.toNat + 8 * d.toNat + 16 * e.toNat : Nat) : Int) ((4 : Nat) : Int) = e := by
  cases a <;> cases b <;> cases c <;> cases d <;> cases e <;> decide
theorem set_ex {m : Nat} (hm : m ≤ 5) (p : Nat → Bool) : ∃ s : Nat, s < 2 ^ m ∧ ∀ i, i < m → ofI (s : Int) (i : Int) = p i := by
  have hq := set5 (p 0 && decide (0 < m)) (p 1 && decide (1 < m)) (p 2 && decide (2 < m)) (p 3 && decide (3 < m)) (p 4 && decide (4 < m))
  refine ⟨(p 0 && decide (0 < m)).toNat + 2 * (p 1 && decide (1 < m)).toNat + 4 * (p 2 && decide (2 < m)).toNat + 8 * (p 3 && decide (3 < m)).toNat + 16 * (p 4 && decide (4 < m)).toNat, ?_, fun i hi => ?_⟩
  · have h0 := Bool.toNat_le (p 0)
    have h1 := Bool.toNat_le (p 1)
    have h2 := Bool.toNat_le (p 2)
    have h3 := Bool.toNat_le (p 3)
    have h4 := Bool.toNat_le (p 4)
    have : m = 0 ∨ m = 1 ∨ m = 2 ∨ m = 3 ∨ m = 4 ∨ m = 5 := by omega
    rcases this with rfl | rfl | rfl | rfl | rfl | rfl <;> simp <;> omega
  · have : i = 0 ∨ i = 1 ∨ i = 2 ∨ i = 3 ∨ i = 4 := by omega
    rcases this with rfl | rfl | rfl | rfl | rfl
    · rw [hq.1]; simp [hi]
    · rw [hq.2.1]; simp [hi]
    · rw [hq.2.2.1]; simp [hi]
    · rw [hq.2.2.2.1]; simp [hi]
    · rw [hq.2.2.2.2]; simp [hi]
theorem inc_ext {l m : List Int} (h1 : incL l) (h2 : incL m) (h : ∀ n, n ∈ l ↔ n ∈ m) : l = m := by
  have a := inc_sub h1 h2 fun n hn => (h n).1 hn
  have c := inc_sub h2 h1 fun n hn => (h n).2 hn
  exact a.2 (by omega)
theorem grows_set {l : List Int} {m : Nat} (hm : m ≤ 5) (h : growsI l m) : ∃ s : Nat, s < 2 ^ m ∧ l = listI s m := by
  obtain ⟨s, hs, he⟩ := set_ex hm fun i => decide ((i : Int) ∈ l)
  refine ⟨s, hs, inc_ext h.1 (listI_inc _ _) fun n => ?_⟩
  constructor
  · intro hn
    obtain ⟨h0, h1⟩ := h.2 n hn
    have e : n = ((n.toNat : Nat) : Int) := by omega
    rw [e, mem_listI (by omega), he _ (by omega), ← e]
    exact decide_eq_true hn
  · intro hn
    unfold listI at hn
    rw [List.mem_map] at hn
    obtain ⟨i, hi, rfl⟩ := hn
    rw [List.mem_filter, List.mem_range] at hi
    have := he i hi.1
    rw [hi.2] at this
    exact of_decide_eq_true this.symm
theorem all_bits : ∀ m : Nat, m < 6 → ∀ i : Nat, i < m → ofI (((2 ^ m : Nat) : Int) - 1) (i : Int) = true := by decide
theorem Without_sem (k k2 : SK) (b : SBook) (set : Int) (hb : b.trials.length ≤ 1000) : Sem1 90 [.agg (bookC k k2 b), pi set] (.agg (bookC k .sh (withoutB b (listI set b.trials.length)))) := by
  obtain ⟨l, hl⟩ : ∃ l, listI set b.trials.length = l := ⟨_, rfl⟩
  have hmem : ∀ j : Nat, j < b.trials.length → (((j : Int) ∈ l) ↔ ofI set j = true) := fun j hj => by rw [← hl]; exact mem_listI hj
  rw [hl]
  clear hl
  rw [show withoutB b l = { b with trials := stayT b.trials l b.trials.length } from rfl]
  refine semC_of_exec' mixed Try.func90 (by kernel_rfl) (by kernel_rfl) ac90_ok 2 rfl (by decide) [(.cell 4 25)] (by kernel_rfl) ?_
  intro hr C hC hI
  unfold ac90
  simp only [go_sem, Nat.reduceBEq, Nat.reduceAdd, putCells]
  refine loop_g (α := Nat × Option Nat) (fun x => x.1 ≤ b.trials.length ∧ (x.2 = none → stayT b.trials l x.1 = [])) (fun x => b.trials.length - x.1) [1, 2, 4, 5] (fun x => [(6, .p (pi x.1))]) (fun x => [.cells ((bookC k k2 b).map .p), .cells [.p (pi 0), .p (pi 0), .p (pi 0), .p (pi 0), .p (.sl .full 0 []), .p (pi 0), .p (pi 0), .p (pi 0), .p (pi 0), .p (.sl .full 0 [])], .cells [.p (pi b.kind), .p (pi b.front), .p (pi b.back), .p (pi b.radius), .p (.sl k 4 (b.parts.map partC)), .p (pi b.along), .p (pi b.high), .p (pi b.lean), .p (pi b.limit), .p (slT x.2 (stayT b.trials l x.1))]]) (fun x => x.2.toList) (0, none) ⟨by simp, fun _ => rfl⟩ (by simp [Wk, wkT, wkL, look, AV.lo, AV.lo.loL, upS_eq, keepS_nil, keepS_cons, slT]) ?_
  rintro ⟨j, o⟩ ⟨hj, ho⟩
  simp only at hj ho
  simp only [go_sem, Nat.reduceBEq, Nat.reduceAdd, List.length_map]
  refine ⟨fun h5 => ?_, fun h5 => ?_⟩
  · have hj2 : j < b.trials.length := by omega
    have hs := stayT_succ (l := l) hj2
    have hm := hmem j hj2
    have hlen := stayT_len b.trials l j
    have e := iadr_map (f := trialC) (kd := k2) (sz := 3) hj2
    refine call_pure2 hC (Of_sem set j (by omega)) rfl (PVleL_refl _) ?_
    rintro r rfl
    simp only [go_sem, Nat.reduceBEq]
    cases hof : ofI set j
    · rw [if_neg (fun h => by rw [hm.1 h] at hof; cases hof)] at hs
      obtain ⟨P, hP⟩ : ∃ P, b.trials[j] = P := ⟨_, rfl⟩
      rw [hP] at hs e
      cases o with
      | none =>
        rw [ho rfl] at hs
        simp only [slT]
        simp only [go_sem, Nat.reduceBEq, Nat.reduceAdd, Nat.reduceLeDiff, Nat.reduceEqDiff, e, trialC, wrap_succ (k := j) (by omega), putCells]
        intro tk _
        refine ⟨⟨(j + 1, some tk), by simp only; omega, fun h => by cases h⟩, by simp only; omega, ?_⟩
        simp only [hs]
        simp [Wk, wkT, wkL, look, AV.lo, AV.lo.loL, trialC]
      | some tk =>
        simp only [slT]
        simp only [go_sem, Nat.reduceBEq, Nat.reduceAdd, Nat.reduceLeDiff, Nat.reduceEqDiff, e, trialC, wrap_succ (k := j) (by omega), putCells]
        refine ⟨by rw [List.length_map]; omega, by simp, fun t2 _ => ?_⟩
        refine ⟨⟨(j + 1, some t2), by simp only; omega, fun h => by cases h⟩, by simp only; omega, ?_⟩
        simp only [hs]
        simp [Wk, wkT, wkL, look, AV.lo, AV.lo.loL, trialC]
    · rw [if_pos (hm.2 hof)] at hs
      simp only [go_sem, Nat.reduceBEq, wrap_succ (k := j) (by omega)]
      refine ⟨⟨(j + 1, o), by simp only; omega, fun h => by simp only; rw [hs]; exact ho h⟩, by simp only; omega, ?_⟩
      simp only [hs]
      cases o <;> simp [Wk, wkT, wkL, look, AV.lo, AV.lo.loL, slT]
  · have hjn : j = b.trials.length := by omega
    subst hjn
    cases o with
    | none =>
      simp only [slT]
      rw [ho rfl]
      refine retQ_cell_le (n := some 10) (by kernel_rfl) rfl ?_ rfl
      exact PVle.agg ⟨PVle.refl _, PVle.refl _, PVle.refl _, PVle.refl _, PVle.refl _, PVle.refl _, PVle.refl _, PVle.refl _, PVle.refl _, PVle.nil _ _ _, trivial⟩
    | some tk =>
      simp only [slT]
      refine retQ_cell_le (n := some 10) (by kernel_rfl) rfl ?_ rfl
      exact PVle.agg ⟨PVle.refl _, PVle.refl _, PVle.refl _, PVle.refl _, PVle.refl _, PVle.refl _, PVle.refl _, PVle.refl _, PVle.refl _, PVle.sh _ _ _, trivial⟩
theorem shl_eq {m : Nat} (h : m ≤ 5) : IntKind.i64.wrap (1 * 2 ^ (min (m : Int).toNat 64)) = ((2 ^ m : Nat) : Int) := by
  have : m = 0 ∨ m = 1 ∨ m = 2 ∨ m = 3 ∨ m = 4 ∨ m = 5 := by omega
  rcases this with rfl | rfl | rfl | rfl | rfl | rfl <;> decide
theorem rWrong_sem (k k2 : SK) (b : SBook) : Sem1 36 [.agg (bookC k k2 b)] (if okBook b then .tup [pis (fewI b), pi 0] else .tup [pis [], pi 20]) := by
  refine semC_of_exec' mixed Try.func36 (by kernel_rfl) (by kernel_rfl) ac36_ok 1 rfl (by decide) [(.tmp 2), (.tmp 3)] (by kernel_rfl) ?_
  intro hr C hC hI
  unfold ac36
  simp only [go_sem, Nat.reduceBEq, Nat.reduceAdd]
  refine call_pure2 hC (rCheck_sem ..) rfl (PVleL_refl _) ?_
  rintro r rfl
  simp only [go_sem, Nat.reduceBEq]
  by_cases ho : okBook b
  rotate_left
  · simp only [if_neg ho]
    refine ⟨fun _ => retQ_two_le rfl rfl (PVle.nil .full 0 1) (PVle.refl _) rfl, fun h => absurd h (by simp)⟩
  simp only [if_pos ho]
  refine ⟨fun h => absurd h (by simp), fun _ => ?_⟩
  have ht := ho.2.2.2.1
  have hM := shl_eq ht
  have hM2 : 1 ≤ 2 ^ b.trials.length ∧ 2 ^ b.trials.length ≤ 2 ^ 5 := ⟨Nat.one_le_two_pow, Nat.pow_le_pow_right (by omega) ht⟩
  have hall := all_bits b.trials.length (by omega)
  obtain ⟨s0, hs0, hse⟩ := grows_set ht (few_grows ho)
  have hfirst : truthL (withoutB b (listI (((2 ^ b.trials.length : Nat) : Int) - 1) b.trials.length)) ≠ [] := by
    obtain ⟨ws, hws⟩ := List.exists_mem_of_ne_nil _ (allW_ne ho)
    refine without_true.2 ⟨ws, hws, fun n hn => ?_⟩
    obtain ⟨i, t, rfl, h3, -⟩ := mem_wrongI.1 hn
    have hi : i < b.trials.length := (List.getElem?_eq_some_iff.1 h3).1
    exact (mem_listI hi).2 (hall i hi)
  obtain ⟨M, hMM⟩ : ∃ M : Nat, 2 ^ b.trials.length = M := ⟨_, rfl⟩
  rw [hMM] at hM hM2 hs0 hfirst
  simp only [go_sem, Nat.reduceBEq, List.length_map, bin_shl (show ¬ ((b.trials.length : Nat) : Int) < 0 by omega), hM, wrap_id (n := (M : Int) - 1) (by omega) (by omega)]
  refine call_pure2 hC (List_sem ((M : Int) - 1) b.trials.length (by omega)) rfl (PVleL_refl _) ?_
  rintro r rfl
  simp only [go_sem, Nat.reduceBEq]
  refine loop_g (α := Nat × List Int) (fun x => x.1 ≤ M ∧ incL x.2 ∧ truthL (withoutB b x.2) ≠ [] ∧ ∀ q : Nat, q < x.1 → truthL (withoutB b (listI q b.trials.length)) ≠ [] → shortB (listI q b.trials.length) x.2 = false) (fun x => M - x.1) [1, 5] (fun x => [(6, .p (pis x.2)), (7, .p (pi x.1))]) (fun _ => [.cells ((bookC k k2 b).map .p)]) (fun _ => []) (0, listI ((M : Int) - 1) b.trials.length) ⟨by simp, listI_inc _ _, hfirst, fun q hq => absurd hq (by simp)⟩ (by simp [Wk, wkT, wkL, look, AV.lo, AV.lo.loL, upS_eq, keepS_nil, keepS_cons]) ?_
  rintro ⟨j, B⟩ ⟨hj, hB1, hB2, hB3⟩
  simp only at hj hB1 hB2 hB3
  simp only [go_sem, Nat.reduceBEq, bin_shl (show ¬ ((b.trials.length : Nat) : Int) < 0 by omega), hM]
  refine ⟨fun h5 => ?_, fun h5 => ?_⟩
  · have hj2 : j < M := by omega
    have hok := without_ok ho (listI j b.trials.length)
    have hnil := refT_nil hok
    refine call_pure2 hC (List_sem j b.trials.length (by omega)) rfl (PVleL_refl _) ?_
    rintro r rfl
    simp only [go_sem, Nat.reduceBEq]
    refine call_pure2 hC (Shorter_sem ..) rfl (PVleL_refl _) ?_
    rintro r rfl
    simp only [go_sem, Nat.reduceBEq]
    cases hs : shortB (listI j b.trials.length) B
    · simp only [go_sem, Nat.reduceBEq, wrap_succ (k := j) (by omega)]
      refine ⟨⟨(j + 1, B), by simp only; omega, hB1, hB2, fun q hq hf => ?_⟩, by simp only; omega, by simp [Wk, wkT, wkL, look, AV.lo, AV.lo.loL]⟩
      simp only at hq
      rcases Nat.lt_or_ge q j with h | h
      · exact hB3 q h hf
      · have : q = j := by omega
        subst this; exact hs
    · simp only [go_sem, Nat.reduceBEq, Nat.reduceAdd]
      refine call_pure2 hC (Without_sem k k2 b j (by omega)) rfl (PVleL_refl _) ?_
      rintro r rfl
      simp only [go_sem, Nat.reduceBEq]
      refine call_pure2 hC (rtruths_sem k .sh hok) rfl (PVleL_refl _) ?_
      rintro r rfl
      simp only [go_sem, Nat.reduceBEq, List.length_map, wrap_succ (k := j) (by omega)]
      refine ⟨fun h6 => ?_, fun h6 => ?_⟩
      · have hf : truthL (withoutB b (listI j b.trials.length)) ≠ [] := fun h => by rw [hnil.2 h] at h6; simp at h6
        refine ⟨⟨(j + 1, listI j b.trials.length), by simp only; omega, listI_inc _ _, hf, fun q hq hf2 => ?_⟩, by simp only; omega, by simp [Wk, wkT, wkL, look, AV.lo, AV.lo.loL]⟩
        simp only at hq ⊢
        rcases Nat.lt_or_ge q j with h | h
        · have h1 := hB3 q h hf2
          cases h2 : shortB (listI q b.trials.length) (listI j b.trials.length)
          · rfl
          · rw [shortB_trans h2 hs] at h1; cases h1
        · have : q = j := by omega
          subst this; exact shortB_irr _
      · have hf : truthL (withoutB b (listI j b.trials.length)) = [] := hnil.1 (List.eq_nil_of_length_eq_zero (by omega))
        refine ⟨⟨(j + 1, B), by simp only; omega, hB1, hB2, fun q hq hf2 => ?_⟩, by simp only; omega, by simp [Wk, wkT, wkL, look, AV.lo, AV.lo.loL]⟩
        simp only at hq
        rcases Nat.lt_or_ge q j with h | h
        · exact hB3 q h hf2
        · have : q = j := by omega
          subst this; exact absurd hf hf2
  · have hjM : j = M := by omega
    subst hjM
    have h1 : shortB (fewI b) B = false := by
      have := hB3 s0 hs0 (by rw [← hse]; exact few_true ho)
      rwa [← hse] at this
    have h2 : shortB B (fewI b) = false := by
      cases h : shortB B (fewI b)
      · rfl
      · exact absurd (few_least ho hB1 h) hB2
    rw [shortB_total h1 h2]
    exact retQ_two rfl rfl rfl
end Go.Proofs.Ytaejmbmkkdkliaa
