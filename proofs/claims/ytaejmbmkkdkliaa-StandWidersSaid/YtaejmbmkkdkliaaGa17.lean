/- Contracts of stand: horses that remember what tips. Contracts of stand: who can tip. Contracts of stand: ends, safe for all, farthest. Contracts of stand: farthest. Contracts of stand: new horses. -/
import Derived.Test.YtaejmbmkkdkliaaGa16
namespace Go.Proofs.Ytaejmbmkkdkliaa
open Go.RowKit
def ac105 : AC := (AC.seq (AC.ops [(AOp.mk (some 3) (AK.box 2 (AX.t 1)) none 0 false true), (AOp.mk (some 4) (AK.mv (AX.c (PV.val (Value.int IntKind.i64 0)))) none 1 false true)]) (AC.seq (AC.ops [(AOp.mk (some 10) (AK.mv (AX.t 0)) none 0 true false), (AOp.mk (some 11) (AK.nilc (AX.t 10)) none 1 true false), (AOp.mk (some 12) (AK.fadr 2 (AX.t 11)) none 2 true false), (AOp.mk (some 13) (AK.ld none (AX.t 12)) none 3 true false), (AOp.mk (some 14) (AK.ld (some 2) (AX.t 3)) none 4 true false), (AOp.mk (some 15) (AK.lkp [CK.i, CK.i] true (PV.val (Value.int IntKind.i64 0)) true (AX.t 13) (AX.t 14)) none 5 true false), (AOp.mk (some 9) (AK.mv (AX.t 15)) none 6 true false), (AOp.mk (some 16) (AK.ext (AX.t 9) 0) none 7 true false), (AOp.mk (some 17) (AK.ext (AX.t 9) 1) none 8 true false), (AOp.mk (some 5) (AK.mv (AX.t 16)) none 9 true false), (AOp.mk (some 6) (AK.mv (AX.t 17)) none 10 true true)]) (AC.seq (AC.seq (AC.ops [(AOp.mk (some 18) (AK.mv (AX.t 6)) none 0 false true)]) (AC.cond (AX.t 18) (AC.seq (AC.ops [(AOp.mk (some 19) (AK.mv (AX.t 5)) none 0 false true), (AOp.mk (some 4) (AK.mv (AX.t 19)) none 1 false true)]) AC.ret) AC.skip)) (AC.seq (AC.seq (AC.ops [(AOp.mk (some 20) (AK.mv (AX.t 0)) none 0 false true), (AOp.mk (some 21) (AK.nilc (AX.t 20)) none 1 false true), (AOp.mk (some 22) (AK.fadr 1 (AX.t 21)) none 2 false true), (AOp.mk (some 23) (AK.ld none (AX.t 22)) none 3 false true), (AOp.mk (some 24) (AK.len (AX.t 23)) none 4 false true), (AOp.mk (some 25) (AK.mv (AX.c (PV.val (Value.int IntKind.i64 0)))) none 5 false true)]) (AC.block 0 (AC.loop (AC.seq (AC.ops [(AOp.mk (some 26) (AK.bin false BinOp.lss (AX.t 25) (AX.t 24)) none 0 false true)]) (AC.seq (AC.cond (AX.t 26) AC.skip (AC.exit 0)) (AC.seq (AC.block 1 (AC.seq (AC.ops [(AOp.mk (some 27) (AK.iadrS 3 (AX.t 23) (AX.t 25)) none 0 false true), (AOp.mk (some 28) (AK.ld (some 3) (AX.t 27)) none 1 false true), (AOp.mk (some 8) (AK.new (PV.agg [(PV.val (Value.int IntKind.i64 0)), (PV.val (Value.int IntKind.i64 0)), (PV.val (Value.int IntKind.i64 0))])) none 2 false true), (AOp.mk none (AK.st 3 (AX.t 8) (AX.t 28)) none 3 false true)]) (AC.seq (AC.ops [(AOp.mk (some 29) (AK.mv (AX.t 0)) none 0 true false), (AOp.mk (some 30) (AK.nilc (AX.t 29)) none 1 true false), (AOp.mk (some 31) (AK.fadr 0 (AX.t 30)) none 2 true false), (AOp.mk (some 32) (AK.ld none (AX.t 31)) none 3 true false), (AOp.mk (some 33) (AK.ld (some 3) (AX.t 8)) none 4 true false), (AOp.mk (some 34) (AK.ld (some 2) (AX.t 3)) none 5 true false), (AOp.mk (some 35) (AK.call 121 [(AX.t 32), (AX.t 33), (AX.t 34)]) none 6 false false)]) (AC.cond (AX.t 35) (AC.ops [(AOp.mk (some 36) (AK.mv (AX.t 5)) none 0 false true), (AOp.mk (some 37) (AK.bin false BinOp.add (AX.t 36) (AX.c (PV.val (Value.int IntKind.i64 1)))) none 1 false true), (AOp.mk (some 5) (AK.mv (AX.t 37)) none 2 false true)]) AC.skip)))) (AC.ops [(AOp.mk (some 38) (AK.bin false BinOp.add (AX.t 25) (AX.c (PV.val (Value.int IntKind.i64 1)))) none 0 false true), (AOp.mk (some 25) (AK.mv (AX.t 38)) none 1 false true)]))))))) (AC.seq (AC.ops [(AOp.mk (some 39) (AK.mv (AX.t 0)) none 0 true false), (AOp.mk (some 40) (AK.nilc (AX.t 39)) none 1 true false), (AOp.mk (some 41) (AK.fadr 2 (AX.t 40)) none 2 true false), (AOp.mk (some 42) (AK.ld none (AX.t 41)) none 3 true false), (AOp.mk (some 43) (AK.ld (some 2) (AX.t 3)) none 4 true false), (AOp.mk (some 44) (AK.mv (AX.t 5)) none 5 true false), (AOp.mk none (AK.mup [CK.i, CK.i] true (AX.t 42) (AX.t 43) (AX.t 44)) none 6 false true)]) (AC.seq (AC.ops [(AOp.mk (some 45) (AK.mv (AX.t 5)) none 0 false true), (AOp.mk (some 4) (AK.mv (AX.t 45)) none 1 false true)]) AC.ret))))))
theorem ac105_ok : cCode Try.prog (fun _ => false) Try.f105.ntmps (Try.f105.body.getD .skip) = some ac105 := by kernel_rfl
def ac80 : AC := (AC.seq (AC.ops [(AOp.mk (some 3) (AK.box 2 (AX.t 1)) none 0 false true), (AOp.mk (some 4) (AK.mv (AX.c (PV.val (Value.bool false)))) none 1 false true)]) (AC.seq (AC.ops [(AOp.mk (some 5) (AK.mv (AX.t 0)) none 0 false true), (AOp.mk (some 6) (AK.ld (some 2) (AX.t 3)) none 1 false true), (AOp.mk (some 7) (AK.call 105 [(AX.t 5), (AX.t 6)]) none 2 false true), (AOp.mk (some 8) (AK.bin false BinOp.gtr (AX.t 7) (AX.c (PV.val (Value.int IntKind.i64 0)))) none 3 false true), (AOp.mk (some 4) (AK.mv (AX.t 8)) none 4 false true)]) AC.ret))
theorem ac80_ok : cCode Try.prog (fun _ => false) Try.f80.ntmps (Try.f80.body.getD .skip) = some ac80 := by kernel_rfl
def ac71 : AC := (AC.seq (AC.ops [(AOp.mk (some 3) (AK.box 2 (AX.t 1)) none 0 false true), (AOp.mk (some 4) (AK.mv (AX.c (PV.val (Value.int IntKind.i64 0)))) none 1 false true)]) (AC.seq (AC.seq (AC.ops [(AOp.mk (some 5) (AK.mv (AX.t 0)) none 0 false true), (AOp.mk (some 6) (AK.ld (some 2) (AX.t 3)) none 1 false true), (AOp.mk (some 7) (AK.call 105 [(AX.t 5), (AX.t 6)]) none 2 false true)]) (AC.block 0 (AC.seq (AC.ops [(AOp.mk (some 9) (AK.bin false BinOp.eql (AX.t 7) (AX.c (PV.val (Value.int IntKind.i64 0)))) none 0 false true), (AOp.mk (some 8) (AK.mv (AX.t 9)) none 1 false true)]) (AC.cond (AX.t 8) (AC.seq (AC.ops [(AOp.mk (some 4) (AK.mv (AX.c (PV.val (Value.int IntKind.i64 0)))) none 0 false true)]) AC.ret) (AC.seq (AC.ops [(AOp.mk (some 11) (AK.mv (AX.t 0)) none 0 false true), (AOp.mk (some 12) (AK.nilc (AX.t 11)) none 1 false true), (AOp.mk (some 13) (AK.fadr 1 (AX.t 12)) none 2 false true), (AOp.mk (some 14) (AK.ld none (AX.t 13)) none 3 false true), (AOp.mk (some 15) (AK.len (AX.t 14)) none 4 false true), (AOp.mk (some 16) (AK.bin false BinOp.eql (AX.t 7) (AX.t 15)) none 5 false true), (AOp.mk (some 10) (AK.mv (AX.t 16)) none 6 false true)]) (AC.cond (AX.t 10) (AC.seq (AC.ops [(AOp.mk (some 4) (AK.mv (AX.c (PV.val (Value.int IntKind.i64 2)))) none 0 false true)]) AC.ret) AC.skip)))))) (AC.seq (AC.ops [(AOp.mk (some 4) (AK.mv (AX.c (PV.val (Value.int IntKind.i64 1)))) none 0 false true)]) AC.ret)))
theorem ac71_ok : cCode Try.prog (fun _ => false) Try.f71.ntmps (Try.f71.body.getD .skip) = some ac71 := by kernel_rfl
/-- In how many truths a horse tips. -/
def countI (b : SBook) (ls : List SLoad) (w n : Int) : Nat := ls.countP fun l => decide (tipsI b l w n)
/-- What is remembered. -/
def memoC (m : List ((Int × Int) × Int)) : List (PV × PV) := m.map fun x => (.agg [pi x.1.1, pi x.1.2], pi x.2)
def okMemo (b : SBook) (ls : List SLoad) (m : List ((Int × Int) × Int)) : Prop := ∀ x ∈ m, x.2 = countI b ls x.1.1 x.1.2
theorem key_ii (a c x y : Int) : keyEq [.i, .i] true (.agg [pi a, pi c]) (.agg [pi x, pi y]) = some (decide (a = x ∧ c = y)) := by
  simp only [keyEq, eqCs_i, eqCs_nil, Option.map_some]
  simp
def hasKey (m : List ((Int × Int) × Int)) (w n : Int) : Bool := m.any fun x => decide (w = x.1.1 ∧ n = x.1.2)
/-- What is remembered, once it was asked. -/
def memo (b : SBook) (ls : List SLoad) (m : List ((Int × Int) × Int)) (w n : Int) : List ((Int × Int) × Int) := if hasKey m w n then m else m ++ [((w, n), (countI b ls w n : Int))]
theorem memo_ok {b : SBook} {ls : List SLoad} {m : List ((Int × Int) × Int)} (hm : okMemo b ls m) (w n : Int) : okMemo b ls (memo b ls m w n) := by
  unfold memo
  split
  · exact hm
  · intro x hx
    rcases List.mem_append.1 hx with hx | hx
    · exact hm x hx
    · simp only [List.mem_singleton] at hx; subst hx; rfl
theorem seek_memo (w n : Int) : ∀ (m : List ((Int × Int) × Int)) (i : Nat), (mseek [.i, .i] true (.agg [pi w, pi n]) (memoC m) i = some none ∧ hasKey m w n = false) ∨ ∃ j c, mseek [.i, .i] true (.agg [pi w, pi n]) (memoC m) i = some (some (j, pi c)) ∧ ((w, n), c) ∈ m ∧ hasKey m w n = true
  | [], i => .inl ⟨rfl, rfl⟩
  | x :: m, i => by
    have e : mseek [.i, .i] true (.agg [pi w, pi n]) (memoC (x :: m)) i = if w = x.1.1 ∧ n = x.1.2 then some (some (i, pi x.2)) else mseek [.i, .i] true (.agg [pi w, pi n]) (memoC m) (i + 1) := by
      simp only [memoC, List.map_cons, mseek, key_ii]
      split
      · rename_i h; simp at h; rw [if_pos h]
      · rename_i h; simp at h; rw [if_neg (by omega)]
      · rename_i h; cases h
    have e2 : hasKey (x :: m) w n = (decide (w = x.1.1 ∧ n = x.1.2) || hasKey m w n) := rfl
    rw [e, e2]
    split
    · rename_i h
      refine .inr ⟨i, x.2, rfl, ?_, by simp [h]⟩
      have : x = ((w, n), x.2) := by obtain ⟨⟨a, c⟩, d⟩ := x; simp only at h; simp [h.1, h.2]
      rw [← this]
      exact List.mem_cons_self ..
    · rename_i h
      rcases seek_memo w n m (i + 1) with ⟨h1, h2⟩ | ⟨j, c, h1, h2, h3⟩
      · exact .inl ⟨h1, by rw [h2, Bool.or_false]; simpa using h⟩
      · exact .inr ⟨j, c, h1, List.mem_cons_of_mem _ h2, by rw [h3, Bool.or_true]⟩
theorem lkp_memo {b : SBook} {ls : List SLoad} {m : List ((Int × Int) × Int)} (hm : okMemo b ls m) (w n : Int) : (lkpV [.i, .i] true (pi 0) true (memoC m) (.agg [pi w, pi n]) = some (.tup [pi (countI b ls w n), pb true]) ∧ memo b ls m w n = m) ∨
    (lkpV [.i, .i] true (pi 0) true (memoC m) (.agg [pi w, pi n]) = some (.tup [pi 0, pb false]) ∧ mput [.i, .i] true (.agg [pi w, pi n]) (pi (countI b ls w n)) (memoC m) = some (memoC (memo b ls m w n))) := by
  unfold lkpV mput memo
  simp only [key_ii, Option.isSome_some, if_true]
  rcases seek_memo w n m 0 with ⟨h, h2⟩ | ⟨j, c, h1, h2, h3⟩
  · right; rw [h, h2]; refine ⟨rfl, by simp [memoC]⟩
  · left; rw [h1, h3, show c = (countI b ls w n : Int) from hm _ h2]; exact ⟨rfl, by simp⟩
/-- A horse: its book, its loads, what it remembers; t: do its cells stand? -/
def horseB (t : Bool) (bp : PV) (kl : SK) (ls : List SLoad) : ABlk := if t then .half [.p bp, .p (.sl kl 3 (ls.map fun l => loadC l)), .mpl 1] else .cells [.p bp, .p (.sl kl 3 (ls.map fun l => loadC l)), .mpl 1]
theorem count_next (b : SBook) (ls : List SLoad) (w n : Int) (j : Nat) (h : j < ls.length) : countI b (ls.take (j + 1)) w n = countI b (ls.take j) w n + if tipsI b ls[j] w n then 1 else 0 := by
  unfold countI
  rw [List.take_succ_eq_append_getElem h, List.countP_append]
  simp [List.countP_cons]
theorem count_sem (t : Bool) (k k2 ks kl : SK) (b : SBook) (hb : Fit b) (ls : List SLoad) (hls : ∀ l ∈ ls, l.ok 1000) (hln : ls.length ≤ 1000000) (m : List ((Int × Int) × Int)) (hm : okMemo b ls m) (w n : Int) (hw : -1000 ≤ w ∧ w ≤ 1000) (hn : -40 ≤ n ∧ n ≤ 40) (ys : Option (List (List PV))) :
    SemM Try.prog Fence.wide 105 [.loc 0 0, .p (.agg (childC w n))] [horseB t (bookP k k2 ks b) kl ls, .mp (memoC m)] ys
      (fun v L' ys' => v = .p (pi (countI b ls w n)) ∧ ys' = ys ∧ L'.take 2 = [horseB t (bookP k k2 ks b) kl ls, .mp (memoC (memo b ls m w n))]) := by
  refine semM_of_exec' mixed Try.func105 (by kernel_rfl) (by kernel_rfl) ac105_ok 2 rfl (by decide) [.tmp 4] (by kernel_rfl) ?_
  intro C hC hI
  unfold ac105 horseB
  cases t
  · simp only [Bool.false_eq_true, if_false]
    simp only [go_sem, Nat.reduceBEq, Nat.reduceAdd]
    rcases lkp_memo hm w n with ⟨hl, hl2⟩ | ⟨hl, hl2⟩
    · simp only [go_sem, Nat.reduceBEq, hl]
      exact retMQ_one rfl ⟨rfl, rfl, by rw [hl2]; rfl⟩
    · simp only [go_sem, Nat.reduceBEq, hl, List.length_map]
      refine loop_nat ls.length (fun _ => True) (fun (j : Nat) => ⟨[(25, .p (pi j)), (24, .p (pi ls.length)), (23, .p (.sl kl 3 (ls.map fun l => loadC l))), (5, .p (pi (countI b (ls.take j) w n))), (3, .loc 2 0), (0, .loc 0 0)],
        [.cells [.p (bookP k k2 ks b), .p (.sl kl 3 (ls.map fun l => loadC l)), .mpl 1], .mp (memoC m), .cells [.p (pi w), .p (pi n)]], [], ys, 2⟩) trivial (by simp [Wk, wkT, wkL, look, AV.lo, AV.lo.loL, countI]) ?_
      rintro j ⟨hj, -⟩
      simp only [go_sem, Nat.reduceBEq, Nat.reduceAdd, Nat.reduceEqDiff]
      refine ⟨fun h5 => ?_, fun h5 => ?_⟩
      · have hj2 : j < ls.length := by omega
        have hcn := count_next b ls w n j hj2
        have hcl : countI b (ls.take j) w n ≤ ls.length := by
          unfold countI
          exact Nat.le_trans (List.countP_le_length) (by simp; omega)
        simp only [go_sem, Nat.reduceBEq, Nat.reduceAdd, iadr_map (f := fun l => loadC l) hj2]
        refine call_pure2 hC (tips_sem k k2 ks b ls[j] w n hb.kind hb.small (hls _ (List.getElem_mem hj2)) hw hn) rfl (PVleL_refl _) ?_
        rintro r rfl
        simp only [go_sem, Nat.reduceBEq]
        refine ⟨fun h6 => ?_, fun h6 => ?_⟩
        · rw [if_pos h6] at hcn
          simp only [go_sem, wrap_succ (k := j) (by omega), wrap_succ (k := countI b (ls.take j) w n) (by omega)]
          refine ⟨⟨j + 1, hj2, trivial⟩, by simp only; omega, ?_⟩
          rw [← hcn]
          exact by simp [Wk, wkT, wkL, look, AV.lo, AV.lo.loL]
        · rw [if_neg h6] at hcn
          simp only [go_sem, wrap_succ (k := j) (by omega)]
          refine ⟨⟨j + 1, hj2, trivial⟩, by simp only; omega, ?_⟩
          rw [Nat.add_zero] at hcn
          simp only [hcn]
          exact by simp [Wk, wkT, wkL, look, AV.lo, AV.lo.loL]
      · have hjn : j = ls.length := by omega
        subst hjn
        simp only [go_sem, List.take_length]
        refine ⟨_, hl2, ?_⟩
        exact retMQ_one rfl ⟨rfl, rfl, rfl⟩
  · simp only [if_true]
    simp only [go_sem, Nat.reduceBEq, Nat.reduceAdd]
    rcases lkp_memo hm w n with ⟨hl, hl2⟩ | ⟨hl, hl2⟩
    · simp only [go_sem, Nat.reduceBEq, hl]
      exact retMQ_one rfl ⟨rfl, rfl, by rw [hl2]; rfl⟩
    · simp only [go_sem, Nat.reduceBEq, hl, List.length_map]
      refine loop_nat ls.length (fun _ => True) (fun (j : Nat) => ⟨[(25, .p (pi j)), (24, .p (pi ls.length)), (23, .p (.sl kl 3 (ls.map fun l => loadC l))), (5, .p (pi (countI b (ls.take j) w n))), (3, .loc 2 0), (0, .loc 0 0)],
        [.half [.p (bookP k k2 ks b), .p (.sl kl 3 (ls.map fun l => loadC l)), .mpl 1], .mp (memoC m), .cells [.p (pi w), .p (pi n)]], [], ys, 2⟩) trivial (by simp [Wk, wkT, wkL, look, AV.lo, AV.lo.loL, countI]) ?_
      rintro j ⟨hj, -⟩
      simp only [go_sem, Nat.reduceBEq, Nat.reduceAdd, Nat.reduceEqDiff]
      refine ⟨fun h5 => ?_, fun h5 => ?_⟩
      · have hj2 : j < ls.length := by omega
        have hcn := count_next b ls w n j hj2
        have hcl : countI b (ls.take j) w n ≤ ls.length := by
          unfold countI
          exact Nat.le_trans (List.countP_le_length) (by simp; omega)
        simp only [go_sem, Nat.reduceBEq, Nat.reduceAdd, iadr_map (f := fun l => loadC l) hj2]
        refine call_pure2 hC (tips_sem k k2 ks b ls[j] w n hb.kind hb.small (hls _ (List.getElem_mem hj2)) hw hn) rfl (PVleL_refl _) ?_
        rintro r rfl
        simp only [go_sem, Nat.reduceBEq]
        refine ⟨fun h6 => ?_, fun h6 => ?_⟩
        · rw [if_pos h6] at hcn
          simp only [go_sem, wrap_succ (k := j) (by omega), wrap_succ (k := countI b (ls.take j) w n) (by omega)]
          refine ⟨⟨j + 1, hj2, trivial⟩, by simp only; omega, ?_⟩
          rw [← hcn]
          exact by simp [Wk, wkT, wkL, look, AV.lo, AV.lo.loL]
        · rw [if_neg h6] at hcn
          simp only [go_sem, wrap_succ (k := j) (by omega)]
          refine ⟨⟨j + 1, hj2, trivial⟩, by simp only; omega, ?_⟩
          rw [Nat.add_zero] at hcn
          simp only [hcn]
          exact by simp [Wk, wkT, wkL, look, AV.lo, AV.lo.loL]
      · have hjn : j = ls.length := by omega
        subst hjn
        simp only [go_sem, List.take_length]
        refine ⟨_, hl2, ?_⟩
        exact retMQ_one rfl ⟨rfl, rfl, rfl⟩
end Go.Proofs.Ytaejmbmkkdkliaa
namespace Go.Proofs.Ytaejmbmkkdkliaa
open Go.RowKit
theorem ren_horse {t : Bool} {bp : PV} {kl : SK} {ls : List SLoad} {n : Nat} : ABlk.ren (mAt [0, 1] n) (horseB t bp kl ls) = horseB t bp kl ls := by cases t <;> rfl
theorem turn_horse {t : Bool} {bp : PV} {kl : SK} {ls : List SLoad} : (horseB t bp kl ls).turns = true := by cases t <;> rfl
theorem lo_horse {t : Bool} {bp : PV} {kl : SK} {ls : List SLoad} : (horseB t bp kl ls).lo 2 = true := by cases t <;> rfl
theorem take2 {a b : ABlk} {L : List ABlk} (h : L.take 2 = [a, b]) : ∃ X, L = a :: b :: X := ⟨L.drop 2, by rw [← List.take_append_drop 2 L, h]; simp⟩
/-- A horse that is fit to be asked. -/
structure HorseOk (b : SBook) (ls : List SLoad) : Prop where
  fit : Fit b
  small : ∀ l ∈ ls, l.ok 1000
  few : ls.length ≤ 1000000
theorem canTip_sem (t : Bool) (k k2 ks kl : SK) (b : SBook) (ls : List SLoad) (hh : HorseOk b ls) (m : List ((Int × Int) × Int)) (hm : okMemo b ls m) (w n : Int) (hw : -1000 ≤ w ∧ w ≤ 1000) (hn : -40 ≤ n ∧ n ≤ 40) (ys : Option (List (List PV))) :
    SemM Try.prog Fence.wide 80 [.loc 0 0, .p (.agg (childC w n))] [horseB t (bookP k k2 ks b) kl ls, .mp (memoC m)] ys
      (fun v L' ys' => v = .p (pb (decide ((0 : Int) < countI b ls w n))) ∧ ys' = ys ∧ L'.take 2 = [horseB t (bookP k k2 ks b) kl ls, .mp (memoC (memo b ls m w n))]) := by
  refine semM_of_exec' mixed Try.func80 (by kernel_rfl) (by kernel_rfl) ac80_ok 2 rfl (by decide) [.tmp 4] (by kernel_rfl) ?_
  intro C hC hI
  unfold ac80
  simp only [go_sem, Nat.reduceBEq, Nat.reduceAdd]
  refine call_mem2 hC [0, 1] (count_sem t k k2 ks kl b hh.fit ls hh.small hh.few m hm w n hw hn ys) rfl (by decide) ?_ ?_ ?_ rfl (by simp) ?_
  · simp only [List.map_cons, List.map_nil, ren_horse]; rfl
  · simp only [List.all_cons, List.all_nil, turn_horse]; rfl
  · simp only [List.all_cons, List.all_nil, List.length_cons, List.length_nil, Nat.zero_add, Nat.reduceAdd, lo_horse]; rfl
  · rintro v L' ys' ⟨rfl, rfl, hL⟩ -
    obtain ⟨X, rfl⟩ := take2 hL
    simp only [go_sem, Nat.reduceBEq, Nat.reduceAdd, ren_horse]
    exact retMQ_one rfl ⟨rfl, rfl, rfl⟩
theorem answer_sem (t : Bool) (k k2 ks kl : SK) (b : SBook) (ls : List SLoad) (hh : HorseOk b ls) (m : List ((Int × Int) × Int)) (hm : okMemo b ls m) (w n : Int) (hw : -1000 ≤ w ∧ w ≤ 1000) (hn : -40 ≤ n ∧ n ≤ 40) (ys : Option (List (List PV))) :
    SemM Try.prog Fence.wide 71 [.loc 0 0, .p (.agg (childC w n))] [horseB t (bookP k k2 ks b) kl ls, .mp (memoC m)] ys
      (fun v L' ys' => v = .p (pi (if countI b ls w n = 0 then 0 else if countI b ls w n = ls.length then 2 else 1)) ∧ ys' = ys ∧ L'.take 2 = [horseB t (bookP k k2 ks b) kl ls, .mp (memoC (memo b ls m w n))]) := by
  refine semM_of_exec' mixed Try.func71 (by kernel_rfl) (by kernel_rfl) ac71_ok 2 rfl (by decide) [.tmp 4] (by kernel_rfl) ?_
  intro C hC hI
  unfold ac71
  simp only [go_sem, Nat.reduceBEq, Nat.reduceAdd]
  refine call_mem2 hC [0, 1] (count_sem t k k2 ks kl b hh.fit ls hh.small hh.few m hm w n hw hn ys) rfl (by decide) ?_ ?_ ?_ rfl (by simp) ?_
  · simp only [List.map_cons, List.map_nil, ren_horse]; rfl
  · simp only [List.all_cons, List.all_nil, turn_horse]; rfl
  · simp only [List.all_cons, List.all_nil, List.length_cons, List.length_nil, Nat.zero_add, Nat.reduceAdd, lo_horse]; rfl
  · rintro v L' ys' ⟨rfl, rfl, hL⟩ -
    obtain ⟨X, rfl⟩ := take2 hL
    simp only [go_sem, Nat.reduceBEq, Nat.reduceAdd, ren_horse]
    refine ⟨fun h => ?_, fun h => ?_⟩
    · exact retMQ_one rfl ⟨by rw [if_pos (by omega)]; rfl, rfl, rfl⟩
    · cases t
      · simp only [horseB, Bool.false_eq_true, if_false]
        simp only [go_sem, Nat.reduceBEq, List.length_map]
        refine ⟨fun h2 => ?_, fun h2 => ?_⟩
        · exact retMQ_one rfl ⟨by rw [if_neg (by omega), if_pos (by omega)]; rfl, rfl, rfl⟩
        · exact retMQ_one rfl ⟨by rw [if_neg (by omega), if_neg (by omega)]; rfl, rfl, rfl⟩
      · simp only [horseB, if_true]
        simp only [go_sem, Nat.reduceBEq, List.length_map]
        refine ⟨fun h2 => ?_, fun h2 => ?_⟩
        · exact retMQ_one rfl ⟨by rw [if_neg (by omega), if_pos (by omega)]; rfl, rfl, rfl⟩
        · exact retMQ_one rfl ⟨by rw [if_neg (by omega), if_neg (by omega)]; rfl, rfl, rfl⟩
def ac109 : AC := (AC.seq (AC.ops [(AOp.mk (some 2) (AK.box 1 (AX.t 0)) none 0 false true), (AOp.mk (some 3) (AK.box 1 (AX.t 1)) none 1 false true), (AOp.mk (some 4) (AK.mv (AX.c (PV.val Value.nilFunc))) none 2 false true)]) (AC.seq (AC.ops [(AOp.mk (some 5) (AK.mkf 125 [] [(AX.t 2), (AX.t 3)]) none 0 false true), (AOp.mk (some 4) (AK.mv (AX.t 5)) none 1 false true)]) AC.ret))
theorem ac109_ok : cCode Try.prog (fun _ => false) Try.f109.ntmps (Try.f109.body.getD .skip) = some ac109 := by kernel_rfl
def ac125 : AC := (AC.seq (AC.ops [(AOp.mk (some 5) (AK.ld none (AX.t 1)) none 0 false true), (AOp.mk (some 6) (AK.nilc (AX.t 5)) none 1 false true), (AOp.mk (some 7) (AK.fadr 0 (AX.t 6)) none 2 false true), (AOp.mk (some 8) (AK.ld none (AX.t 7)) none 3 false true), (AOp.mk (some 9) (AK.nilc (AX.t 8)) none 4 false true), (AOp.mk (some 10) (AK.fadr 0 (AX.t 9)) none 5 false true), (AOp.mk (some 11) (AK.fadr 7 (AX.t 10)) none 6 false true), (AOp.mk (some 12) (AK.ld none (AX.t 11)) none 7 false true), (AOp.mk (some 13) (AK.bin false BinOp.mul (AX.c (PV.val (Value.int IntKind.i64 2))) (AX.t 12)) none 8 false true), (AOp.mk (some 14) (AK.bin false BinOp.add (AX.t 13) (AX.c (PV.val (Value.int IntKind.i64 1)))) none 9 false true), (AOp.mk (some 15) (AK.mv (AX.c (PV.val (Value.int IntKind.i64 0)))) none 10 false true)]) (AC.block 0 (AC.loop (AC.seq (AC.ops [(AOp.mk (some 16) (AK.bin false BinOp.lss (AX.t 15) (AX.t 14)) none 0 false true)]) (AC.seq (AC.cond (AX.t 16) AC.skip (AC.exit 0)) (AC.seq (AC.block 1 (AC.seq (AC.ops [(AOp.mk (some 17) (AK.mv (AX.t 15)) none 0 false true), (AOp.mk (some 4) (AK.mv (AX.t 17)) none 1 false true)]) (AC.seq (AC.ops [(AOp.mk (some 18) (AK.mv (AX.t 0)) none 0 true false), (AOp.mk (some 19) (AK.ld none (AX.t 2)) none 1 true false), (AOp.mk (some 20) (AK.mv (AX.t 4)) none 2 true false), (AOp.mk (some 21) (AK.ld none (AX.t 1)) none 3 true false), (AOp.mk (some 22) (AK.nilc (AX.t 21)) none 4 true false), (AOp.mk (some 23) (AK.fadr 0 (AX.t 22)) none 5 true false), (AOp.mk (some 24) (AK.ld none (AX.t 23)) none 6 true false), (AOp.mk (some 25) (AK.nilc (AX.t 24)) none 7 true false), (AOp.mk (some 26) (AK.fadr 0 (AX.t 25)) none 8 true false), (AOp.mk (some 27) (AK.fadr 7 (AX.t 26)) none 9 true false), (AOp.mk (some 28) (AK.ld none (AX.t 27)) none 10 true false), (AOp.mk (some 29) (AK.bin false BinOp.sub (AX.t 20) (AX.t 28)) none 11 true false), (AOp.mk (some 30) (AK.build [(PV.val (Value.int IntKind.i64 0)), (PV.val (Value.int IntKind.i64 0))] [(0, (1, (AX.t 19))), (1, (1, (AX.t 29)))]) none 12 true false), (AOp.mk (some 31) (AK.callv (AX.t 18) [(AX.t 30)]) none 13 false false), (AOp.mk (some 32) (AK.un UnOp.not (AX.t 31)) none 14 true false)]) (AC.cond (AX.t 32) AC.ret AC.skip)))) (AC.ops [(AOp.mk (some 33) (AK.bin false BinOp.add (AX.t 15) (AX.c (PV.val (Value.int IntKind.i64 1)))) none 0 false true), (AOp.mk (some 15) (AK.mv (AX.t 33)) none 1 false true)])))))))
theorem ac125_ok : cCode Try.prog (fun _ => false) Try.f125.ntmps (Try.f125.body.getD .skip) = some ac125 := by kernel_rfl
def leanL (b : SBook) (w : Int) : List (List PV) := (List.range (2 * b.lean + 1).toNat).map fun (q : Nat) => [.agg [pi w, pi (q - b.lean)]]
theorem leaning_it (k k2 ks kl : SK) (b : SBook) (ls : List SLoad) (w : Int) (hl : 0 ≤ b.lean ∧ b.lean ≤ 1000) : IterC Try.prog Fence.wide 125 [.yld, .ptr [.ptr [bookP k k2 ks b, .sl kl 3 (ls.map fun l => loadC l), .any] 0] 0, .ptr [pi w] 0] (leanL b w) := by
  refine iterC_of_exec' mixed Try.func125 (by kernel_rfl) (by kernel_rfl) ac125_ok 3 rfl (by decide) (by kernel_rfl) ?_
  intro C hC hI
  unfold ac125
  simp only [go_sem, Nat.reduceBEq, Nat.reduceAdd]
  rw [wrap_id (n := 2 * b.lean) (by omega) (by omega), wrap_id (n := 2 * b.lean + 1) (by omega) (by omega)]
  refine loop_nat (2 * b.lean + 1).toNat (fun _ => True) (fun (j : Nat) => ⟨[(15, .p (pi j)), (14, .p (pi (2 * b.lean + 1))), (0, .p .yld), (1, .p (.ptr [.ptr [bookP k k2 ks b, .sl kl 3 (ls.map fun l => loadC l), .any] 0] 0)), (2, .p (.ptr [pi w] 0))], [], [], some ((leanL b w).drop j), 0⟩) trivial (by simp [Wk, wkT, wkL, look, AV.lo]) ?_
  rintro j ⟨hj, -⟩
  simp only [go_sem, Nat.reduceBEq, Nat.reduceAdd, Nat.reduceLeDiff]
  refine ⟨fun h5 => ?_, fun h5 => ?_⟩
  · have hj2 : j < (2 * b.lean + 1).toNat := by omega
    have hd : (leanL b w).drop j = [.agg [pi w, pi (j - b.lean)]] :: (leanL b w).drop (j + 1) := by
      unfold leanL
      rw [List.drop_eq_getElem_cons (by simpa using hj2)]
      simp
    rw [hd]
    simp only [go_sem, Nat.reduceBEq, wrap_id (n := (j : Int) - b.lean) (by omega) (by omega), wrap_succ (k := j) (by omega), retI_ret]
    refine ⟨PVleL_refl _, ⟨j + 1, hj2, trivial⟩, by simp only; omega, ?_⟩
    exact by simp [Wk, wkT, wkL, look, AV.lo]
  · have hjn : j = (2 * b.lean + 1).toNat := by omega
    have hd : (leanL b w).drop j = [] := by
      unfold leanL
      exact List.drop_eq_nil_of_le (by simp; omega)
    rw [hd]
    exact .inl rfl
theorem leaning_sem (t : Bool) (bp : PV) (kl : SK) (ls : List SLoad) (m : List ((Int × Int) × Int)) (w : Int) (ys : Option (List (List PV))) :
    SemM Try.prog Fence.wide 109 [.loc 0 0, .p (pi w)] [horseB t bp kl ls, .mp (memoC m)] ys
      (fun v L' ys' => v = .clo 125 [] [.loc 2 0, .loc 3 0] ∧ ys' = ys ∧ L' = [horseB t bp kl ls, .mp (memoC m), .cells [.loc 0 0], .cells [.p (pi w)]]) := by
  refine semM_of_exec' mixed Try.func109 (by kernel_rfl) (by kernel_rfl) ac109_ok 2 rfl (by decide) [.tmp 4] (by kernel_rfl) ?_
  intro C hC hI
  unfold ac109
  simp only [go_sem, Nat.reduceBEq, Nat.reduceAdd]
  exact retMQ_one rfl ⟨rfl, rfl, rfl⟩
theorem retMQ_cell {P : Program} {t : Nat} {ty : TypeId} {n : Option Nat} {Q : AV → List ABlk → Option (List (List PV)) → Prop} {s : AS} {v : AV} (hs : shapeN P ty = some n) (h : stillV s (.ld n (.t t)) = some v) (hQ : Q v s.loc s.ys) : retMQ P [.cell t ty] Q s := ⟨[v], v, by simp [resA, hs, h], rfl, hQ⟩
theorem retMQ_cell2 {P : Program} {t t' : Nat} {ty ty' : TypeId} {n n' : Option Nat} {Q : AV → List ABlk → Option (List (List PV)) → Prop} {s : AS} {v v' w : AV} (hs : shapeN P ty = some n) (hs' : shapeN P ty' = some n') (h : stillV s (.ld n (.t t)) = some v) (h' : stillV s (.ld n' (.t t')) = some v') (hw : tupA [v, v'] = some w) (hQ : Q w s.loc s.ys) : retMQ P [.cell t ty, .cell t' ty'] Q s := ⟨[v, v'], w, by simp [resA, hs, hs', h, h'], hw, hQ⟩
def ac77 : AC := (AC.seq (AC.ops [(AOp.mk (some 2) (AK.box 1 (AX.t 0)) none 0 false true), (AOp.mk (some 4) (AK.new (PV.val (Value.bool false))) none 1 false true)]) (AC.seq (AC.seq (AC.ops [(AOp.mk (some 6) (AK.ld none (AX.t 2)) none 0 false true), (AOp.mk (some 7) (AK.mv (AX.t 1)) none 1 false true), (AOp.mk (some 8) (AK.call 109 [(AX.t 6), (AX.t 7)]) none 2 false true)]) (AC.block 0 (AC.rng (AX.t 8) [9] (AC.ops [(AOp.mk (some 5) (AK.new (PV.agg [(PV.val (Value.int IntKind.i64 0)), (PV.val (Value.int IntKind.i64 0))])) none 0 false true), (AOp.mk none (AK.st 2 (AX.t 5) (AX.t 9)) none 1 false true)]) (AC.block 1 (AC.seq (AC.ops [(AOp.mk (some 10) (AK.ld none (AX.t 2)) none 0 false true), (AOp.mk (some 11) (AK.ld (some 2) (AX.t 5)) none 1 false true), (AOp.mk (some 12) (AK.call 80 [(AX.t 10), (AX.t 11)]) none 2 false true)]) (AC.cond (AX.t 12) (AC.seq (AC.ops [(AOp.mk none (AK.st 1 (AX.t 4) (AX.c (PV.val (Value.bool false)))) none 0 false true)]) AC.ret) AC.skip)))))) (AC.seq (AC.ops [(AOp.mk none (AK.st 1 (AX.t 4) (AX.c (PV.val (Value.bool true)))) none 0 false true)]) AC.ret)))
theorem ac77_ok : cCode Try.prog (fun _ => false) Try.f77.ntmps (Try.f77.body.getD .skip) = some ac77 := by kernel_rfl
theorem noY_loads (ls : List SLoad) : noY.noYR (ls.map fun l => loadC l) = true := noYR_map (fun _ => rfl) _
theorem noY_lean (b : SBook) (w : Int) : noY.noYR (leanL b w) = true := noYR_map (fun _ => rfl) _
theorem len_lean (b : SBook) (w : Int) : ∀ y ∈ leanL b w, y.length = 1 := by
  intro y hy
  unfold leanL at hy
  rw [List.mem_map] at hy
  obtain ⟨q, _, rfl⟩ := hy
  rfl
theorem at_lean {b : SBook} {w : Int} {i : Nat} {y : List PV} (h : (leanL b w)[i]? = some y) : i < (2 * b.lean + 1).toNat ∧ y = [.agg [pi w, pi (i - b.lean)]] := by
  unfold leanL at h
  rw [List.getElem?_map, Option.map_eq_some_iff] at h
  obtain ⟨q, h1, h2⟩ := h
  obtain ⟨h3, h4⟩ := List.getElem?_eq_some_iff.1 h1
  rw [List.length_range] at h3
  rw [List.getElem_range] at h4
  subst h4
  exact ⟨h3, h2.symm⟩
/-- Can the horse tip with no lean? -/
def safeI (b : SBook) (ls : List SLoad) (w : Int) : Bool := (List.range (2 * b.lean + 1).toNat).all fun q => decide (countI b ls w (q - b.lean) = 0)
theorem memos_ok (b : SBook) (ls : List SLoad) (w : Int) (m : List ((Int × Int) × Int)) (hm : okMemo b ls m) (l : List Nat) : okMemo b ls (l.foldl (fun m (q : Nat) => memo b ls m w (q - b.lean)) m) := by
  induction l generalizing m with
  | nil => exact hm
  | cons x l ih => exact ih _ (memo_ok hm w _)
theorem safe_sem (t : Bool) (k k2 ks kl : SK) (b : SBook) (ls : List SLoad) (hh : HorseOk b ls) (m : List ((Int × Int) × Int)) (hm : okMemo b ls m) (w : Int) (hw : -1000 ≤ w ∧ w ≤ 1000) (hl : 0 ≤ b.lean ∧ b.lean ≤ 40) (ys : Option (List (List PV))) :
    SemM Try.prog Fence.wide 77 [.loc 0 0, .p (pi w)] [horseB t (bookP k k2 ks b) kl ls, .mp (memoC m)] ys
      (fun v L' ys' => v = .p (pb (safeI b ls w)) ∧ ys' = ys ∧ ∃ m', okMemo b ls m' ∧ L'.take 2 = [horseB true (bookP k k2 ks b) kl ls, .mp (memoC m')]) := by
  have hit := leaning_it k k2 ks kl b ls w ⟨hl.1, by omega⟩
  refine semM_of_exec' mixed Try.func77 (by kernel_rfl) (by kernel_rfl) ac77_ok 2 rfl (by decide) [.cell 4 4] (by kernel_rfl) ?_
  intro C hC hI
  unfold ac77
  simp only [go_sem, Nat.reduceBEq, Nat.reduceAdd]
  refine call_mem2 hC [0, 1] (leaning_sem t (bookP k k2 ks b) kl ls m w ys) rfl (by decide) ?_ ?_ ?_ rfl (by simp) ?_
  · simp only [List.map_cons, List.map_nil, ren_horse]; rfl
  · simp only [List.all_cons, List.all_nil, turn_horse]; rfl
  · simp only [List.all_cons, List.all_nil, List.length_cons, List.length_nil, Nat.zero_add, Nat.reduceAdd, lo_horse]; rfl
  · rintro v L' ys' ⟨rfl, rfl, rfl⟩ -
    simp only [go_sem, Nat.reduceAdd, ren_horse, mAt_nil]
    obtain ⟨L2, hL2⟩ : ∃ L2 : List ABlk, L2 = [horseB true (bookP k k2 ks b) kl ls, .mp (memoC m), .cells [.loc 0 0], .cells [.p (pb false)]] := ⟨_, rfl⟩
    refine rng_st ⟨.clo 125 [] [.ptr [.ptr [bookP k k2 ks b, .sl kl 3 (ls.map fun l => loadC l), .any] 0] 0, .ptr [pi w] 0], L2 ++ [.frz [.ptr [bookP k k2 ks b, .sl kl 3 (ls.map fun l => loadC l), .any] 0], .frz [pi w]], _, _, _, leanL b w,
      fun i => ⟨[(4, .loc 3 0), (2, .loc 2 0)], [horseB true (bookP k k2 ks b) kl ls, .mp (memoC ((List.range i).foldl (fun m (q : Nat) => memo b ls m w (q - b.lean)) m)), .cells [.loc 0 0], .cells [.p (pb false)]], [], ys', 2⟩, fun i => ∀ q, q < i → countI b ls w (q - b.lean) = 0, ?_, rfl, hI _ _ _ hit, ?_, len_lean b w, ?_, fun q hq => absurd hq (by omega), fun _ => ⟨rfl, rfl⟩, ?_, ?_⟩
    · rw [hL2]; cases t <;> rfl
    · simp [noY.noYL, noY_parts, noY_trials, noY_sides, noY_loads, noY_lean, noY]
    · rw [hL2]; simp [Wk, wkT, wkL, look, AV.lo, AV.lo.loL, horseB]
    · rintro i y hy hok
      obtain ⟨hi, rfl⟩ := at_lean hy
      obtain ⟨M, hM⟩ : ∃ M, (List.range i).foldl (fun m (q : Nat) => memo b ls m w (q - b.lean)) m = M := ⟨_, rfl⟩
      have hMok : okMemo b ls M := by
        rw [← hM]
        exact memos_ok b ls w m hm _
      have hMn : (List.range (i + 1)).foldl (fun m (q : Nat) => memo b ls m w (q - b.lean)) m = memo b ls M w (i - b.lean) := by
        rw [List.range_succ, List.foldl_append, hM]; rfl
      simp only [hM, hMn]
      simp only [go_sem, Nat.reduceBEq, Nat.reduceAdd]
      refine call_mem2 hC [0, 1] (canTip_sem true k k2 ks kl b ls hh M hMok w (i - b.lean) hw (by omega) ys') rfl (by decide) ?_ ?_ ?_ rfl (by simp) ?_
      · simp only [List.map_cons, List.map_nil, ren_horse]; rfl
      · simp only [List.all_cons, List.all_nil, turn_horse]; rfl
      · simp only [List.all_cons, List.all_nil, List.length_cons, List.length_nil, Nat.zero_add, Nat.reduceAdd, lo_horse]; rfl
      · rintro v L' ys2 ⟨rfl, rfl, hL⟩ -
        obtain ⟨X, rfl⟩ := take2 hL
        simp only [go_sem, Nat.reduceBEq, Nat.reduceAdd, ren_horse]
        refine ⟨fun h => ?_, fun h => ?_⟩
        · refine retMQ_cell (show shapeN Try.prog 4 = some none by kernel_rfl) rfl ⟨?_, rfl, _, memo_ok hMok w _, rfl⟩
          have : safeI b ls w = false := by
            unfold safeI
            rw [List.all_eq_false]
            exact ⟨i, List.mem_range.2 hi, by simp; omega⟩
          rw [this]
        · refine ⟨fun q hq => ?_, ?_⟩
          · rcases Nat.lt_or_ge q i with h1 | h1
            · exact hok q h1
            · have : q = i := by omega
              subst this
              omega
          · simp [Wk, wkT, wkL, look, AV.lo, AV.lo.loL, horseB]
    · intro hok
      simp only [go_sem, Nat.reduceBEq]
      refine retMQ_cell (show shapeN Try.prog 4 = some none by kernel_rfl) rfl ⟨?_, rfl, _, ?_, rfl⟩
      · have : safeI b ls w = true := by
          unfold safeI
          rw [List.all_eq_true]
          intro q hq
          have := List.mem_range.1 hq
          simp [hok q (by unfold leanL; simpa using this)]
        rw [this]
      · exact memos_ok b ls w m hm _
end Go.Proofs.Ytaejmbmkkdkliaa
namespace Go.Proofs.Ytaejmbmkkdkliaa
open Go.RowKit
def ac81 : AC := (AC.seq (AC.ops [(AOp.mk (some 4) (AK.new (PV.agg [(PV.val (Value.int IntKind.i64 0)), (PV.val (Value.int IntKind.i64 0))])) none 0 false true), (AOp.mk (some 5) (AK.new (PV.agg [(PV.val (Value.int IntKind.i64 0)), (PV.val (Value.int IntKind.i64 0))])) none 1 false true)]) (AC.seq (AC.ops [(AOp.mk (some 6) (AK.mv (AX.t 1)) none 0 true false), (AOp.mk (some 7) (AK.mv (AX.t 0)) none 1 true false), (AOp.mk (some 8) (AK.nilc (AX.t 7)) none 2 true false), (AOp.mk (some 9) (AK.fadr 0 (AX.t 8)) none 3 true false), (AOp.mk (some 10) (AK.ld none (AX.t 9)) none 4 true false), (AOp.mk (some 11) (AK.nilc (AX.t 10)) none 5 true false), (AOp.mk (some 12) (AK.fadr 0 (AX.t 11)) none 6 true false), (AOp.mk (some 13) (AK.fadr 7 (AX.t 12)) none 7 true false), (AOp.mk (some 14) (AK.ld none (AX.t 13)) none 8 true false), (AOp.mk (some 15) (AK.un UnOp.neg (AX.t 14)) none 9 true false), (AOp.mk (some 16) (AK.build [(PV.val (Value.int IntKind.i64 0)), (PV.val (Value.int IntKind.i64 0))] [(0, (1, (AX.t 6))), (1, (1, (AX.t 15)))]) none 10 true false), (AOp.mk (some 17) (AK.mv (AX.t 1)) none 11 true false), (AOp.mk (some 18) (AK.mv (AX.t 0)) none 12 true false), (AOp.mk (some 19) (AK.nilc (AX.t 18)) none 13 true false), (AOp.mk (some 20) (AK.fadr 0 (AX.t 19)) none 14 true false), (AOp.mk (some 21) (AK.ld none (AX.t 20)) none 15 true false), (AOp.mk (some 22) (AK.nilc (AX.t 21)) none 16 true false), (AOp.mk (some 23) (AK.fadr 0 (AX.t 22)) none 17 true false), (AOp.mk (some 24) (AK.fadr 7 (AX.t 23)) none 18 true false), (AOp.mk (some 25) (AK.ld none (AX.t 24)) none 19 true false), (AOp.mk (some 26) (AK.build [(PV.val (Value.int IntKind.i64 0)), (PV.val (Value.int IntKind.i64 0))] [(0, (1, (AX.t 17))), (1, (1, (AX.t 25)))]) none 20 true false), (AOp.mk none (AK.st 2 (AX.t 4) (AX.t 16)) none 21 false false), (AOp.mk none (AK.st 2 (AX.t 5) (AX.t 26)) none 22 false true)]) AC.ret))
theorem ac81_ok : cCode Try.prog (fun _ => false) Try.f81.ntmps (Try.f81.body.getD .skip) = some ac81 := by kernel_rfl
theorem ends_sem (t : Bool) (k k2 ks kl : SK) (b : SBook) (ls : List SLoad) (m : List ((Int × Int) × Int)) (w : Int) (hl : 0 ≤ b.lean ∧ b.lean ≤ 40) (ys : Option (List (List PV))) :
    SemM Try.prog Fence.wide 81 [.loc 0 0, .p (pi w)] [horseB t (bookP k k2 ks b) kl ls, .mp (memoC m)] ys
      (fun v L' ys' => v = .p (.tup [.agg (childC w (-b.lean)), .agg (childC w b.lean)]) ∧ ys' = ys ∧ L' = [horseB t (bookP k k2 ks b) kl ls, .mp (memoC m), .cells [.p (pi w), .p (pi (-b.lean))], .cells [.p (pi w), .p (pi b.lean)]]) := by
  refine semM_of_exec' mixed Try.func81 (by kernel_rfl) (by kernel_rfl) ac81_ok 2 rfl (by decide) [.cell 4 88, .cell 5 88] (by kernel_rfl) ?_
  intro C hC hI
  unfold ac81
  have hz : (0 : Int) - b.lean = -b.lean := by omega
  cases t
  · simp only [horseB, Bool.false_eq_true, if_false]
    simp only [go_sem, Nat.reduceBEq, Nat.reduceAdd, Nat.reduceLeDiff, Nat.reduceEqDiff, hz, wrap_id (n := -b.lean) (by omega) (by omega)]
    exact retMQ_cell2 (show shapeN Try.prog 88 = some (some 2) by kernel_rfl) (show shapeN Try.prog 88 = some (some 2) by kernel_rfl) rfl rfl rfl ⟨rfl, rfl, rfl⟩
  · simp only [horseB, if_true]
    simp only [go_sem, Nat.reduceBEq, Nat.reduceAdd, Nat.reduceLeDiff, hz, wrap_id (n := -b.lean) (by omega) (by omega)]
    exact retMQ_cell2 (show shapeN Try.prog 88 = some (some 2) by kernel_rfl) (show shapeN Try.prog 88 = some (some 2) by kernel_rfl) rfl rfl rfl ⟨rfl, rfl, rfl⟩
def ac86 : AC := (AC.seq (AC.ops [(AOp.mk (some 2) (AK.mv (AX.c (PV.val (Value.bool false)))) none 0 false true)]) (AC.seq (AC.seq (AC.ops [(AOp.mk (some 7) (AK.mv (AX.t 0)) none 0 false true), (AOp.mk (some 8) (AK.nilc (AX.t 7)) none 1 false true), (AOp.mk (some 9) (AK.fadr 0 (AX.t 8)) none 2 false true), (AOp.mk (some 10) (AK.ld none (AX.t 9)) none 3 false true), (AOp.mk (some 11) (AK.nilc (AX.t 10)) none 4 false true), (AOp.mk (some 12) (AK.fadr 0 (AX.t 11)) none 5 false true), (AOp.mk (some 13) (AK.fadr 8 (AX.t 12)) none 6 false true), (AOp.mk (some 14) (AK.ld none (AX.t 13)) none 7 false true), (AOp.mk (some 15) (AK.bslice false 3 1 2 [(PV.val (Value.int IntKind.i64 0))] [(0, (1, (AX.c (PV.val (Value.int IntKind.i64 1))))), (1, (1, (AX.t 14)))]) none 8 false true), (AOp.mk (some 16) (AK.len (AX.t 15)) none 9 false true), (AOp.mk (some 17) (AK.mv (AX.c (PV.val (Value.int IntKind.i64 0)))) none 10 false true)]) (AC.block 0 (AC.loop (AC.seq (AC.ops [(AOp.mk (some 18) (AK.bin false BinOp.lss (AX.t 17) (AX.t 16)) none 0 false true)]) (AC.seq (AC.cond (AX.t 18) AC.skip (AC.exit 0)) (AC.seq (AC.block 1 (AC.seq (AC.ops [(AOp.mk (some 19) (AK.iadrS 1 (AX.t 15) (AX.t 17)) none 0 false true), (AOp.mk (some 20) (AK.ld none (AX.t 19)) none 1 false true), (AOp.mk (some 4) (AK.mv (AX.t 20)) none 2 false true)]) (AC.seq (AC.ops [(AOp.mk (some 22) (AK.mv (AX.t 0)) none 0 false true), (AOp.mk (some 23) (AK.mv (AX.t 4)) none 1 false true), (AOp.mk (some 24) (AK.call 81 [(AX.t 22), (AX.t 23)]) none 2 false true), (AOp.mk (some 21) (AK.mv (AX.t 24)) none 3 false true), (AOp.mk (some 25) (AK.ext (AX.t 21) 0) none 4 false true), (AOp.mk (some 26) (AK.ext (AX.t 21) 1) none 5 false true), (AOp.mk (some 5) (AK.new (PV.agg [(PV.val (Value.int IntKind.i64 0)), (PV.val (Value.int IntKind.i64 0))])) none 6 false true), (AOp.mk (some 6) (AK.new (PV.agg [(PV.val (Value.int IntKind.i64 0)), (PV.val (Value.int IntKind.i64 0))])) none 7 false true), (AOp.mk none (AK.st 2 (AX.t 5) (AX.t 25)) none 8 false true), (AOp.mk none (AK.st 2 (AX.t 6) (AX.t 26)) none 9 false true)]) (AC.seq (AC.ops [(AOp.mk (some 27) (AK.mv (AX.t 0)) none 0 false true), (AOp.mk (some 28) (AK.ld (some 2) (AX.t 5)) none 1 false true), (AOp.mk (some 29) (AK.call 80 [(AX.t 27), (AX.t 28)]) none 2 false true), (AOp.mk (some 30) (AK.mv (AX.t 29)) none 3 false true), (AOp.mk (some 31) (AK.mv (AX.t 0)) (some (30, false)) 4 false true), (AOp.mk (some 32) (AK.ld (some 2) (AX.t 6)) (some (30, false)) 5 false true), (AOp.mk (some 33) (AK.call 80 [(AX.t 31), (AX.t 32)]) (some (30, false)) 6 false true), (AOp.mk (some 34) (AK.pick (AX.t 30) (AX.c (PV.val (Value.bool true))) (AX.t 33)) none 7 false true)]) (AC.cond (AX.t 34) (AC.seq (AC.ops [(AOp.mk (some 2) (AK.mv (AX.c (PV.val (Value.bool false)))) none 0 false true)]) AC.ret) AC.skip))))) (AC.ops [(AOp.mk (some 35) (AK.bin false BinOp.add (AX.t 17) (AX.c (PV.val (Value.int IntKind.i64 1)))) none 0 false true), (AOp.mk (some 17) (AK.mv (AX.t 35)) none 1 false true)]))))))) (AC.seq (AC.ops [(AOp.mk (some 2) (AK.mv (AX.c (PV.val (Value.bool true)))) none 0 false true)]) AC.ret)))
theorem ac86_ok : cCode Try.prog (fun _ => false) Try.f86.ntmps (Try.f86.body.getD .skip) = some ac86 := by kernel_rfl
/-- Are the ends of a weight safe? -/
def endsI (b : SBook) (ls : List SLoad) (w : Int) : Bool := decide (countI b ls w (-b.lean) = 0 ∧ countI b ls w b.lean = 0)
def safeAllI (b : SBook) (ls : List SLoad) : Bool := endsI b ls 1 && endsI b ls b.limit
def wAt (b : SBook) (j : Nat) : Int := if j = 0 then 1 else b.limit
def memoE (b : SBook) (ls : List SLoad) (m : List ((Int × Int) × Int)) : Nat → List ((Int × Int) × Int)
  | 0 => m
  | j + 1 => memo b ls (memo b ls (memoE b ls m j) (wAt b j) (-b.lean)) (wAt b j) b.lean
theorem memoE_ok (b : SBook) (ls : List SLoad) (m : List ((Int × Int) × Int)) (hm : okMemo b ls m) : ∀ j, okMemo b ls (memoE b ls m j)
  | 0 => hm
  | j + 1 => memo_ok (memo_ok (memoE_ok b ls m hm j) _ _) _ _
theorem ends_false {b : SBook} {ls : List SLoad} {j : Nat} (hj : j < 2) (h : endsI b ls (wAt b j) = false) : safeAllI b ls = false := by
  unfold safeAllI
  rcases (show j = 0 ∨ j = 1 by omega) with rfl | rfl
  · rw [show endsI b ls 1 = false from h]; rfl
  · rw [show endsI b ls b.limit = false from h, Bool.and_false]
theorem safeForAll_sem (t : Bool) (k k2 ks kl : SK) (b : SBook) (ls : List SLoad) (hh : HorseOk b ls) (m : List ((Int × Int) × Int)) (hm : okMemo b ls m) (hw : -1000 ≤ b.limit ∧ b.limit ≤ 1000) (hl : 0 ≤ b.lean ∧ b.lean ≤ 40) (ys : Option (List (List PV))) :
    SemM Try.prog Fence.wide 86 [.loc 0 0] [horseB t (bookP k k2 ks b) kl ls, .mp (memoC m)] ys
      (fun v L' ys' => v = .p (pb (safeAllI b ls)) ∧ ys' = ys ∧ ∃ m', okMemo b ls m' ∧ L'.take 2 = [horseB t (bookP k k2 ks b) kl ls, .mp (memoC m')]) := by
  refine semM_of_exec' mixed Try.func86 (by kernel_rfl) (by kernel_rfl) ac86_ok 1 rfl (by decide) [.tmp 2] (by kernel_rfl) ?_
  intro C hC hI
  unfold ac86
  obtain ⟨u, hu⟩ : ∃ u, u = t := ⟨_, rfl⟩
  cases t
  all_goals
    simp only [horseB, if_true, Bool.false_eq_true, if_false]
    simp only [go_sem, Nat.reduceBEq, Nat.reduceAdd, Nat.reduceLeDiff]
    refine loop_nat 2 (fun j => ∀ q, q < j → endsI b ls (wAt b q) = true) (fun (j : Nat) => ⟨[(17, .p (pi j)), (16, .p (pi 2)), (15, .p (.sl .full 1 [[pi 1], [pi b.limit]])), (0, .loc 0 0)], [horseB u (bookP k k2 ks b) kl ls, .mp (memoC (memoE b ls m j))], [], ys, 2⟩) (fun q hq => absurd hq (by omega)) (by subst hu; simp [Wk, wkT, wkL, look, AV.lo, AV.lo.loL, horseB, memoE]) ?_
    rintro j ⟨hj, hok⟩
    have hMok := memoE_ok b ls m hm j
    have hMs : memoE b ls m (j + 1) = memo b ls (memo b ls (memoE b ls m j) (wAt b j) (-b.lean)) (wAt b j) b.lean := rfl
    obtain ⟨M, hM⟩ : ∃ M, memoE b ls m j = M := ⟨_, rfl⟩
    rw [hM] at hMok hMs
    simp only [hM]
    simp only [go_sem, Nat.reduceBEq]
    refine ⟨fun h5 => ?_, fun h5 => ?_⟩
    · have hj2 : j < 2 := by omega
      have hia : iadrS' 1 (.p (.sl .full 1 [[pi 1], [pi b.limit]])) (.p (pi j)) = some (.p (.ptr [pi (wAt b j)] 0)) := by
        rcases (show j = 0 ∨ j = 1 by omega) with rfl | rfl <;> rfl
      have hwj : -1000 ≤ wAt b j ∧ wAt b j ≤ 1000 := by unfold wAt; split <;> omega
      simp only [go_sem, Nat.reduceBEq, hia]
      refine call_mem2 hC [0, 1] (ends_sem u k k2 ks kl b ls M (wAt b j) hl ys) rfl (by decide) ?_ ?_ ?_ rfl (by simp) ?_
      · simp only [List.map_cons, List.map_nil, ren_horse]; rfl
      · simp only [List.all_cons, List.all_nil, turn_horse]; rfl
      · simp only [List.all_cons, List.all_nil, List.length_cons, List.length_nil, Nat.zero_add, Nat.reduceAdd, lo_horse]; rfl
      rintro v L' ys' ⟨rfl, rfl, rfl⟩ -
      simp only [go_sem, Nat.reduceBEq, Nat.reduceAdd, ren_horse]
      refine call_mem2 hC [0, 1] (canTip_sem u k k2 ks kl b ls hh M hMok (wAt b j) (-b.lean) hwj (by omega) ys') rfl (by decide) ?_ ?_ ?_ rfl (by simp) ?_
      · simp only [List.map_cons, List.map_nil, ren_horse]; rfl
      · simp only [List.all_cons, List.all_nil, turn_horse]; rfl
      · simp only [List.all_cons, List.all_nil, List.length_cons, List.length_nil, Nat.zero_add, Nat.reduceAdd, lo_horse]; rfl
      rintro v L' ys' ⟨rfl, rfl, hL2⟩ -
      obtain ⟨X2, rfl⟩ := take2 hL2
      by_cases h6 : (0 : Int) < countI b ls (wAt b j) (-b.lean)
      · rw [decide_eq_true h6]
        simp only [go_sem, Nat.reduceBEq, Nat.reduceAdd, ren_horse]
        exact retMQ_one rfl ⟨by rw [ends_false hj2 (by unfold endsI; simp; omega)]; rfl, rfl, _, memo_ok hMok _ _, by subst hu; rfl⟩
      · rw [decide_eq_false h6]
        simp only [go_sem, Nat.reduceBEq, Nat.reduceAdd, ren_horse]
        refine call_mem2 hC [0, 1] (canTip_sem u k k2 ks kl b ls hh (memo b ls M (wAt b j) (-b.lean)) (memo_ok hMok _ _) (wAt b j) b.lean hwj (by omega) ys') rfl (by decide) ?_ ?_ ?_ rfl (by simp) ?_
        · simp only [List.map_cons, List.map_nil, ren_horse]; rfl
        · simp only [List.all_cons, List.all_nil, turn_horse]; rfl
        · simp only [List.all_cons, List.all_nil, List.length_cons, List.length_nil, Nat.zero_add, Nat.reduceAdd, lo_horse]; rfl
        rintro v L' ys' ⟨rfl, rfl, hL3⟩ -
        obtain ⟨X3, rfl⟩ := take2 hL3
        simp only [go_sem, Nat.reduceBEq, ren_horse]
        refine ⟨fun h7 => ?_, fun h7 => ?_⟩
        · exact retMQ_one rfl ⟨by rw [ends_false hj2 (by unfold endsI; simp; omega)]; rfl, rfl, _, memo_ok (memo_ok hMok _ _) _ _, by subst hu; rfl⟩
        · simp only [go_sem, wrap_succ (k := j) (by omega)]
          refine ⟨⟨j + 1, hj2, fun q hq => ?_⟩, by simp only; omega, ?_⟩
          · rcases Nat.lt_or_ge q j with h1 | h1
            · exact hok q h1
            · have : q = j := by omega
              subst this
              unfold endsI
              simp only [decide_eq_true_eq]
              omega
          · rw [hMs]
            subst hu
            simp [Wk, wkT, wkL, look, AV.lo, AV.lo.loL, horseB]
    · have hjn : j = 2 := by omega
      subst hjn
      refine retMQ_one rfl ⟨?_, rfl, M, hMok, by subst hu; rfl⟩
      have h0 := hok 0 (by omega)
      have h1 := hok 1 (by omega)
      unfold safeAllI
      rw [show (1 : Int) = wAt b 0 from rfl, show b.limit = wAt b 1 from rfl, h0, h1]; rfl
end Go.Proofs.Ytaejmbmkkdkliaa
namespace Go.Proofs.Ytaejmbmkkdkliaa
open Go.RowKit
def ac82 : AC := (AC.seq (AC.ops [(AOp.mk (some 5) (AK.box 2 (AX.t 1)) none 0 false true), (AOp.mk (some 6) (AK.box 2 (AX.t 2)) none 1 false true), (AOp.mk (some 8) (AK.mv (AX.c (PV.val (Value.int IntKind.i64 0)))) none 2 false true)]) (AC.seq (AC.block 0 (AC.loop (AC.seq (AC.seq (AC.ops [(AOp.mk (some 10) (AK.ld (some 2) (AX.t 5)) none 0 false true), (AOp.mk (some 11) (AK.ld (some 2) (AX.t 6)) none 1 false true), (AOp.mk (some 12) (AK.eqs [CK.i, CK.i] true (AX.t 10) (AX.t 11)) none 2 false true)]) (AC.cond (AX.t 12) AC.skip (AC.exit 0))) (AC.block 1 (AC.seq (AC.ops [(AOp.mk (some 13) (AK.fadr 0 (AX.t 5)) none 0 false true), (AOp.mk (some 14) (AK.ld none (AX.t 13)) none 1 false true), (AOp.mk (some 15) (AK.fadr 1 (AX.t 5)) none 2 false true), (AOp.mk (some 16) (AK.ld none (AX.t 15)) none 3 false true), (AOp.mk (some 17) (AK.mv (AX.t 3)) none 4 false true), (AOp.mk (some 18) (AK.bin false BinOp.add (AX.t 16) (AX.t 17)) none 5 false true), (AOp.mk (some 19) (AK.build [(PV.val (Value.int IntKind.i64 0)), (PV.val (Value.int IntKind.i64 0))] [(0, (1, (AX.t 14))), (1, (1, (AX.t 18)))]) none 6 false true), (AOp.mk (some 9) (AK.new (PV.agg [(PV.val (Value.int IntKind.i64 0)), (PV.val (Value.int IntKind.i64 0))])) none 7 false true), (AOp.mk none (AK.st 2 (AX.t 9) (AX.t 19)) none 8 false true)]) (AC.seq (AC.seq (AC.ops [(AOp.mk (some 20) (AK.mv (AX.t 0)) none 0 false true), (AOp.mk (some 21) (AK.ld (some 2) (AX.t 9)) none 1 false true), (AOp.mk (some 22) (AK.call 80 [(AX.t 20), (AX.t 21)]) none 2 false true)]) (AC.cond (AX.t 22) (AC.exit 0) AC.skip)) (AC.ops [(AOp.mk (some 23) (AK.ld (some 2) (AX.t 9)) none 0 false true), (AOp.mk none (AK.st 2 (AX.t 5) (AX.t 23)) none 1 false true)]))))))) (AC.seq (AC.ops [(AOp.mk (some 24) (AK.fadr 1 (AX.t 5)) none 0 false true), (AOp.mk (some 25) (AK.ld none (AX.t 24)) none 1 false true), (AOp.mk (some 8) (AK.mv (AX.t 25)) none 2 false true)]) AC.ret)))
theorem ac82_ok : cCode Try.prog (fun _ => false) Try.f82.ntmps (Try.f82.body.getD .skip) = some ac82 := by kernel_rfl
/-- The farthest lean on the way, of k steps. -/
def farI (b : SBook) (ls : List SLoad) (w s : Int) : Nat → Int → Int
  | 0, n => n
  | k + 1, n => if (0 : Int) < countI b ls w (n + s) then n else farI b ls w s k (n + s)
def memoF (b : SBook) (ls : List SLoad) (m : List ((Int × Int) × Int)) (w n s : Int) : Nat → List ((Int × Int) × Int)
  | 0 => m
  | j + 1 => memo b ls (memoF b ls m w n s j) w (n + s * j + s)
theorem memoF_ok (b : SBook) (ls : List SLoad) (m : List ((Int × Int) × Int)) (hm : okMemo b ls m) (w n s : Int) : ∀ j, okMemo b ls (memoF b ls m w n s j)
  | 0 => hm
  | j + 1 => memo_ok (memoF_ok b ls m hm w n s j) _ _
theorem farthest_sem (t : Bool) (k k2 ks kl : SK) (b : SBook) (ls : List SLoad) (hh : HorseOk b ls) (m : List ((Int × Int) × Int)) (hm : okMemo b ls m) (w n s e : Int) (q : Nat) (he : e = n + s * q) (hw : -1000 ≤ w ∧ w ≤ 1000) (hs : s = 1 ∨ s = -1) (hn : -40 ≤ n - q ∧ n + q ≤ 40) (ys : Option (List (List PV))) :
    SemM Try.prog Fence.wide 82 [.loc 0 0, .p (.agg (childC w n)), .p (.agg (childC w e)), .p (pi s)] [horseB t (bookP k k2 ks b) kl ls, .mp (memoC m)] ys
      (fun v L' ys' => v = .p (pi (farI b ls w s q n)) ∧ ys' = ys ∧ ∃ m', okMemo b ls m' ∧ L'.take 2 = [horseB t (bookP k k2 ks b) kl ls, .mp (memoC m')]) := by
  subst he
  refine semM_of_exec' mixed Try.func82 (by kernel_rfl) (by kernel_rfl) ac82_ok 4 rfl (by decide) [(.tmp 8)] (by kernel_rfl) ?_
  intro C hC hI
  unfold ac82
  simp only [go_sem, Nat.reduceBEq, Nat.reduceAdd]
  refine loop_nat q (fun j => farI b ls w s q n = farI b ls w s (q - j) (n + s * j)) (fun (j : Nat) => ⟨[(5, .loc 2 0), (6, .loc 3 0), (0, .loc 0 0), (3, .p (pi s))], [horseB t (bookP k k2 ks b) kl ls, .mp (memoC (memoF b ls m w n s j)), .cells [.p (pi w), .p (pi (n + s * j))], .cells [.p (pi w), .p (pi (n + s * q))]], [], ys, 2⟩) (by simp) (by cases t <;> simp [Wk, wkT, wkL, look, AV.lo, AV.lo.loL, horseB, memoF]) ?_
  rintro j ⟨hj, hok⟩
  have hMok := memoF_ok b ls m hm w n s j
  have hMs : memoF b ls m w n s (j + 1) = memo b ls (memoF b ls m w n s j) w (n + s * j + s) := rfl
  obtain ⟨M, hM⟩ : ∃ M, memoF b ls m w n s j = M := ⟨_, rfl⟩
  rw [hM] at hMok hMs
  simp only [hM]
  have hr : -40 ≤ n + s * j ∧ n + s * j ≤ 40 := by rcases hs with rfl | rfl <;> omega
  simp only [go_sem, Nat.reduceBEq, Nat.reduceAdd, Nat.reduceLeDiff]
  refine ⟨fun h5 => ?_, fun h5 => ?_⟩
  · have hjq : j < q := by
      rcases Nat.lt_or_ge j q with h | h
      · exact h
      · exact absurd (by rw [show j = q by omega]) h5
    have hr2 : -40 ≤ n + s * j + s ∧ n + s * j + s ≤ 40 := by rcases hs with rfl | rfl <;> omega
    have hf : farI b ls w s (q - j) (n + s * j) = if (0 : Int) < countI b ls w (n + s * j + s) then n + s * j else farI b ls w s (q - (j + 1)) (n + s * j + s) := by
      rw [show q - j = (q - (j + 1)) + 1 by omega]; rfl
    rw [wrap_id (n := n + s * j + s) (by omega) (by omega)]
    refine call_mem2 hC [0, 1] (canTip_sem t k k2 ks kl b ls hh M hMok w (n + s * j + s) hw hr2 ys) rfl (by decide) ?_ ?_ ?_ rfl (by simp) ?_
    · simp only [List.map_cons, List.map_nil, ren_horse]; rfl
    · simp only [List.all_cons, List.all_nil, turn_horse]; rfl
    · simp only [List.all_cons, List.all_nil, List.length_cons, List.length_nil, Nat.zero_add, Nat.reduceAdd, lo_horse]; rfl
    rintro v L' ys' ⟨rfl, rfl, hL⟩ -
    obtain ⟨X, rfl⟩ := take2 hL
    simp only [go_sem, Nat.reduceBEq, Nat.reduceAdd, ren_horse]
    refine ⟨fun h6 => ?_, fun h6 => ?_⟩
    · exact retMQ_one rfl ⟨by rw [hok, hf, if_pos h6]; rfl, rfl, _, memo_ok hMok _ _, rfl⟩
    · rw [if_neg h6] at hf
      refine ⟨⟨j + 1, hjq, ?_⟩, by simp only; omega, ?_⟩
      · rw [hok, hf]
        rw [show n + s * ((j + 1 : Nat) : Int) = n + s * j + s by rcases hs with rfl | rfl <;> omega]
      · rw [hMs, show n + s * ((j + 1 : Nat) : Int) = n + s * j + s by rcases hs with rfl | rfl <;> omega]
        cases t <;> simp [Wk, wkT, wkL, look, AV.lo, AV.lo.loL, horseB]
  · have hjq : j = q := by
      rcases hs with rfl | rfl <;> omega
    subst hjq
    simp only [go_sem]
    exact retMQ_one rfl ⟨by rw [Nat.sub_self] at hok; rw [hok]; rfl, rfl, _, hMok, rfl⟩
end Go.Proofs.Ytaejmbmkkdkliaa
namespace Go.Proofs.Ytaejmbmkkdkliaa
open Go.RowKit
def ac104 : AC := (AC.seq (AC.ops [(AOp.mk (some 1) (AK.box 1 (AX.t 0)) none 0 false true), (AOp.mk (some 2) (AK.mv (AX.c PV.nilp)) none 1 false true)]) (AC.seq (AC.ops [(AOp.mk (some 5) (AK.ld none (AX.t 1)) none 0 false true), (AOp.mk (some 6) AK.mkm none 1 false true), (AOp.mk (some 7) (AK.build [PV.nilp, (PV.sl SK.full 0 []), PV.any] [(0, (1, (AX.t 5))), (2, (1, (AX.t 6)))]) none 2 false true), (AOp.mk (some 8) (AK.box 3 (AX.t 7)) none 3 false true), (AOp.mk (some 3) (AK.new PV.nilp) none 4 false true), (AOp.mk none (AK.st 1 (AX.t 3) (AX.t 8)) none 5 false true)]) (AC.seq (AC.seq (AC.ops [(AOp.mk (some 9) (AK.ld none (AX.t 1)) none 0 false true), (AOp.mk (some 10) (AK.call 111 [(AX.t 9)]) none 1 false true)]) (AC.block 0 (AC.rng (AX.t 10) [11] (AC.ops [(AOp.mk (some 4) (AK.new (PV.agg [(PV.val (Value.int IntKind.i64 0)), (PV.val (Value.int IntKind.i64 0)), (PV.val (Value.int IntKind.i64 0)), (PV.val (Value.int IntKind.i64 0))])) none 0 false true), (AOp.mk none (AK.st 4 (AX.t 4) (AX.t 11)) none 1 false true)]) (AC.block 1 (AC.ops [(AOp.mk (some 12) (AK.ld none (AX.t 3)) none 0 true false), (AOp.mk (some 13) (AK.ld none (AX.t 3)) none 1 true false), (AOp.mk (some 14) (AK.nilc (AX.t 13)) none 2 true false), (AOp.mk (some 15) (AK.fadr 1 (AX.t 14)) none 3 true false), (AOp.mk (some 16) (AK.ld none (AX.t 15)) none 4 true false), (AOp.mk (some 17) (AK.ld none (AX.t 1)) none 5 true false), (AOp.mk (some 18) (AK.ld (some 4) (AX.t 4)) none 6 true false), (AOp.mk (some 19) (AK.call 120 [(AX.t 17), (AX.t 18)]) none 7 false false), (AOp.mk (some 20) (AK.bslice false 131 3 1 [(PV.val (Value.int IntKind.i64 0)), (PV.val (Value.int IntKind.i64 0)), (PV.val (Value.int IntKind.i64 0))] [(0, (3, (AX.t 19)))]) none 8 false false), (AOp.mk (some 21) (AK.app false 131 3 24 [(PV.val (Value.int IntKind.i64 0)), (PV.val (Value.int IntKind.i64 0)), (PV.val (Value.int IntKind.i64 0))] (AX.t 16) (AX.t 20)) none 9 false false), (AOp.mk (some 22) (AK.nilc (AX.t 12)) none 10 true false), (AOp.mk (some 23) (AK.fadr 1 (AX.t 22)) none 11 true false), (AOp.mk none (AK.st 1 (AX.t 23) (AX.t 21)) none 12 false true)]))))) (AC.seq (AC.ops [(AOp.mk (some 24) (AK.ld none (AX.t 3)) none 0 false true), (AOp.mk (some 2) (AK.mv (AX.t 24)) none 1 false true)]) AC.ret))))
theorem ac104_ok : cCode Try.prog (fun _ => false) Try.f104.ntmps (Try.f104.body.getD .skip) = some ac104 := by kernel_rfl
/-- The loads of all truths. -/
def loadsI (b : SBook) : List SLoad := (truthL b).map (loadW b.parts)
def slL (o : Option Nat) (ls : List SLoad) : PV :=
  match o with
  | none => .sl .full 0 []
  | some t => .sl (.own t 131 3) 3 (ls.map fun l => loadC l)
theorem newHorse_sem (k k2 ks : SK) (b : SBook) (hb : Fit b) (hp : 0 < b.parts.length) (hn : (truthL b).length ≤ 1000000) (hne : truthL b ≠ []) (ys : Option (List (List PV))) :
    SemM Try.prog Fence.wide 104 [.p (bookP k k2 ks b)] [] ys
      (fun v L' ys' => v = .loc 2 0 ∧ ys' = ys ∧ ∃ kl, L' = [.cells [.p (bookP k k2 ks b)], .mp (memoC []), horseB false (bookP k k2 ks b) kl (loadsI b), .cells [.loc 2 0]]) := by
  have hit := truths_it k k2 ks b hb hp
  refine semM_of_exec' mixed Try.func104 (by kernel_rfl) (by kernel_rfl) ac104_ok 1 rfl (by decide) [(.tmp 2)] (by kernel_rfl) ?_
  intro C hC hI
  unfold ac104
  simp only [go_sem, Nat.reduceBEq, Nat.reduceAdd, Nat.reduceLeDiff]
  refine call_pure2 hC (truths_sem k k2 ks b) rfl (PVleL_refl _) ?_
  rintro r rfl
  simp only [go_sem]
  refine rng_ix (ι := Option Nat) _ _ _ _ _ (yC (truthL b)) [(3, .loc 3 0), (1, .loc 0 0)] (fun i o => ⟨[(3, .loc 3 0), (1, .loc 0 0)], [.cells [.p (bookP k k2 ks b)], .mp (memoC []), .cells [.p (bookP k k2 ks b), .p (slL o ((loadsI b).take i)), .mpl 1], .cells [.loc 2 0]], o.toList, ys, 0⟩) (fun i o => o = none → i = 0) none rfl rfl (hI _ _ _ hit) ?_ (len_yC _) (by simp [Wk, wkT, wkL, look, AV.lo, AV.lo.loL, slL, memoC]) (fun _ => rfl) (fun _ _ => ⟨rfl, rfl⟩) ?_ ?_
  · simp [noY.noYL, noY_parts, noY_trials, noY_sides, noY_yC, noY]
  · rintro i y o hy ho
    obtain ⟨ws, h1, rfl⟩ := at_yC hy
    have hws := truthL_ok hb ws (List.mem_of_getElem? h1)
    have hlen : i < (loadsI b).length := by unfold loadsI; rw [List.length_map]; exact (List.getElem?_eq_some_iff.1 h1).1
    have hnx : (loadsI b).take (i + 1) = (loadsI b).take i ++ [loadW b.parts ws] := by
      have he : (loadsI b)[i]? = some (loadW b.parts ws) := by unfold loadsI; rw [List.getElem?_map, h1]; rfl
      rw [List.take_succ_eq_append_getElem hlen, (List.getElem?_eq_some_iff.1 he).2]
    have hld := load_sem k k2 ks b ws hws.1 hb.few hb.parts hws.2
    obtain ⟨ls, hls⟩ : ∃ ls, (loadsI b).take i = ls := ⟨_, rfl⟩
    rw [hls] at hnx
    simp only [hls]
    obtain ⟨w0, w1, w2, w3, rfl⟩ := four hws.1
    cases o with
    | none =>
      simp only [slL]
      simp only [go_sem, Nat.reduceBEq, Nat.reduceAdd, Nat.reduceEqDiff]
      refine call_pure2 hC (hld) rfl (PVleL_refl _) ?_
      rintro r rfl
      simp only [go_sem, Nat.reduceBEq, Nat.reduceAdd, Nat.reduceLeDiff, Nat.reduceEqDiff]
      have h0 := ho rfl
      subst h0
      have hle : ls = [] := by rw [← hls]; rfl
      subst hle
      intro t _
      refine ⟨some t, by simp, ?_⟩
      simp only [hnx]
      exact by simp [Wk, wkT, wkL, look, AV.lo, AV.lo.loL]
    | some t =>
      simp only [slL]
      simp only [go_sem, Nat.reduceBEq, Nat.reduceAdd, Nat.reduceEqDiff]
      refine call_pure2 hC (hld) rfl (PVleL_refl _) ?_
      rintro r rfl
      simp only [go_sem, Nat.reduceBEq, Nat.reduceAdd, Nat.reduceLeDiff, Nat.reduceEqDiff]
      have hll : ls.length ≤ i := by rw [← hls, List.length_take]; omega
      have hlm : i < (truthL b).length := (List.getElem?_eq_some_iff.1 h1).1
      refine ⟨by rw [List.length_map]; omega, by simp, fun t2 _ => ⟨some t2, by simp, ?_⟩⟩
      simp only [hnx, List.map_append]
      simp [Wk, wkT, wkL, look, AV.lo, AV.lo.loL]
  · rintro o ho
    have hlen : (yC (truthL b)).length = (loadsI b).length := by simp [yC, loadsI]
    cases o with
    | none =>
      have := ho rfl
      exact absurd (List.eq_nil_of_length_eq_zero (by simpa [yC] using this)) hne
    | some t =>
      rw [hlen, List.take_length]
      simp only [go_sem, Nat.reduceBEq]
      exact retMQ_one rfl ⟨rfl, rfl, _, rfl⟩
end Go.Proofs.Ytaejmbmkkdkliaa
