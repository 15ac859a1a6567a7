/- Contracts of stand: the fewest wrong trials. Contracts of what is shared: lists and sets. Contracts of stand: Tips and Margin, for any book. -/
import Derived.Test.YtaejmbmkkdkliaaGa20
import Derived.Test.YtaejmbmkkdkliaaGa19
namespace Go.Proofs.Ytaejmbmkkdkliaa
open Go.RowKit
theorem call_pureF {P : Program} {C : Con} (hC : ∀ f args rd K s, SemP P Fence.wide f args rd K s → C.call f args rd K s) {f : FuncId} {args : List AV} {l l2 : List PV} {L' : List ABlk} {rd : List Nat} {Q : PV → Prop} {K : AV → AS → Prop} {s : AS} (h : SemC P f l2 Q) (hp : purArgs s args = some (l, L')) (hle : PVleL l l2) (hK : ∀ r, Q r → K (.p r) { s with loc := L' }) : C.call f args rd K s :=
  hC _ _ _ _ _ (sem_pure open_wide h hp hle hK)
theorem purA_one {s : AS} {x : AV} {y : PV} {L' : List ABlk} (h : pur 100 s.loc x = some (y, L')) : purArgs s [x] = some ([y], L') := by
  simp [purArgs, purArgs.purV, h]
theorem retQ_two_le {P : Program} {t u : Nat} {R : PV → Prop} {s : AS} {x y x' y' : PV} (h : look s.t t = .p x) (h2 : look s.t u = .p y) (h3 : PVle x x') (h4 : PVle y y') (hR : R (.tup [x', y'])) : retQ P [.tmp t, .tmp u] R s :=
  ⟨[.p x, .p y], [x, y], s.loc, .tup [x', y'], by simp [resA, h, h2], rfl, PVle.tup ⟨h3, h4, trivial⟩, hR⟩
def ac89 : AC := (AC.seq (AC.ops [(AOp.mk (some 1) (AK.box 1 (AX.t 0)) none 0 false true), (AOp.mk (some 2) (AK.mv (AX.c (PV.sl SK.full 0 []))) none 1 false true)]) (AC.seq (AC.ops [(AOp.mk (some 8) (AK.ld none (AX.t 1)) none 0 false true), (AOp.mk (some 9) (AK.nilc (AX.t 8)) none 1 false true), (AOp.mk (some 10) (AK.fadr 0 (AX.t 9)) none 2 false true), (AOp.mk (some 11) (AK.ld (some 10) (AX.t 10)) none 3 false true), (AOp.mk (some 12) (AK.call 61 [(AX.t 11)]) none 4 false true), (AOp.mk (some 3) (AK.mv (AX.t 12)) none 5 false true)]) (AC.seq (AC.ops [(AOp.mk (some 13) (AK.mv (AX.t 3)) none 0 false true), (AOp.mk (some 14) (AK.nilc (AX.t 13)) none 1 false true), (AOp.mk (some 15) (AK.fadr 0 (AX.t 14)) none 2 false true), (AOp.mk (some 16) (AK.fadr 9 (AX.t 15)) none 3 false true), (AOp.mk none (AK.st 1 (AX.t 16) (AX.c (PV.sl SK.full 0 []))) none 4 false true)]) (AC.seq (AC.ops [(AOp.mk (some 4) (AK.new (PV.sl SK.full 0 [])) none 0 false true)]) (AC.seq (AC.ops [(AOp.mk (some 5) (AK.new (PV.val (Value.bool false))) none 0 false true), (AOp.mk none (AK.st 1 (AX.t 5) (AX.c (PV.val (Value.bool false)))) none 1 false true)]) (AC.seq (AC.seq (AC.ops [(AOp.mk (some 17) (AK.mv (AX.t 3)) none 0 false true), (AOp.mk (some 18) (AK.call 111 [(AX.t 17)]) none 1 false true)]) (AC.block 0 (AC.rng (AX.t 18) [19] (AC.ops [(AOp.mk (some 6) (AK.new (PV.agg [(PV.val (Value.int IntKind.i64 0)), (PV.val (Value.int IntKind.i64 0)), (PV.val (Value.int IntKind.i64 0)), (PV.val (Value.int IntKind.i64 0))])) none 0 false true), (AOp.mk none (AK.st 4 (AX.t 6) (AX.t 19)) none 1 false true)]) (AC.block 1 (AC.seq (AC.ops [(AOp.mk (some 20) (AK.ld none (AX.t 1)) none 0 false true), (AOp.mk (some 21) (AK.ld (some 4) (AX.t 6)) none 1 false true), (AOp.mk (some 22) (AK.call 112 [(AX.t 20), (AX.t 21)]) none 2 false true), (AOp.mk (some 7) (AK.mv (AX.t 22)) none 3 false true)]) (AC.seq (AC.ops [(AOp.mk (some 23) (AK.ld none (AX.t 5)) none 0 false true), (AOp.mk (some 24) (AK.un UnOp.not (AX.t 23)) none 1 false true), (AOp.mk (some 25) (AK.mv (AX.t 24)) none 2 false true), (AOp.mk (some 26) (AK.mv (AX.t 7)) (some (25, false)) 3 false true), (AOp.mk (some 27) (AK.ld none (AX.t 4)) (some (25, false)) 4 false true), (AOp.mk (some 28) (AK.call 113 [(AX.t 26), (AX.t 27)]) (some (25, false)) 5 false true), (AOp.mk (some 29) (AK.pick (AX.t 25) (AX.c (PV.val (Value.bool true))) (AX.t 28)) none 6 false true)]) (AC.cond (AX.t 29) (AC.ops [(AOp.mk (some 30) (AK.mv (AX.t 7)) none 0 false true), (AOp.mk none (AK.st 1 (AX.t 4) (AX.t 30)) none 1 false true), (AOp.mk none (AK.st 1 (AX.t 5) (AX.c (PV.val (Value.bool true)))) none 2 false true)]) AC.skip))))))) (AC.seq (AC.ops [(AOp.mk (some 31) (AK.ld none (AX.t 4)) none 0 false true), (AOp.mk (some 2) (AK.mv (AX.t 31)) none 1 false true)]) AC.ret)))))))
theorem ac89_ok : cCode Try.prog (fun _ => false) Try.f89.ntmps (Try.f89.body.getD .skip) = some ac89 := by kernel_rfl
def ac35 : AC := (AC.seq (AC.ops [(AOp.mk (some 1) (AK.box 10 (AX.t 0)) none 0 false true), (AOp.mk (some 2) (AK.mv (AX.c (PV.sl SK.full 0 []))) none 1 false true), (AOp.mk (some 3) (AK.mv (AX.c (PV.val (Value.int IntKind.i64 0)))) none 2 false true)]) (AC.seq (AC.seq (AC.ops [(AOp.mk (some 5) (AK.ld (some 10) (AX.t 1)) none 0 false true), (AOp.mk (some 6) (AK.call 18 [(AX.t 5)]) none 1 false true), (AOp.mk (some 4) (AK.mv (AX.t 6)) none 2 false true)]) (AC.seq (AC.ops [(AOp.mk (some 7) (AK.mv (AX.t 4)) none 0 false true), (AOp.mk (some 8) (AK.bin false BinOp.neq (AX.t 7) (AX.c (PV.val (Value.int IntKind.i64 0)))) none 1 false true)]) (AC.cond (AX.t 8) (AC.seq (AC.ops [(AOp.mk (some 9) (AK.mv (AX.t 4)) none 0 false true), (AOp.mk (some 2) (AK.mv (AX.c (PV.sl SK.full 0 []))) none 1 false true), (AOp.mk (some 3) (AK.mv (AX.t 9)) none 2 false true)]) AC.ret) AC.skip))) (AC.seq (AC.ops [(AOp.mk (some 10) (AK.ld (some 10) (AX.t 1)) none 0 false true), (AOp.mk (some 11) (AK.call 61 [(AX.t 10)]) none 1 false true), (AOp.mk (some 12) (AK.call 89 [(AX.t 11)]) none 2 false true), (AOp.mk (some 2) (AK.mv (AX.t 12)) none 3 false true), (AOp.mk (some 3) (AK.mv (AX.c (PV.val (Value.int IntKind.i64 0)))) none 4 false true)]) AC.ret)))
theorem ac35_ok : cCode Try.prog (fun _ => false) Try.f35.ntmps (Try.f35.body.getD .skip) = some ac35 := by kernel_rfl
def fewS (b : SBook) (o : Option (List Int)) (ws : List Int) : Option (List Int) := some (match o with | none => wrongI b ws | some l => if shortB (wrongI b ws) l then wrongI b ws else l)
def fewO (b : SBook) (l : List (List Int)) : Option (List Int) := l.foldl (fewS b) none
/-- The fewest trials that must be wrong. -/
def fewI (b : SBook) : List Int := (fewO b (truthL (plainB b))).getD []
def oPV (o : Option (List Int)) : PV := match o with | none => .sl .full 0 [] | some l => pis l
theorem plain_fit {b : SBook} (hb : Fit b) : Fit (plainB b) := ⟨hb.kind, hb.small, hb.few, hb.parts, fun t h => by simp [plainB] at h, by simp [plainB]⟩
theorem fewO_next (b : SBook) {l : List (List Int)} {i : Nat} {ws : List Int} (h : l[i]? = some ws) : fewO b (l.take (i + 1)) = fewS b (fewO b (l.take i)) ws := by
  unfold fewO
  obtain ⟨h1, h2⟩ := List.getElem?_eq_some_iff.1 h
  rw [List.take_succ_eq_append_getElem h1, List.foldl_append, h2]; rfl
theorem fewestWrong_sem (k k2 ks : SK) (b : SBook) (hb : Fit b) (hp : 0 < b.parts.length) : Sem1 89 [bookP k k2 ks b] (pis (fewI b)) := by
  have hpf := plain_fit hb
  obtain ⟨A, hA⟩ : ∃ A, truthL (plainB b) = A := ⟨_, rfl⟩
  have hAok := truthL_ok hpf
  have hF : fewI b = (fewO b A).getD [] := by unfold fewI; rw [hA]
  rw [hA] at hAok
  rw [hF]
  refine semC_of_exec' mixed Try.func89 (by kernel_rfl) (by kernel_rfl) ac89_ok 1 rfl (by decide) [(.tmp 2)] (by kernel_rfl) ?_
  intro hr C hC hI
  unfold ac89
  simp only [go_sem, Nat.reduceBEq, Nat.reduceAdd, Nat.reduceLeDiff]
  refine call_mem2 hC [] (newBookM_sem k k2 b hb.kind _) rfl (by decide) rfl rfl rfl rfl (by simp) ?_
  rintro v L' ys' ⟨rfl, rfl, ks2, rfl⟩ -
  have hit := truths_it k .sh ks2 (plainB b) hpf hp
  rw [hA] at hit
  simp only [go_sem, Nat.reduceBEq, Nat.reduceAdd, Nat.reduceLeDiff, upd0, mAt_nil]
  refine call_pureF hC (truths_sem k .sh ks2 (plainB b)) (purA_one (pur_cells (i := 2) (off := 0) (l := [pi b.kind, pi b.front, pi b.back, pi b.radius, .sl k 4 (b.parts.map partC), pi b.along, pi b.high, pi b.lean, pi b.limit, .sl .full 0 [], .sl ks2 2 (sidesL b.kind)]) rfl (by simp))) ?_ ?_
  · refine ⟨PVle.ptr ?_ 0, trivial⟩
    exact ⟨PVle.refl _, PVle.refl _, PVle.refl _, PVle.refl _, PVle.refl _, PVle.refl _, PVle.refl _, PVle.refl _, PVle.refl _, PVle.nil _ _ _, PVle.refl _, trivial⟩
  rintro r rfl
  simp only [go_sem]
  refine rng_st ⟨_, _, _, _, _, yC A, fun i => ⟨[(5, .loc 4 0), (4, .loc 3 0), (1, .loc 0 0)], [.cells [.p (bookP k k2 ks b)], .dead, .dead, .cells [.p (oPV (fewO b (A.take i)))], .cells [.p (pb (fewO b (A.take i)).isSome)]], [], some [], 0⟩, fun _ => True, rfl, rfl, hI _ _ _ hit, ?_, len_yC _, ?_, trivial, fun _ => ⟨rfl, rfl⟩, ?_, ?_⟩
  · simp [noY.noYL, noY_parts, noY_sides, noY_yC, noY, plainB, noY.noYR]
  · simp [Wk, wkT, wkL, look, AV.lo, AV.lo.loL, fewO, oPV]
  · rintro i y hy -
    obtain ⟨ws, h1, rfl⟩ := at_yC hy
    have hnx := fewO_next b h1
    have hws := hAok ws (List.mem_of_getElem? h1)
    have hwr := wrong_sem k k2 ks b hb ws hws.1 hws.2
    obtain ⟨o, ho⟩ : ∃ o, fewO b (A.take i) = o := ⟨_, rfl⟩
    rw [ho] at hnx
    simp only [ho, hnx]
    obtain ⟨w0, w1, w2, w3, rfl⟩ := four hws.1
    cases o with
    | none =>
      simp only [oPV, Option.isSome_none, fewS, Option.isSome_some]
      simp only [go_sem, Nat.reduceBEq, Nat.reduceAdd, putCells]
      refine call_pure2 hC (hwr) rfl (PVleL_refl _) ?_
      rintro r rfl
      simp only [go_sem, Nat.reduceBEq, putCells]
      simp [Wk, wkT, wkL, look, AV.lo, AV.lo.loL]
    | some l =>
      simp only [oPV, Option.isSome_some, fewS]
      simp only [go_sem, Nat.reduceBEq, Nat.reduceAdd, putCells]
      refine call_pure2 hC (hwr) rfl (PVleL_refl _) ?_
      rintro r rfl
      simp only [go_sem, Nat.reduceBEq]
      refine call_pure2 hC (comesBefore_sem (wrongI b [w0, w1, w2, w3]) l) rfl (PVleL_refl _) ?_
      rintro r rfl
      simp only [go_sem, Nat.reduceBEq]
      cases hs : shortB (wrongI b [w0, w1, w2, w3]) l
      · simp only [go_sem]
        simp [Wk, wkT, wkL, look, AV.lo, AV.lo.loL]
      · simp only [go_sem, Nat.reduceBEq, putCells]
        simp [Wk, wkT, wkL, look, AV.lo, AV.lo.loL]
  · rintro -
    have hlen : (yC A).length = A.length := by simp [yC]
    rw [hlen]
    simp only [List.take_length]
    cases fewO b A with
    | none => simp only [oPV]; simp only [go_sem, Nat.reduceBEq]; exact retQ_le rfl (PVle.nil .full 0 1) rfl
    | some l => simp only [oPV]; simp only [go_sem, Nat.reduceBEq]; exact retQ_le rfl (PVle.refl _) rfl
theorem Wrong_sem (k k2 : SK) (b : SBook) : Sem1 35 [.agg (bookC k k2 b)] (if okBook b then .tup [pis (fewI b), pi 0] else .tup [pis [], pi 20]) := by
  refine semC_of_exec' mixed Try.func35 (by kernel_rfl) (by kernel_rfl) ac35_ok 1 rfl (by decide) [(.tmp 2), (.tmp 3)] (by kernel_rfl) ?_
  intro hr C hC hI
  unfold ac35
  simp only [go_sem, Nat.reduceBEq, Nat.reduceAdd]
  refine call_pure2 hC (Check_sem ..) rfl (PVleL_refl _) ?_
  rintro r rfl
  simp only [go_sem, Nat.reduceBEq, Nat.reduceAdd]
  by_cases h : okBook b
  · simp only [if_pos h]
    refine ⟨fun h => absurd h (by simp), fun _ => ?_⟩
    refine call_pure2 hC (newBook_sem k k2 b h.fit.kind) rfl (PVleL_refl _) ?_
    rintro r rfl
    simp only [go_sem, Nat.reduceBEq]
    refine call_pure2 hC (fewestWrong_sem k k2 .sh b h.fit (fit_parts h)) rfl (PVleL_refl _) ?_
    rintro r rfl
    simp only [go_sem, Nat.reduceBEq]
    exact retQ_two rfl rfl rfl
  · simp only [if_neg h]
    refine ⟨fun _ => retQ_two_le rfl rfl (PVle.nil .full 0 1) (PVle.refl _) rfl, fun h => absurd h (by simp)⟩
end Go.Proofs.Ytaejmbmkkdkliaa
namespace Go.Proofs.Ytaejmbmkkdkliaa
open Go.RowKit
def ac37 : AC := (AC.seq (AC.ops [(AOp.mk (some 4) (AK.mv (AX.c (PV.val (Value.bool false)))) none 0 false true)]) (AC.seq (AC.ops [(AOp.mk (some 7) (AK.mv (AX.t 0)) none 0 false true), (AOp.mk (some 8) (AK.len (AX.t 7)) none 1 false true), (AOp.mk (some 9) (AK.mv (AX.t 1)) none 2 false true), (AOp.mk (some 10) (AK.len (AX.t 9)) none 3 false true), (AOp.mk (some 11) (AK.bin false BinOp.eql (AX.t 8) (AX.t 10)) none 4 false true), (AOp.mk (some 5) (AK.mv (AX.t 11)) none 5 false true)]) (AC.seq (AC.seq (AC.ops [(AOp.mk (some 6) (AK.mv (AX.c (PV.val (Value.int IntKind.i64 0)))) none 0 false true)]) (AC.block 0 (AC.loop (AC.seq (AC.seq (AC.ops [(AOp.mk (some 12) (AK.mv (AX.t 5)) none 0 false true), (AOp.mk (some 13) (AK.mv (AX.t 12)) none 1 false true), (AOp.mk (some 14) (AK.mv (AX.t 6)) (some (13, true)) 2 false true), (AOp.mk (some 15) (AK.mv (AX.t 0)) (some (13, true)) 3 false true), (AOp.mk (some 16) (AK.len (AX.t 15)) (some (13, true)) 4 false true), (AOp.mk (some 17) (AK.bin false BinOp.lss (AX.t 14) (AX.t 16)) (some (13, true)) 5 false true), (AOp.mk (some 18) (AK.pick (AX.t 13) (AX.t 17) (AX.c (PV.val (Value.bool false)))) none 6 false true)]) (AC.cond (AX.t 18) AC.skip (AC.exit 0))) (AC.seq (AC.block 1 (AC.ops [(AOp.mk (some 21) (AK.mv (AX.t 0)) none 0 true false), (AOp.mk (some 22) (AK.mv (AX.t 6)) none 1 true false), (AOp.mk (some 23) (AK.iadrS 1 (AX.t 21) (AX.t 22)) none 2 true false), (AOp.mk (some 24) (AK.ld none (AX.t 23)) none 3 true false), (AOp.mk (some 25) (AK.mv (AX.t 1)) none 4 true false), (AOp.mk (some 26) (AK.mv (AX.t 6)) none 5 true false), (AOp.mk (some 27) (AK.iadrS 1 (AX.t 25) (AX.t 26)) none 6 true false), (AOp.mk (some 28) (AK.ld none (AX.t 27)) none 7 true false), (AOp.mk (some 29) (AK.bin false BinOp.eql (AX.t 24) (AX.t 28)) none 8 true false), (AOp.mk (some 5) (AK.mv (AX.t 29)) none 9 true true)])) (AC.ops [(AOp.mk (some 19) (AK.mv (AX.t 6)) none 0 false true), (AOp.mk (some 20) (AK.bin false BinOp.add (AX.t 19) (AX.c (PV.val (Value.int IntKind.i64 1)))) none 1 false true), (AOp.mk (some 6) (AK.mv (AX.t 20)) none 2 false true)])))))) (AC.seq (AC.ops [(AOp.mk (some 30) (AK.mv (AX.t 5)) none 0 false true), (AOp.mk (some 4) (AK.mv (AX.t 30)) none 1 false true)]) AC.ret))))
theorem ac37_ok : cCode Try.prog (fun _ => false) Try.f37.ntmps (Try.f37.body.getD .skip) = some ac37 := by kernel_rfl
def ac44 : AC := (AC.seq (AC.ops [(AOp.mk (some 2) (AK.box 2 (AX.t 0)) none 0 false true), (AOp.mk (some 4) (AK.mv (AX.c (PV.val (Value.bool false)))) none 1 false true)]) (AC.seq (AC.ops [(AOp.mk (some 5) (AK.fadr 0 (AX.t 2)) none 0 false true), (AOp.mk (some 6) (AK.ld none (AX.t 5)) none 1 false true), (AOp.mk (some 7) (AK.mv (AX.t 1)) none 2 false true), (AOp.mk (some 8) (AK.bin false BinOp.leq (AX.t 6) (AX.t 7)) none 3 false true), (AOp.mk (some 9) (AK.mv (AX.t 8)) none 4 false true), (AOp.mk (some 10) (AK.mv (AX.t 1)) (some (9, true)) 5 false true), (AOp.mk (some 11) (AK.fadr 1 (AX.t 2)) (some (9, true)) 6 false true), (AOp.mk (some 12) (AK.ld none (AX.t 11)) (some (9, true)) 7 false true), (AOp.mk (some 13) (AK.bin false BinOp.leq (AX.t 10) (AX.t 12)) (some (9, true)) 8 false true), (AOp.mk (some 14) (AK.pick (AX.t 9) (AX.t 13) (AX.c (PV.val (Value.bool false)))) none 9 false true), (AOp.mk (some 4) (AK.mv (AX.t 14)) none 10 false true)]) AC.ret))
theorem ac44_ok : cCode Try.prog (fun _ => false) Try.f44.ntmps (Try.f44.body.getD .skip) = some ac44 := by kernel_rfl
def ac50 : AC := (AC.seq (AC.ops [(AOp.mk (some 2) (AK.box 2 (AX.t 0)) none 0 false true), (AOp.mk (some 3) (AK.box 2 (AX.t 1)) none 1 false true), (AOp.mk (some 4) (AK.mv (AX.c (PV.val (Value.bool false)))) none 2 false true)]) (AC.seq (AC.ops [(AOp.mk (some 5) (AK.fadr 0 (AX.t 2)) none 0 false true), (AOp.mk (some 6) (AK.ld none (AX.t 5)) none 1 false true), (AOp.mk (some 7) (AK.fadr 0 (AX.t 3)) none 2 false true), (AOp.mk (some 8) (AK.ld none (AX.t 7)) none 3 false true), (AOp.mk (some 9) (AK.bin false BinOp.leq (AX.t 6) (AX.t 8)) none 4 false true), (AOp.mk (some 10) (AK.mv (AX.t 9)) none 5 false true), (AOp.mk (some 11) (AK.fadr 1 (AX.t 3)) (some (10, true)) 6 false true), (AOp.mk (some 12) (AK.ld none (AX.t 11)) (some (10, true)) 7 false true), (AOp.mk (some 13) (AK.fadr 1 (AX.t 2)) (some (10, true)) 8 false true), (AOp.mk (some 14) (AK.ld none (AX.t 13)) (some (10, true)) 9 false true), (AOp.mk (some 15) (AK.bin false BinOp.leq (AX.t 12) (AX.t 14)) (some (10, true)) 10 false true), (AOp.mk (some 16) (AK.pick (AX.t 10) (AX.t 15) (AX.c (PV.val (Value.bool false)))) none 11 false true), (AOp.mk (some 4) (AK.mv (AX.t 16)) none 12 false true)]) AC.ret))
theorem ac50_ok : cCode Try.prog (fun _ => false) Try.f50.ntmps (Try.f50.body.getD .skip) = some ac50 := by kernel_rfl
def ac51 : AC := (AC.seq (AC.ops [(AOp.mk (some 4) (AK.mv (AX.c (PV.val (Value.bool false)))) none 0 false true)]) (AC.seq (AC.ops [(AOp.mk (some 5) (AK.mv (AX.c (PV.val (Value.int IntKind.i64 (-1))))) none 0 false true)]) (AC.seq (AC.seq (AC.ops [(AOp.mk (some 6) (AK.mv (AX.c (PV.val (Value.int IntKind.i64 0)))) none 0 false true)]) (AC.block 0 (AC.loop (AC.seq (AC.seq (AC.ops [(AOp.mk (some 7) (AK.mv (AX.t 6)) none 0 false true), (AOp.mk (some 8) (AK.mv (AX.t 0)) none 1 false true), (AOp.mk (some 9) (AK.len (AX.t 8)) none 2 false true), (AOp.mk (some 10) (AK.bin false BinOp.lss (AX.t 7) (AX.t 9)) none 3 false true)]) (AC.cond (AX.t 10) AC.skip (AC.exit 0))) (AC.seq (AC.block 1 (AC.seq (AC.seq (AC.ops [(AOp.mk (some 13) (AK.mv (AX.t 0)) none 0 false true), (AOp.mk (some 14) (AK.mv (AX.t 6)) none 1 false true), (AOp.mk (some 15) (AK.iadrS 1 (AX.t 13) (AX.t 14)) none 2 false true), (AOp.mk (some 16) (AK.ld none (AX.t 15)) none 3 false true), (AOp.mk (some 17) (AK.mv (AX.t 5)) none 4 false true), (AOp.mk (some 18) (AK.bin false BinOp.leq (AX.t 16) (AX.t 17)) none 5 false true), (AOp.mk (some 19) (AK.mv (AX.t 18)) none 6 false true), (AOp.mk (some 20) (AK.mv (AX.t 0)) (some (19, false)) 7 false true), (AOp.mk (some 21) (AK.mv (AX.t 6)) (some (19, false)) 8 false true), (AOp.mk (some 22) (AK.iadrS 1 (AX.t 20) (AX.t 21)) (some (19, false)) 9 false true), (AOp.mk (some 23) (AK.ld none (AX.t 22)) (some (19, false)) 10 false true), (AOp.mk (some 24) (AK.mv (AX.t 1)) (some (19, false)) 11 false true), (AOp.mk (some 25) (AK.bin false BinOp.geq (AX.t 23) (AX.t 24)) (some (19, false)) 12 false true), (AOp.mk (some 26) (AK.pick (AX.t 19) (AX.c (PV.val (Value.bool true))) (AX.t 25)) none 13 false true)]) (AC.cond (AX.t 26) (AC.seq (AC.ops [(AOp.mk (some 4) (AK.mv (AX.c (PV.val (Value.bool false)))) none 0 false true)]) AC.ret) AC.skip)) (AC.ops [(AOp.mk (some 27) (AK.mv (AX.t 0)) none 0 false true), (AOp.mk (some 28) (AK.mv (AX.t 6)) none 1 false true), (AOp.mk (some 29) (AK.iadrS 1 (AX.t 27) (AX.t 28)) none 2 false true), (AOp.mk (some 30) (AK.ld none (AX.t 29)) none 3 false true), (AOp.mk (some 5) (AK.mv (AX.t 30)) none 4 false true)]))) (AC.ops [(AOp.mk (some 11) (AK.mv (AX.t 6)) none 0 false true), (AOp.mk (some 12) (AK.bin false BinOp.add (AX.t 11) (AX.c (PV.val (Value.int IntKind.i64 1)))) none 1 false true), (AOp.mk (some 6) (AK.mv (AX.t 12)) none 2 false true)])))))) (AC.seq (AC.ops [(AOp.mk (some 4) (AK.mv (AX.c (PV.val (Value.bool true)))) none 0 false true)]) AC.ret))))
theorem ac51_ok : cCode Try.prog (fun _ => false) Try.f51.ntmps (Try.f51.body.getD .skip) = some ac51 := by kernel_rfl
def ac96 : AC := (AC.seq (AC.ops [(AOp.mk (some 4) (AK.mv (AX.c (PV.val (Value.bool false)))) none 0 false true)]) (AC.seq (AC.ops [(AOp.mk (some 5) (AK.mv (AX.t 0)) none 0 false true), (AOp.mk (some 6) (AK.mv (AX.t 1)) none 1 false true), (AOp.mk (some 7) (AK.bin false BinOp.shr (AX.t 5) (AX.t 6)) none 2 false true), (AOp.mk (some 8) (AK.bin false BinOp.and (AX.t 7) (AX.c (PV.val (Value.int IntKind.i64 1)))) none 3 false true), (AOp.mk (some 9) (AK.bin false BinOp.eql (AX.t 8) (AX.c (PV.val (Value.int IntKind.i64 1)))) none 4 false true), (AOp.mk (some 4) (AK.mv (AX.t 9)) none 5 false true)]) AC.ret))
theorem ac96_ok : cCode Try.prog (fun _ => false) Try.f96.ntmps (Try.f96.body.getD .skip) = some ac96 := by kernel_rfl
def ac53 : AC := (AC.seq (AC.ops [(AOp.mk (some 4) (AK.mv (AX.c (PV.sl SK.full 0 []))) none 0 false true)]) (AC.seq (AC.ops [(AOp.mk (some 7) (AK.bslice false 3 1 0 [(PV.val (Value.int IntKind.i64 0))] []) none 0 false true), (AOp.mk (some 5) (AK.mv (AX.t 7)) none 1 false true)]) (AC.seq (AC.seq (AC.ops [(AOp.mk (some 6) (AK.mv (AX.c (PV.val (Value.int IntKind.i64 0)))) none 0 false true)]) (AC.block 0 (AC.loop (AC.seq (AC.seq (AC.ops [(AOp.mk (some 8) (AK.mv (AX.t 6)) none 0 false true), (AOp.mk (some 9) (AK.mv (AX.t 1)) none 1 false true), (AOp.mk (some 10) (AK.bin false BinOp.lss (AX.t 8) (AX.t 9)) none 2 false true)]) (AC.cond (AX.t 10) AC.skip (AC.exit 0))) (AC.seq (AC.block 1 (AC.seq (AC.ops [(AOp.mk (some 13) (AK.mv (AX.t 0)) none 0 false true), (AOp.mk (some 14) (AK.mv (AX.t 6)) none 1 false true), (AOp.mk (some 15) (AK.call 96 [(AX.t 13), (AX.t 14)]) none 2 false true)]) (AC.cond (AX.t 15) (AC.ops [(AOp.mk (some 16) (AK.mv (AX.t 5)) none 0 false true), (AOp.mk (some 17) (AK.mv (AX.t 6)) none 1 false true), (AOp.mk (some 18) (AK.bslice false 3 1 1 [(PV.val (Value.int IntKind.i64 0))] [(0, (1, (AX.t 17)))]) none 2 false true), (AOp.mk (some 19) (AK.app false 3 1 8 [(PV.val (Value.int IntKind.i64 0))] (AX.t 16) (AX.t 18)) none 3 false true), (AOp.mk (some 5) (AK.mv (AX.t 19)) none 4 false true)]) AC.skip))) (AC.ops [(AOp.mk (some 11) (AK.mv (AX.t 6)) none 0 false true), (AOp.mk (some 12) (AK.bin false BinOp.add (AX.t 11) (AX.c (PV.val (Value.int IntKind.i64 1)))) none 1 false true), (AOp.mk (some 6) (AK.mv (AX.t 12)) none 2 false true)])))))) (AC.seq (AC.ops [(AOp.mk (some 20) (AK.mv (AX.t 5)) none 0 false true), (AOp.mk (some 4) (AK.mv (AX.t 20)) none 1 false true)]) AC.ret))))
theorem ac53_ok : cCode Try.prog (fun _ => false) Try.f53.ntmps (Try.f53.body.getD .skip) = some ac53 := by kernel_rfl
def ac97 : AC := (AC.seq (AC.ops [(AOp.mk (some 4) (AK.mv (AX.c (PV.val (Value.bool false)))) none 0 false true)]) (AC.seq (AC.seq (AC.ops [(AOp.mk (some 5) (AK.mv (AX.c (PV.val (Value.int IntKind.i64 0)))) none 0 false true)]) (AC.block 0 (AC.loop (AC.seq (AC.seq (AC.ops [(AOp.mk (some 6) (AK.mv (AX.t 5)) none 0 false true), (AOp.mk (some 7) (AK.mv (AX.t 0)) none 1 false true), (AOp.mk (some 8) (AK.len (AX.t 7)) none 2 false true), (AOp.mk (some 9) (AK.bin false BinOp.lss (AX.t 6) (AX.t 8)) none 3 false true), (AOp.mk (some 10) (AK.mv (AX.t 9)) none 4 false true), (AOp.mk (some 11) (AK.mv (AX.t 5)) (some (10, true)) 5 false true), (AOp.mk (some 12) (AK.mv (AX.t 1)) (some (10, true)) 6 false true), (AOp.mk (some 13) (AK.len (AX.t 12)) (some (10, true)) 7 false true), (AOp.mk (some 14) (AK.bin false BinOp.lss (AX.t 11) (AX.t 13)) (some (10, true)) 8 false true), (AOp.mk (some 15) (AK.pick (AX.t 10) (AX.t 14) (AX.c (PV.val (Value.bool false)))) none 9 false true)]) (AC.cond (AX.t 15) AC.skip (AC.exit 0))) (AC.seq (AC.block 1 (AC.seq (AC.ops [(AOp.mk (some 18) (AK.mv (AX.t 0)) none 0 true false), (AOp.mk (some 19) (AK.mv (AX.t 5)) none 1 true false), (AOp.mk (some 20) (AK.iadrS 1 (AX.t 18) (AX.t 19)) none 2 true false), (AOp.mk (some 21) (AK.ld none (AX.t 20)) none 3 true false), (AOp.mk (some 22) (AK.mv (AX.t 1)) none 4 true false), (AOp.mk (some 23) (AK.mv (AX.t 5)) none 5 true false), (AOp.mk (some 24) (AK.iadrS 1 (AX.t 22) (AX.t 23)) none 6 true false), (AOp.mk (some 25) (AK.ld none (AX.t 24)) none 7 true false), (AOp.mk (some 26) (AK.bin false BinOp.neq (AX.t 21) (AX.t 25)) none 8 true false)]) (AC.cond (AX.t 26) (AC.seq (AC.ops [(AOp.mk (some 27) (AK.mv (AX.t 0)) none 0 true false), (AOp.mk (some 28) (AK.mv (AX.t 5)) none 1 true false), (AOp.mk (some 29) (AK.iadrS 1 (AX.t 27) (AX.t 28)) none 2 true false), (AOp.mk (some 30) (AK.ld none (AX.t 29)) none 3 true false), (AOp.mk (some 31) (AK.mv (AX.t 1)) none 4 true false), (AOp.mk (some 32) (AK.mv (AX.t 5)) none 5 true false), (AOp.mk (some 33) (AK.iadrS 1 (AX.t 31) (AX.t 32)) none 6 true false), (AOp.mk (some 34) (AK.ld none (AX.t 33)) none 7 true false), (AOp.mk (some 35) (AK.bin false BinOp.lss (AX.t 30) (AX.t 34)) none 8 true false), (AOp.mk (some 4) (AK.mv (AX.t 35)) none 9 true true)]) AC.ret) AC.skip))) (AC.ops [(AOp.mk (some 16) (AK.mv (AX.t 5)) none 0 false true), (AOp.mk (some 17) (AK.bin false BinOp.add (AX.t 16) (AX.c (PV.val (Value.int IntKind.i64 1)))) none 1 false true), (AOp.mk (some 5) (AK.mv (AX.t 17)) none 2 false true)])))))) (AC.seq (AC.ops [(AOp.mk (some 36) (AK.mv (AX.t 0)) none 0 false true), (AOp.mk (some 37) (AK.len (AX.t 36)) none 1 false true), (AOp.mk (some 38) (AK.mv (AX.t 1)) none 2 false true), (AOp.mk (some 39) (AK.len (AX.t 38)) none 3 false true), (AOp.mk (some 40) (AK.bin false BinOp.lss (AX.t 37) (AX.t 39)) none 4 false true), (AOp.mk (some 4) (AK.mv (AX.t 40)) none 5 false true)]) AC.ret)))
theorem ac97_ok : cCode Try.prog (fun _ => false) Try.f97.ntmps (Try.f97.body.getD .skip) = some ac97 := by kernel_rfl
def ac54 : AC := (AC.seq (AC.ops [(AOp.mk (some 4) (AK.mv (AX.c (PV.val (Value.bool false)))) none 0 false true)]) (AC.seq (AC.seq (AC.ops [(AOp.mk (some 5) (AK.mv (AX.t 0)) none 0 false true), (AOp.mk (some 6) (AK.len (AX.t 5)) none 1 false true), (AOp.mk (some 7) (AK.mv (AX.t 1)) none 2 false true), (AOp.mk (some 8) (AK.len (AX.t 7)) none 3 false true), (AOp.mk (some 9) (AK.bin false BinOp.neq (AX.t 6) (AX.t 8)) none 4 false true)]) (AC.cond (AX.t 9) (AC.seq (AC.ops [(AOp.mk (some 10) (AK.mv (AX.t 0)) none 0 false true), (AOp.mk (some 11) (AK.len (AX.t 10)) none 1 false true), (AOp.mk (some 12) (AK.mv (AX.t 1)) none 2 false true), (AOp.mk (some 13) (AK.len (AX.t 12)) none 3 false true), (AOp.mk (some 14) (AK.bin false BinOp.lss (AX.t 11) (AX.t 13)) none 4 false true), (AOp.mk (some 4) (AK.mv (AX.t 14)) none 5 false true)]) AC.ret) AC.skip)) (AC.seq (AC.ops [(AOp.mk (some 15) (AK.mv (AX.t 0)) none 0 false true), (AOp.mk (some 16) (AK.mv (AX.t 1)) none 1 false true), (AOp.mk (some 17) (AK.call 97 [(AX.t 15), (AX.t 16)]) none 2 false true), (AOp.mk (some 4) (AK.mv (AX.t 17)) none 3 false true)]) AC.ret)))
theorem ac54_ok : cCode Try.prog (fun _ => false) Try.f54.ntmps (Try.f54.body.getD .skip) = some ac54 := by kernel_rfl
def ac95 : AC := (AC.seq (AC.ops [(AOp.mk (some 4) (AK.mv (AX.c (PV.val (Value.int IntKind.i64 0)))) none 0 false true)]) (AC.seq (AC.seq (AC.ops [(AOp.mk (some 5) (AK.mv (AX.c (PV.val (Value.int IntKind.i64 0)))) none 0 false true)]) (AC.block 0 (AC.loop (AC.seq (AC.seq (AC.ops [(AOp.mk (some 6) (AK.mv (AX.t 5)) none 0 false true), (AOp.mk (some 7) (AK.mv (AX.t 0)) none 1 false true), (AOp.mk (some 8) (AK.len (AX.t 7)) none 2 false true), (AOp.mk (some 9) (AK.bin false BinOp.lss (AX.t 6) (AX.t 8)) none 3 false true)]) (AC.cond (AX.t 9) AC.skip (AC.exit 0))) (AC.seq (AC.block 1 (AC.seq (AC.ops [(AOp.mk (some 12) (AK.mv (AX.t 0)) none 0 false true), (AOp.mk (some 13) (AK.mv (AX.t 5)) none 1 false true), (AOp.mk (some 14) (AK.iadrS 1 (AX.t 12) (AX.t 13)) none 2 false true), (AOp.mk (some 15) (AK.ld none (AX.t 14)) none 3 false true), (AOp.mk (some 16) (AK.mv (AX.t 1)) none 4 false true), (AOp.mk (some 17) (AK.bin false BinOp.eql (AX.t 15) (AX.t 16)) none 5 false true)]) (AC.cond (AX.t 17) (AC.seq (AC.ops [(AOp.mk (some 18) (AK.mv (AX.t 5)) none 0 false true), (AOp.mk (some 4) (AK.mv (AX.t 18)) none 1 false true)]) AC.ret) AC.skip))) (AC.ops [(AOp.mk (some 10) (AK.mv (AX.t 5)) none 0 false true), (AOp.mk (some 11) (AK.bin false BinOp.add (AX.t 10) (AX.c (PV.val (Value.int IntKind.i64 1)))) none 1 false true), (AOp.mk (some 5) (AK.mv (AX.t 11)) none 2 false true)])))))) (AC.seq (AC.ops [(AOp.mk (some 4) (AK.mv (AX.c (PV.val (Value.int IntKind.i64 (-1))))) none 0 false true)]) AC.ret)))
theorem ac95_ok : cCode Try.prog (fun _ => false) Try.f95.ntmps (Try.f95.body.getD .skip) = some ac95 := by kernel_rfl
theorem Equal_sem (l m : List Int) : Sem1 37 [pis l, pis m] (pb (decide (l = m))) := by
  refine semC_of_exec' mixed Try.func37 (by kernel_rfl) (by kernel_rfl) ac37_ok 2 rfl (by decide) [(.tmp 4)] (by kernel_rfl) ?_
  intro hr C hC hI
  unfold ac37
  simp only [go_sem, Nat.reduceBEq, List.length_map]
  have hl := real_len (i := 0) hr rfl
  rw [List.length_map] at hl
  refine ⟨{x : Nat × Bool // x.1 ≤ l.length ∧ (l = m ↔ x.2 = true ∧ l.length = m.length ∧ l.drop x.1 = m.drop x.1) ∧ (x.2 = true → l.length = m.length)}, fun x => ⟨[(6, .p (pi x.1.1)), (5, .p (pb x.1.2)), (0, .p (pis l)), (1, .p (pis m))], [], [], some [], 0⟩, fun x => l.length - x.1.1, ⟨(0, decide ((l.length : Int) = m.length)), by simp, ?_, fun h => by simp only [decide_eq_true_eq] at h; omega⟩, (by simp [Wk, wkT, wkL, look, AV.lo]), ?_⟩
  · constructor
    · rintro rfl; simp
    · rintro ⟨h1, h2, h3⟩; exact h3
  rintro ⟨⟨j, t⟩, hj, hiff, hlen⟩
  simp only at hj hiff hlen
  cases t
  · simp only [go_sem, Nat.reduceBEq]
    refine retQ_one rfl ?_
    have : ¬ l = m := by rw [hiff]; simp
    simp [this]
  · have hlm := hlen rfl
    simp only [go_sem, Nat.reduceBEq, List.length_map]
    refine ⟨fun h5 => ?_, fun h5 => ?_⟩
    · have hj2 : j < l.length := by omega
      simp only [go_sem, Nat.reduceBEq, iadr_pis hj2, iadr_pis (show j < m.length by omega), wrap_succ (k := j) (by omega)]
      refine ⟨⟨(j + 1, decide (l[j] = m[j])), by simp only; omega, ?_, fun _ => hlm⟩, by simp only; omega, by simp [Wk, wkT, wkL, look, AV.lo]⟩
      rw [hiff, List.drop_eq_getElem_cons hj2, List.drop_eq_getElem_cons (show j < m.length by omega)]
      simp only [List.cons.injEq, hlm, true_and, decide_eq_true_eq]
    · refine retQ_one rfl ?_
      have : l = m := by
        rw [hiff]
        exact ⟨rfl, hlm, by rw [show l.drop j = [] from List.drop_eq_nil_of_le (by omega), show m.drop j = [] from List.drop_eq_nil_of_le (by omega)]⟩
      rw [decide_eq_true this]
theorem Has_sem (a b n : Int) : Sem1 44 [psp a b, pi n] (pb (decide (a ≤ n ∧ n ≤ b))) := by
  refine semC_of_exec' mixed Try.func44 (by kernel_rfl) (by kernel_rfl) ac44_ok 2 rfl (by decide) [(.tmp 4)] (by kernel_rfl) ?_
  intro hr C hC hI
  unfold ac44
  simp only [go_sem, Nat.reduceBEq, Nat.reduceAdd]
  exact ⟨fun h => retQ_one rfl (by simp [h]), fun h => retQ_one rfl (by simp [h])⟩
theorem Wraps_sem (a b c d : Int) : Sem1 50 [psp a b, psp c d] (pb (decide (a ≤ c ∧ d ≤ b))) := by
  refine semC_of_exec' mixed Try.func50 (by kernel_rfl) (by kernel_rfl) ac50_ok 2 rfl (by decide) [(.tmp 4)] (by kernel_rfl) ?_
  intro hr C hC hI
  unfold ac50
  simp only [go_sem, Nat.reduceBEq, Nat.reduceAdd]
  exact ⟨fun h => retQ_one rfl (by simp [h]), fun h => retQ_one rfl (by simp [h])⟩
/-- All from 0 to below a number, and increasing. -/
def growsI (l : List Int) (m : Int) : Prop := incL l ∧ ∀ n ∈ l, 0 ≤ n ∧ n < m
theorem Grows_sem (l : List Int) (m : Int) : SemC Try.prog 51 [pis l, pi m] (fun r => ∃ t, r = pb t ∧ (t = true ↔ growsI l m)) := by
  refine semC_of_exec' mixed Try.func51 (by kernel_rfl) (by kernel_rfl) ac51_ok 2 rfl (by decide) [(.tmp 4)] (by kernel_rfl) ?_
  intro hr C hC hI
  unfold ac51
  simp only [go_sem]
  have hl := real_len (i := 0) hr rfl
  rw [List.length_map] at hl
  refine ⟨{x : Nat × Int // x.1 ≤ l.length ∧ -1 ≤ x.2 ∧ (growsI l m ↔ incL (l.drop x.1) ∧ ∀ n ∈ l.drop x.1, x.2 < n ∧ n < m)}, fun x => ⟨[(6, .p (pi x.1.1)), (5, .p (pi x.1.2)), (0, .p (pis l)), (1, .p (pi m))], [], [], some [], 0⟩, fun x => l.length - x.1.1, ⟨(0, -1), by simp, by simp, ?_⟩, (by simp [Wk, wkT, wkL, look, AV.lo]), ?_⟩
  · simp only [List.drop_zero, growsI]
    refine and_congr Iff.rfl (forall_congr' fun n => forall_congr' fun _ => ?_)
    omega
  rintro ⟨⟨j, p⟩, hj, hp, hiff⟩
  simp only at hj hp hiff
  simp only [go_sem, Nat.reduceBEq, List.length_map]
  refine ⟨fun h5 => ?_, fun h5 => ?_⟩
  · have hj2 : j < l.length := by omega
    rw [List.drop_eq_getElem_cons hj2] at hiff
    simp only [go_sem, Nat.reduceBEq, iadr_pis hj2, wrap_succ (k := j) (by omega)]
    have no : ¬ (p < l[j] ∧ l[j] < m) → ¬ growsI l m := fun h hg => h ((hiff.1 hg).2 _ (List.mem_cons_self ..))
    refine ⟨fun h6 => ⟨fun h7 => ?_, fun h7 => ?_⟩, fun h6 => ?_⟩
    · exact retQ_one rfl ⟨false, rfl, by have := no (by omega); simp [this]⟩
    · refine ⟨⟨(j + 1, l[j]), by simp only; omega, by simp only; omega, ?_⟩, by simp only; omega, by simp [Wk, wkT, wkL, look, AV.lo]⟩
      rw [hiff]
      unfold incL
      rw [List.pairwise_cons]
      simp only [List.mem_cons]
      constructor
      · rintro ⟨⟨h8, h9⟩, h10⟩
        exact ⟨h9, fun n hn => ⟨h8 n hn, (h10 n (.inr hn)).2⟩⟩
      · rintro ⟨h8, h9⟩
        refine ⟨⟨fun n hn => (h9 n hn).1, h8⟩, fun n hn => ?_⟩
        rcases hn with rfl | hn
        · omega
        · have := h9 n hn; omega
    · exact retQ_one rfl ⟨false, rfl, by have := no (by omega); simp [this]⟩
  · refine retQ_one rfl ⟨true, rfl, ?_⟩
    rw [hiff, show l.drop j = [] from List.drop_eq_nil_of_le (by omega)]
    simp [incL]
/-- Is a bit set? -/
def ofI (set n : Int) : Bool := decide (set.fdiv (2 ^ (min n.toNat 64)) % 2 = 1)
theorem and1 (x : Int) : IntKind.i64.wrap ((BitVec.ofInt 64 x &&& BitVec.ofInt 64 1).toNat : Int) = x % 2 := by
  have h : ((BitVec.ofInt 64 x &&& BitVec.ofInt 64 1).toNat : Int) = x % 2 := by
    rw [BitVec.toNat_and]
    have : (BitVec.ofInt 64 1).toNat = 1 := rfl
    rw [this, Nat.and_one_is_mod, BitVec.toNat_ofInt]
    omega
  show IntKind.i64.wrap ((BitVec.ofInt 64 x &&& BitVec.ofInt 64 1).toNat : Int) = x % 2
  rw [h, wrap_id (by omega) (by omega)]
theorem Of_sem (set n : Int) (hn : 0 ≤ n) : Sem1 96 [pi set, pi n] (pb (ofI set n)) := by
  refine semC_of_exec' mixed Try.func96 (by kernel_rfl) (by kernel_rfl) ac96_ok 2 rfl (by decide) [(.tmp 4)] (by kernel_rfl) ?_
  intro hr C hC hI
  unfold ac96
  simp only [go_sem, Nat.reduceBEq, bin_shr (show ¬ n < 0 by omega), bin_and]
  exact retQ_one rfl (congrArg (fun x : Int => pb (decide (x = 1))) (and1 (set.fdiv (2 ^ min n.toNat 64))))
def listI (set : Int) (m : Nat) : List Int := ((List.range m).filter fun (i : Nat) => ofI set i).map fun (i : Nat) => (i : Int)
theorem List_sem (set : Int) (m : Nat) (hm : m ≤ 1000) : Sem1 53 [pi set, pi m] (pis (listI set m)) := by
  unfold listI
  obtain ⟨f, hf⟩ : ∃ f : Nat → Bool, (fun (i : Nat) => ofI set i) = f := ⟨_, rfl⟩
  rw [hf]
  refine semC_of_exec' mixed Try.func53 (by kernel_rfl) (by kernel_rfl) ac53_ok 2 rfl (by decide) [(.tmp 4)] (by kernel_rfl) ?_
  intro hr C hC hI
  unfold ac53
  simp only [go_sem, Nat.reduceBEq]
  refine ⟨{x : Nat × Option Nat // x.1 ≤ m ∧ (x.2 = none → ((List.range x.1).filter f).map (fun (i : Nat) => (i : Int)) = [])}, fun x => ⟨[(6, .p (pi x.1.1)), (5, .p (match x.1.2 with | none => .sl .full 1 [] | some t => .sl (.own t 3 1) 1 ((((List.range x.1.1).filter f).map fun (i : Nat) => (i : Int)).map fun x => [pi x]))), (0, .p (pi set)), (1, .p (pi m))], [], x.1.2.toList, some [], 0⟩, fun x => m - x.1.1, ⟨(0, none), by simp, fun _ => rfl⟩, (by simp [Wk, wkT, wkL, look, AV.lo]), ?_⟩
  rintro ⟨⟨j, o⟩, hj, ho⟩
  simp only at hj ho
  simp only [go_sem, Nat.reduceBEq]
  refine ⟨fun h5 => ?_, fun h5 => ?_⟩
  · have hj2 : j < m := by omega
    have hsn : ((List.range (j + 1)).filter f).map (fun (i : Nat) => (i : Int)) = ((List.range j).filter f).map (fun (i : Nat) => (i : Int)) ++ if f j then [(j : Int)] else [] := by
      rw [List.range_succ, List.filter_append, List.map_append]
      congr 1
      simp only [List.filter_cons, List.filter_nil]
      split <;> rfl
    have hfj : ofI set j = f j := by rw [← hf]
    obtain ⟨L, hL⟩ : ∃ L, ((List.range j).filter f).map (fun (i : Nat) => (i : Int)) = L := ⟨_, rfl⟩
    have hLl : L.length ≤ j := by rw [← hL, List.length_map]; exact Nat.le_trans (List.length_filter_le ..) (by simp)
    rw [hL] at hsn ho
    simp only [hL]
    refine call_pure2 hC (Of_sem set j (by omega)) rfl (PVleL_refl _) ?_
    rintro r rfl
    simp only [go_sem, Nat.reduceBEq, hfj]
    cases hb : f j
    · rw [hb] at hsn
      simp only [Bool.false_eq_true, if_false, List.append_nil] at hsn
      simp only [go_sem, Nat.reduceBEq, wrap_succ (k := j) (by omega)]
      refine ⟨⟨(j + 1, o), by simp only; omega, fun h => by simp only; rw [hsn]; exact ho h⟩, by simp only; omega, ?_⟩
      simp only [hsn]
      cases o <;> simp [Wk, wkT, wkL, look, AV.lo]
    · rw [hb] at hsn
      simp only [if_true] at hsn
      cases o with
      | none =>
        have h0 := ho rfl
        subst h0
        simp only [go_sem, Nat.reduceBEq, Nat.reduceLeDiff, wrap_succ (k := j) (by omega)]
        intro tk _
        refine ⟨⟨(j + 1, some tk), by simp only; omega, fun h => by cases h⟩, by simp only; omega, ?_⟩
        simp only [hsn]
        simp [Wk, wkT, wkL, look, AV.lo]
      | some tk =>
        simp only [go_sem, Nat.reduceBEq, Nat.reduceLeDiff, wrap_succ (k := j) (by omega)]
        refine ⟨by rw [List.length_map]; omega, by simp, fun t2 _ => ?_⟩
        refine ⟨⟨(j + 1, some t2), by simp only; omega, fun h => by cases h⟩, by simp only; omega, ?_⟩
        simp only [hsn]
        simp [Wk, wkT, wkL, look, AV.lo]
  · have hjn : j = m := by omega
    subst hjn
    cases o with
    | none =>
      rw [ho rfl]
      exact retQ_le rfl (PVle.nil .full 1 1) rfl
    | some tk => exact retQ_le rfl (PVle.sh _ _ _) rfl
theorem Less_sem (l m : List Int) (hlm : l.length = m.length) : Sem1 97 [pis l, pis m] (pb (lexB l m)) := by
  refine semC_of_exec' mixed Try.func97 (by kernel_rfl) (by kernel_rfl) ac97_ok 2 rfl (by decide) [(.tmp 4)] (by kernel_rfl) ?_
  intro hr C hC hI
  unfold ac97
  simp only [go_sem]
  have hl := real_len (i := 0) hr rfl
  rw [List.length_map] at hl
  refine loop_nat l.length (fun j => lexB (l.drop j) (m.drop j) = lexB l m) (fun (j : Nat) => ⟨[(5, .p (pi j)), (0, .p (pis l)), (1, .p (pis m))], [], [], some [], 0⟩) rfl (by simp [Wk, wkT, wkL, look, AV.lo]) ?_
  rintro j ⟨hj, hok⟩
  simp only [go_sem, Nat.reduceBEq, List.length_map]
  refine ⟨fun h5 => ?_, fun h5 => ?_⟩
  · have hj2 : j < l.length := by omega
    refine ⟨fun h6 => ?_, fun h6 => by omega⟩
    simp only [go_sem, Nat.reduceBEq, iadr_pis hj2, iadr_pis (show j < m.length by omega), wrap_succ (k := j) (by omega)]
    rw [List.drop_eq_getElem_cons hj2, List.drop_eq_getElem_cons (show j < m.length by omega)] at hok
    simp only [lexB] at hok
    refine ⟨fun h7 => ?_, fun h7 => ?_⟩
    · rw [if_neg h7] at hok
      exact retQ_one rfl (by rw [← hok])
    · rw [if_pos h7] at hok
      exact ⟨⟨j + 1, hj2, hok⟩, by simp only; omega, by simp [Wk, wkT, wkL, look, AV.lo]⟩
  · refine retQ_one rfl ?_
    rw [← hok, show l.drop j = [] from List.drop_eq_nil_of_le (by omega), show m.drop j = [] from List.drop_eq_nil_of_le (by omega), decide_eq_false (by omega)]
    rfl
theorem Shorter_sem (l m : List Int) : Sem1 54 [pis l, pis m] (pb (shortB l m)) := by
  refine semC_of_exec' mixed Try.func54 (by kernel_rfl) (by kernel_rfl) ac54_ok 2 rfl (by decide) [(.tmp 4)] (by kernel_rfl) ?_
  intro hr C hC hI
  unfold ac54
  simp only [go_sem, Nat.reduceBEq, List.length_map]
  unfold shortB
  refine ⟨fun h => retQ_one rfl ?_, fun h => ?_⟩
  · rw [if_neg (by omega)]
    exact congrArg pb (decide_eq_decide.2 (by omega))
  · have hlm : l.length = m.length := by omega
    refine call_pure2 hC (Less_sem l m hlm) rfl (PVleL_refl _) ?_
    rintro r rfl
    simp only [go_sem, Nat.reduceBEq]
    rw [if_pos hlm]
    exact retQ_one rfl rfl
def findI (l : List Int) (n : Int) : Int := match l.findIdx? (fun x => decide (x = n)) with | some i => i | none => -1
theorem findI_neg {l : List Int} {n : Int} : findI l n < 0 ↔ n ∉ l := by
  unfold findI
  cases h : l.findIdx? (fun x => decide (x = n)) with
  | none =>
    rw [List.findIdx?_eq_none_iff] at h
    simp only [decide_eq_false_iff_not] at h
    exact ⟨fun _ hm => h n hm rfl, fun _ => by simp⟩
  | some i =>
    rw [List.findIdx?_eq_some_iff_getElem] at h
    obtain ⟨h1, h2, _⟩ := h
    simp only [decide_eq_true_eq] at h2
    refine ⟨fun hx => by simp only at hx; omega, fun hx => absurd (h2 ▸ List.getElem_mem h1) hx⟩
theorem Find_sem (l : List Int) (n : Int) : SemC Try.prog 95 [pis l, pi n] (fun r => ∃ i : Int, r = pi i ∧ (i < 0 ↔ n ∉ l)) := by
  refine semC_of_exec' mixed Try.func95 (by kernel_rfl) (by kernel_rfl) ac95_ok 2 rfl (by decide) [(.tmp 4)] (by kernel_rfl) ?_
  intro hr C hC hI
  unfold ac95
  simp only [go_sem]
  have hl := real_len (i := 0) hr rfl
  rw [List.length_map] at hl
  refine loop_nat l.length (fun j => ∀ x ∈ l.take j, x ≠ n) (fun (j : Nat) => ⟨[(5, .p (pi j)), (0, .p (pis l)), (1, .p (pi n))], [], [], some [], 0⟩) (by simp) (by simp [Wk, wkT, wkL, look, AV.lo]) ?_
  rintro j ⟨hj, hok⟩
  simp only [go_sem, Nat.reduceBEq, List.length_map]
  refine ⟨fun h5 => ?_, fun h5 => ?_⟩
  · have hj2 : j < l.length := by omega
    simp only [go_sem, Nat.reduceBEq, iadr_pis hj2, wrap_succ (k := j) (by omega)]
    refine ⟨fun h6 => ?_, fun h6 => ?_⟩
    · exact retQ_one rfl ⟨j, rfl, by have : n ∈ l := h6 ▸ List.getElem_mem hj2; constructor; { intro h; omega }; { intro h; exact absurd this h }⟩
    · refine ⟨⟨j + 1, hj2, fun x hx => ?_⟩, by simp only; omega, by simp [Wk, wkT, wkL, look, AV.lo]⟩
      rw [List.take_succ_eq_append_getElem hj2, List.mem_append, List.mem_singleton] at hx
      rcases hx with hx | rfl
      · exact hok x hx
      · exact h6
  · refine retQ_one rfl ⟨-1, rfl, ?_⟩
    have hjn : j = l.length := by omega
    subst hjn
    rw [List.take_length] at hok
    exact ⟨fun _ h => hok n h rfl, fun _ => by omega⟩
end Go.Proofs.Ytaejmbmkkdkliaa
namespace Go.Proofs.Ytaejmbmkkdkliaa
open Go.RowKit
theorem hasLeanW_sem (k k2 : SK) (b : SBook) (n : Int) : Sem1 70 [.agg (bookC k k2 b), pi n] (pb (decide (IntKind.i64.wrap (0 - b.lean) ≤ n ∧ n ≤ b.lean))) := by
  refine semC_of_exec' mixed Try.func70 (by kernel_rfl) (by kernel_rfl) ac70_ok 2 rfl (by decide) [(.tmp 4)] (by kernel_rfl) ?_
  intro hr C hC hI
  unfold ac70
  simp only [go_sem, Nat.reduceBEq, Nat.reduceAdd]
  refine call_pure2 hC (within_sem ..) rfl (PVleL_refl _) ?_
  rintro r rfl
  simp only [go_sem, Nat.reduceBEq]
  exact retQ_one rfl rfl
def childW (b : SBook) (w n : Int) : Bool := decide (1 ≤ w ∧ w ≤ b.limit) && decide (IntKind.i64.wrap (0 - b.lean) ≤ n ∧ n ≤ b.lean)
theorem err_childW (b : SBook) (w n : Int) : errI b (childW b w n) = errI b (childI b w n) := by
  by_cases ho : okBook b
  · have hlm := ok_lean ho
    unfold childW childI
    rw [wrap_id (n := 0 - b.lean) (by omega) (by omega), show (0 : Int) - b.lean = -b.lean by omega]
  · unfold errI
    rw [if_neg ho, if_neg ho]
theorem TipsW_sem (k k2 : SK) (b : SBook) (w n : Int) : Sem1 20 [.agg (bookC k k2 b), pi w, pi n]
    (if errI b (childW b w n) = 0 then .tup [pi (answerI b (loadsI b) w n), pi 0] else .tup [pi 0, pi (errI b (childW b w n))]) := by
  obtain ⟨R, hR⟩ : ∃ R, (if errI b (childW b w n) = 0 then PV.tup [pi (answerI b (loadsI b) w n), pi 0] else .tup [pi 0, pi (errI b (childW b w n))]) = R := ⟨_, rfl⟩
  obtain ⟨e, he⟩ : ∃ e, childW b w n = e := ⟨_, rfl⟩
  rw [hR]
  rw [he] at hR
  have hc := he
  unfold childW at hc
  refine semC_of_exec' mixed Try.func20 (by kernel_rfl) (by kernel_rfl) ac20_ok 3 rfl (by decide) [(.tmp 6), (.tmp 7)] (by kernel_rfl) ?_
  intro hr C hC hI
  unfold ac20
  simp only [go_sem, Nat.reduceBEq, Nat.reduceAdd]
  refine call_pure2 hC (hasWeight_sem k k2 b w) rfl (PVleL_refl _) ?_
  rintro r rfl
  simp only [go_sem, Nat.reduceBEq, Nat.reduceAdd]
  refine ⟨fun h1 => ?_, fun h1 => ?_⟩
  rotate_left
  · rw [decide_eq_false h1, Bool.false_and] at hc
    subst hc
    refine call_mem2 hC [] (trueHorse_sem k k2 b false _) rfl (by decide) rfl rfl rfl rfl (by simp) ?_
    rintro v L' ys' ⟨rfl, (⟨he2, rfl⟩ | ⟨he2, rfl, kl, rfl⟩)⟩ -
    · rw [if_neg he2] at hR
      simp only [go_sem, Nat.reduceBEq, Nat.reduceAdd, Nat.reduceLeDiff]
      exact ⟨fun _ => retQ_two rfl rfl hR, fun h => absurd h he2⟩
    · exact absurd (errI_ok he2).2 (by decide)
  · rw [decide_eq_true h1, Bool.true_and] at hc
    refine call_pure2 hC (hasLeanW_sem k k2 b n) rfl (PVleL_refl _) ?_
    rintro r rfl
    simp only [go_sem, Nat.reduceBEq]
    rw [hc]
    refine call_mem2 hC [] (trueHorse_sem k k2 b e _) rfl (by decide) rfl rfl rfl rfl (by simp) ?_
    rintro v L' ys' ⟨rfl, (⟨he2, rfl⟩ | ⟨he2, rfl, kl, rfl⟩)⟩ -
    · rw [if_neg he2] at hR
      simp only [go_sem, Nat.reduceBEq, Nat.reduceAdd, Nat.reduceLeDiff]
      exact ⟨fun _ => retQ_two rfl rfl hR, fun h => absurd h he2⟩
    · rw [if_pos he2] at hR
      obtain ⟨ho, hk⟩ := errI_ok he2
      have hlm := ok_lean ho
      have hkb : b.lean ≤ 40 ∧ 0 ≤ b.lean := ⟨hlm.1.2, hlm.1.1⟩
      rw [hk, decide_eq_true_eq, wrap_id (n := 0 - b.lean) (by omega) (by omega)] at hc
      simp only [go_sem, Nat.reduceBEq, Nat.reduceAdd, Nat.reduceLeDiff, upd0, mAt_nil, ren_horseM2]
      refine ⟨fun h => h.elim, fun _ => ?_⟩
      refine call_mem2 hC [4, 3] (answer_sem false k k2 .sh kl b (loadsI b) (loadsI_horse ho.fit) [] (by intro x hx; cases hx) w n (by omega) (by omega) _) rfl (by decide) ?_ ?_ ?_ rfl (by simp) ?_
      · simp only [List.map_cons, List.map_nil, ren_horseM]; rfl
      · simp only [List.all_cons, List.all_nil, turn_horse]; rfl
      · simp only [List.all_cons, List.all_nil, List.length_cons, List.length_nil, Nat.zero_add, Nat.reduceAdd, lo_horse]; rfl
      rintro v L' ys' ⟨rfl, rfl, hL⟩ -
      obtain ⟨X, rfl⟩ := take2 hL
      simp only [go_sem, Nat.reduceBEq, Nat.reduceAdd, upd2g]
      exact retQ_two rfl rfl hR
theorem loadW_pos : ∀ (ps : List SPart) (ws : List Int), (∀ w ∈ ws, 0 ≤ w ∧ w ≤ 99) → 0 ≤ (loadW ps ws).w := by
  suffices H : ∀ (xs : List (SPart × Int)) (l : SLoad), 0 ≤ l.w → (∀ x ∈ xs, 0 ≤ x.2) → 0 ≤ (xs.foldl (fun l x => l.add x.2 x.1.along x.1.high) l).w by
    intro ps ws h
    exact H _ ⟨0, 0, 0⟩ (Int.le_refl _) fun x hx => (h x.2 (List.of_mem_zip (a := x.1) (b := x.2) hx).2).1
  intro xs
  induction xs with
  | nil => exact fun l h _ => h
  | cons x xs ih =>
    intro l h hx
    refine ih _ ?_ fun y hy => hx y (List.mem_cons_of_mem _ hy)
    have := hx x (List.mem_cons_self ..)
    show 0 ≤ l.w + x.2
    omega
theorem loadsI_pos {b : SBook} (hb : Fit b) : ∀ l ∈ loadsI b, 0 ≤ l.w := by
  intro l hl
  obtain ⟨ws, h, rfl⟩ := mem_loadsI.1 hl
  exact loadW_pos _ _ (truthL_ok hb ws h).2
def ac22 : AC := (AC.seq (AC.ops [(AOp.mk (some 3) (AK.box 10 (AX.t 0)) none 0 false true), (AOp.mk (some 6) (AK.new (PV.agg [(PV.val (Value.int IntKind.i64 0)), (PV.val (Value.int IntKind.i64 0))])) none 1 false true), (AOp.mk (some 7) (AK.mv (AX.c (PV.val (Value.int IntKind.i64 0)))) none 2 false true)]) (AC.seq (AC.ops [(AOp.mk (some 11) (AK.ld (some 10) (AX.t 3)) none 0 true false), (AOp.mk (some 12) (AK.ld (some 10) (AX.t 3)) none 1 true false), (AOp.mk (some 13) (AK.mv (AX.t 1)) none 2 true false), (AOp.mk (some 14) (AK.call 69 [(AX.t 12), (AX.t 13)]) none 3 false false), (AOp.mk (some 15) (AK.mv (AX.t 14)) none 4 true false), (AOp.mk (some 16) (AK.ld (some 10) (AX.t 3)) (some (15, true)) 5 true false), (AOp.mk (some 17) (AK.mv (AX.t 2)) (some (15, true)) 6 true false), (AOp.mk (some 18) (AK.call 70 [(AX.t 16), (AX.t 17)]) (some (15, true)) 7 false false), (AOp.mk (some 19) (AK.pick (AX.t 15) (AX.t 18) (AX.c (PV.val (Value.bool false)))) none 8 true false), (AOp.mk (some 20) (AK.call 68 [(AX.t 11), (AX.t 19)]) none 9 false false), (AOp.mk (some 10) (AK.mv (AX.t 20)) none 10 true false), (AOp.mk (some 21) (AK.ext (AX.t 10) 0) none 11 true false), (AOp.mk (some 22) (AK.ext (AX.t 10) 1) none 12 true false), (AOp.mk (some 8) (AK.mv (AX.t 21)) none 13 true false), (AOp.mk (some 9) (AK.mv (AX.t 22)) none 14 true true)]) (AC.seq (AC.seq (AC.ops [(AOp.mk (some 23) (AK.mv (AX.t 9)) none 0 false true), (AOp.mk (some 24) (AK.bin false BinOp.neq (AX.t 23) (AX.c (PV.val (Value.int IntKind.i64 0)))) none 1 false true)]) (AC.cond (AX.t 24) (AC.seq (AC.ops [(AOp.mk (some 25) (AK.build [(PV.val (Value.int IntKind.i64 0)), (PV.val (Value.int IntKind.i64 0))] []) none 0 false true), (AOp.mk (some 26) (AK.mv (AX.t 9)) none 1 false true), (AOp.mk none (AK.st 2 (AX.t 6) (AX.t 25)) none 2 false true), (AOp.mk (some 7) (AK.mv (AX.t 26)) none 3 false true)]) AC.ret) AC.skip)) (AC.seq (AC.ops [(AOp.mk (some 27) (AK.mv (AX.t 8)) none 0 false true), (AOp.mk (some 28) (AK.mv (AX.t 1)) none 1 false true), (AOp.mk (some 29) (AK.mv (AX.t 2)) none 2 false true), (AOp.mk (some 30) (AK.build [(PV.val (Value.int IntKind.i64 0)), (PV.val (Value.int IntKind.i64 0))] [(0, (1, (AX.t 28))), (1, (1, (AX.t 29)))]) none 3 false true), (AOp.mk (some 31) (AK.call 74 [(AX.t 27), (AX.t 30)]) none 4 false true), (AOp.mk none (AK.st 2 (AX.t 6) (AX.t 31)) none 5 false true), (AOp.mk (some 7) (AK.mv (AX.c (PV.val (Value.int IntKind.i64 0)))) none 6 false true)]) AC.ret))))
theorem ac22_ok : cCode Try.prog (fun _ => false) Try.f22.ntmps (Try.f22.body.getD .skip) = some ac22 := by kernel_rfl
theorem MarginW_sem (k k2 : SK) (b : SBook) (w n : Int) : Sem1 22 [.agg (bookC k k2 b), pi w, pi n]
    (if errI b (childW b w n) = 0 then .tup [.agg [pi (lmI b w n (loadsI b)).2.1, pi (lmI b w n (loadsI b)).2.2], pi 0] else .tup [.agg [pi 0, pi 0], pi (errI b (childW b w n))]) := by
  obtain ⟨R, hR⟩ : ∃ R, (if errI b (childW b w n) = 0 then PV.tup [.agg [pi (lmI b w n (loadsI b)).2.1, pi (lmI b w n (loadsI b)).2.2], pi 0] else .tup [.agg [pi 0, pi 0], pi (errI b (childW b w n))]) = R := ⟨_, rfl⟩
  obtain ⟨e, he⟩ : ∃ e, childW b w n = e := ⟨_, rfl⟩
  rw [hR]
  rw [he] at hR
  have hc := he
  unfold childW at hc
  refine semC_of_exec' mixed Try.func22 (by kernel_rfl) (by kernel_rfl) ac22_ok 3 rfl (by decide) [(.cell 6 34), (.tmp 7)] (by kernel_rfl) ?_
  intro hr C hC hI
  unfold ac22
  simp only [go_sem, Nat.reduceBEq, Nat.reduceAdd]
  refine call_pure2 hC (hasWeight_sem k k2 b w) rfl (PVleL_refl _) ?_
  rintro r rfl
  simp only [go_sem, Nat.reduceBEq, Nat.reduceAdd]
  refine ⟨fun h1 => ?_, fun h1 => ?_⟩
  rotate_left
  · rw [decide_eq_false h1, Bool.false_and] at hc
    subst hc
    refine call_mem2 hC [] (trueHorse_sem k k2 b false _) rfl (by decide) rfl rfl rfl rfl (by simp) ?_
    rintro v L' ys' ⟨rfl, (⟨he2, rfl⟩ | ⟨he2, rfl, kl, rfl⟩)⟩ -
    · rw [if_neg he2] at hR
      simp only [go_sem, Nat.reduceBEq, Nat.reduceAdd, Nat.reduceLeDiff, upd0]
      exact ⟨fun _ => retQ_ct (show shapeN Try.prog 34 = some (some 2) by kernel_rfl) rfl rfl hR, fun h => absurd h he2⟩
    · exact absurd (errI_ok he2).2 (by decide)
  · rw [decide_eq_true h1, Bool.true_and] at hc
    refine call_pure2 hC (hasLeanW_sem k k2 b n) rfl (PVleL_refl _) ?_
    rintro r rfl
    simp only [go_sem, Nat.reduceBEq]
    rw [hc]
    refine call_mem2 hC [] (trueHorse_sem k k2 b e _) rfl (by decide) rfl rfl rfl rfl (by simp) ?_
    rintro v L' ys' ⟨rfl, (⟨he2, rfl⟩ | ⟨he2, rfl, kl, rfl⟩)⟩ -
    · rw [if_neg he2] at hR
      simp only [go_sem, Nat.reduceBEq, Nat.reduceAdd, Nat.reduceLeDiff, upd0]
      exact ⟨fun _ => retQ_ct (show shapeN Try.prog 34 = some (some 2) by kernel_rfl) rfl rfl hR, fun h => absurd h he2⟩
    · rw [if_pos he2] at hR
      obtain ⟨ho, hk⟩ := errI_ok he2
      have hlm := ok_lean ho
      have hkb : b.lean ≤ 40 ∧ 0 ≤ b.lean := ⟨hlm.1.2, hlm.1.1⟩
      rw [hk, decide_eq_true_eq, wrap_id (n := 0 - b.lean) (by omega) (by omega)] at hc
      simp only [go_sem, Nat.reduceBEq, Nat.reduceAdd, Nat.reduceLeDiff, upd0, mAt_nil, ren_horseM2]
      refine ⟨fun h => h.elim, fun _ => ?_⟩
      refine call_mem2 hC [5, 4] (leastMargin_sem false k k2 .sh kl b (loadsI b) (loadsI_horse ho.fit) (loadsI_pos ho.fit) [] w n (by omega) (by omega) _) rfl (by decide) ?_ ?_ ?_ rfl (by simp) ?_
      · simp only [List.map_cons, List.map_nil, ren_horseM]; rfl
      · simp only [List.all_cons, List.all_nil, turn_horse]; rfl
      · simp only [List.all_cons, List.all_nil, List.length_cons, List.length_nil, Nat.zero_add, Nat.reduceAdd, lo_horse]; rfl
      rintro v L' ys' ⟨rfl, rfl, hL⟩ -
      obtain ⟨X, rfl⟩ := take2 hL
      simp only [go_sem, Nat.reduceBEq, Nat.reduceAdd, upd2g]
      exact retQ_ct (show shapeN Try.prog 34 = some (some 2) by kernel_rfl) rfl rfl hR
theorem Tips_any (k k2 : SK) (b : SBook) (w n : Int) : Sem1 20 [.agg (bookC k k2 b), pi w, pi n]
    (if errI b (childI b w n) = 0 then .tup [pi (answerI b (loadsI b) w n), pi 0] else .tup [pi 0, pi (errI b (childI b w n))]) := by
  rw [← err_childW]; exact TipsW_sem k k2 b w n
theorem Margin_any (k k2 : SK) (b : SBook) (w n : Int) : Sem1 22 [.agg (bookC k k2 b), pi w, pi n]
    (if errI b (childI b w n) = 0 then .tup [.agg [pi (lmI b w n (loadsI b)).2.1, pi (lmI b w n (loadsI b)).2.2], pi 0] else .tup [.agg [pi 0, pi 0], pi (errI b (childI b w n))]) := by
  rw [← err_childW]; exact MarginW_sem k k2 b w n
end Go.Proofs.Ytaejmbmkkdkliaa
