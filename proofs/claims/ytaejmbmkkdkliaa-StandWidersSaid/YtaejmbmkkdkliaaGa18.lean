/- A variable that will not turn again is frozen at a call. Contracts of stand: horses with a lead, wider horses. Contracts of stand: wider horses. Contracts of stand: ratios. Contracts of stand: margins. Contracts of stand: the least margin. Contracts of stand: the least margin, of all truths. Contracts of stand: horses that can be true. Contracts of stand: what is asked. -/
import Derived.Test.YtaejmbmkkdkliaaGa13
import Derived.Test.YtaejmbmkkdkliaaGa17
namespace Go.Proofs.Ytaejmbmkkdkliaa
open Go.RowKit Go.Shelf

/-- A name of variable i, as a pointer to what never turns again. -/
def AV.fz (i : Nat) (l : List PV) : AV → AV
  | .loc id off => if id = i then .p (.ptr l off) else .loc id off
  | x => x
def ABlk.fz (i : Nat) (l : List PV) : ABlk → ABlk
  | .cells cs => .cells (cs.map (AV.fz i l))
  | .half cs => .half (cs.map (AV.fz i l))
  | b => b

section
variable {P : Program} {F : Fence} {E : Env P F} {g g' : GP} {rho ks : List Nat} {R : Nat → Prop} {loc : List ABlk} {live : List Nat} {ys : Option (List (List PV))} {w w' : World} {i : Nat} {l : List PV}

theorem Rel.fz (hz : ∀ (off : Nat) (v : Value), Rel g rho (.loc i off) v → RelP g (.ptr l off) v) {x : AV} {v : Value} (h : Rel g rho x v) : Rel g rho (x.fz i l) v := by
  cases x with
  | loc id off =>
    simp only [AV.fz]
    split
    · rename_i e; subst e; exact .p (hz off v h)
    · exact h
  | _ => exact h
theorem RelL.fz (hz : ∀ (off : Nat) (v : Value), Rel g rho (.loc i off) v → RelP g (.ptr l off) v) {cs : List AV} {vs : List Value} (h : RelL g rho cs vs) : RelL g rho (cs.map (AV.fz i l)) vs := by
  refine ⟨by simpa using h.len, h.one, fun j x v hx hv => ?_⟩
  rw [List.getElem?_map, Option.map_eq_some_iff] at hx
  obtain ⟨y, h1, rfl⟩ := hx
  exact (h.at_ j y v h1 hv).fz hz
theorem Inv.fz (h : Inv E g rho R ks loc live ys w) (hz : ∀ (off : Nat) (v : Value), Rel g rho (.loc i off) v → RelP g (.ptr l off) v) : Inv E g rho R ks (loc.map (ABlk.fz i l)) live ys w := by
  refine ⟨h.agree, h.fr, h.low, by simpa using h.len, fun id k b hk hb => ?_, h.rlt, fun id cs b hk hb => ?_, h.dis, h.toks, h.tdis, h.nodup, h.rsz, h.ksnd, h.marks⟩
  · rw [List.getElem?_map, Option.map_eq_some_iff] at hk
    obtain ⟨k0, h1, rfl⟩ := hk
    have := h.locs id k0 b h1 hb
    cases k0 with
    | cells cs => obtain ⟨vs, us, t, q1, q2⟩ := this; exact ⟨vs, us, t, q1, q2.fz hz⟩
    | half cs => obtain ⟨vs, us, t, q1, q2, q3⟩ := this; exact ⟨vs, us, t, q1, q2.fz hz, q3⟩
    | _ => exact this
  · rw [List.getElem?_map, Option.map_eq_some_iff] at hk
    obtain ⟨k0, h1, h2⟩ := hk
    cases k0 with
    | cells cs0 => exact h.own id cs0 b h1 hb
    | _ => cases h2
end
/-- What is called may be told that a variable does not turn again. -/
theorem semP_frz {P : Program} {F : Fence} {f : FuncId} {args : List AV} {rd : List Nat} {K : AV → AS → Prop} {s : AS} {i : Nat} {l : List PV} {L' : List ABlk} (hp : pur 100 s.loc (.loc i 0) = some (.ptr l 0, L'))
    (h : SemP P F f (args.map (AV.fz i l)) rd K { s with loc := L'.map (ABlk.fz i l) }) : SemP P F f args rd K s := by
  refine ⟨h.1, fun E g rho R ks w vs hI ha => ?_⟩
  obtain ⟨g1, hle, hI1, h2, _⟩ := pur_ok 100 hp hI
  have hz : ∀ (off : Nat) (v : Value), Rel g1 rho (.loc i off) v → RelP g1 (.ptr l off) v := fun off v hv => by
    cases hv with
    | @loc _ _ b hb =>
      have := h2 _ (.loc (off := 0) hb)
      generalize hv : Value.pointer (some ⟨b, 0, none⟩) = v0 at this
      cases this with
      | ptr _ _ b2 o2 f2 hat hh =>
        simp only [Value.pointer.injEq, Option.some.injEq, Addr.mk.injEq] at hv
        obtain ⟨rfl, h0, _⟩ := hv
        have h0 : o2 = 0 := by omega
        subst h0
        have := RelP.ptr (g := g1) l off b 0 f2 hat hh
        simpa using this
  refine (h.2 E g1 rho R ks w vs (hI1.fz hz) ⟨by simpa using ha.len, fun j x v hx hv => ?_⟩).mono ?_
  · rw [List.getElem?_map, Option.map_eq_some_iff] at hx
    obtain ⟨y, h3, rfl⟩ := hx
    exact ((ha.at_ j y v h3 hv).mono hle (Pre.refl _)).fz hz
  · rintro e w' ⟨v, av, g', rho', R', loc', live', ys', q0, q1, q2, q3, q4, q5, q6⟩
    exact ⟨v, av, g', rho', R', loc', live', ys', q0, q1, hle.trans q2, q3, q4, q5, q6⟩
/-- A call over exactly its blocks, a variable frozen before. -/
theorem call_frz {P : Program} {C : Con} (hC : ∀ f args rd K s, SemP P Fence.wide f args rd K s → C.call f args rd K s) {f : FuncId} {args args' : List AV} {L : List ABlk} {Q : AV → List ABlk → Option (List (List PV)) → Prop} {K : AV → AS → Prop} {s : AS} {rd : List Nat} (i : Nat) (l : List PV) {L1 : List ABlk} (hp : pur 100 s.loc (.loc i 0) = some (.ptr l 0, L1)) (I : List Nat)
    (h : SemM P Fence.wide f args L s.ys Q) (ha : args.map (AV.ren (mAt I L1.length)) = args'.map (AV.fz i l)) (hn : I.Nodup) (hL : L.map (fun k => some (k.ren (mAt I L1.length))) = I.map (fun j => (L1.map (ABlk.fz i l))[j]?))
    (hturn : (L.all ABlk.turns) = true) (hlo : (L.all (ABlk.lo L.length)) = true) (hal : AV.lo.loL L.length args = true) (hrd : ∀ id ∈ rd, id ∉ I)
    (hK : ∀ (r : AV) (L' : List ABlk) (ys' : Option (List (List PV))), Q r L' ys' → L.length ≤ L'.length → K (r.ren (mAt I L1.length)) { s with loc := updL (L1.map (ABlk.fz i l)) I L', ys := ys' }) : C.call f args' rd K s := by
  refine hC _ _ _ _ _ (semP_frz hp ?_)
  rw [← ha]
  have hl : I.length = L.length := by have := congrArg List.length hL; simpa using this.symm
  have hle : (L1.map (ABlk.fz i l)).length = L1.length := List.length_map ..
  rw [show L1.length = ({ s with loc := L1.map (ABlk.fz i l) } : AS).loc.length from hle.symm] at hL hK ⊢
  refine call_mem (s := { s with loc := L1.map (ABlk.fz i l) }) h hn hl (fun j k hj => ?_) hturn hlo hal hrd hK
  have hj2 : j < I.length := by rw [hl]; exact (List.getElem?_eq_some_iff.1 hj).1
  refine ⟨I[j], List.getElem?_eq_getElem hj2, ?_⟩
  have := congrArg (fun l => l[j]?) hL
  simp only [List.getElem?_map, hj, List.getElem?_eq_getElem hj2, Option.map_some, Option.some.injEq] at this
  have h3 := this.symm
  rw [← List.getElem?_map] at h3
  exact h3
theorem upd0 {M X : List ABlk} : updL M [] X = M ++ X.map (ABlk.ren (mAt [] M.length)) := by simp [updL, setAll_nil]
end Go.Proofs.Ytaejmbmkkdkliaa
namespace Go.Proofs.Ytaejmbmkkdkliaa
open Go.RowKit
theorem newBookM_sem (k k2 : SK) (b : SBook) (hk : b.kind = 0 ∨ b.kind = 1) (ys : Option (List (List PV))) :
    SemM Try.prog Fence.wide 61 [.p (.agg (bookC k k2 b))] [] ys
      (fun v L' ys' => v = .loc 1 0 ∧ ys' = ys ∧ ∃ ks, L' = [.cells ((bookC k k2 b).map .p), .cells ((bookC k k2 b).map .p ++ [.p (.sl ks 2 (sidesL b.kind))])]) := by
  refine semM_of_exec' mixed Try.func61 (by kernel_rfl) (by kernel_rfl) ac61_ok 1 rfl (by decide) [.tmp 2] (by kernel_rfl) ?_
  intro C hC hI
  unfold ac61
  simp only [go_sem, Nat.reduceBEq, Nat.reduceAdd, Nat.reduceLeDiff]
  refine call_pure2 hC (sides_sem) rfl trivial ?_
  rintro r rfl
  simp only [go_sem, Nat.reduceBEq, show (sidesL 0 ++ sidesL 1).length = 4 from rfl]
  refine ⟨{x : Nat × Option Nat // x.1 ≤ 4 ∧ (x.2 = none → selSides b.kind x.1 = [])}, fun x => ⟨[(11, .p (pi x.1.1)), (10, .p (pi 4)), (9, .p (.sl .full 2 (sidesL 0 ++ sidesL 1))), (3, .loc 1 0), (1, .loc 0 0)], [.cells ((bookC k k2 b).map .p), .cells ((bookC k k2 b).map .p ++ [.p (slO x.1.2 (selSides b.kind x.1.1))])], x.1.2.toList, ys, 0⟩, fun x => 4 - x.1.1, ⟨(0, none), by simp, fun _ => by simp [selSides]⟩, by simp [Wk, wkT, wkL, look, AV.lo, AV.lo.loL, slO], ?_⟩
  rintro ⟨⟨j, o⟩, hj, ho⟩
  simp only [go_sem, Nat.reduceBEq]
  refine ⟨fun h5 => ?_, fun h5 => ?_⟩
  · have hj4 : j < 4 := by omega
    have hs := sel_next hk hj4
    have hl := sel_len b.kind j
    simp only [go_sem, Nat.reduceBEq, Nat.reduceAdd, side_at hj4, wrap_succ (k := j) (by omega)]
    refine ⟨fun h6 => ?_, fun h6 => ?_⟩
    · rw [if_pos h6] at hs
      cases o with
      | none =>
        have h0 := ho rfl
        simp only at h0
        rw [h0] at hs
        simp only [slO]
        simp only [go_sem, Nat.reduceBEq, Nat.reduceAdd, Nat.reduceLeDiff, Nat.reduceEqDiff, wrap_succ (k := j) (by omega)]
        intro t _
        refine ⟨⟨(j + 1, some t), by simp only; omega, fun h => by cases h⟩, by simp only; omega, ?_⟩
        simp only [hs]
        exact by simp [Wk, wkT, wkL, look, AV.lo, AV.lo.loL]
      | some t =>
        simp only [slO]
        simp only [go_sem, Nat.reduceBEq, Nat.reduceAdd, Nat.reduceLeDiff, Nat.reduceEqDiff, wrap_succ (k := j) (by omega)]
        refine ⟨by omega, by simp, fun t2 _ => ?_⟩
        refine ⟨⟨(j + 1, some t2), by simp only; omega, fun h => by cases h⟩, by simp only; omega, ?_⟩
        simp only [hs]
        exact by simp [Wk, wkT, wkL, look, AV.lo, AV.lo.loL]
    · rw [if_neg h6] at hs
      refine ⟨⟨(j + 1, o), by simp only; omega, fun h => by simp only; rw [hs]; exact ho h⟩, by simp only; omega, ?_⟩
      simp only [hs]
      cases o <;> exact by simp [Wk, wkT, wkL, look, AV.lo, AV.lo.loL]
  · have hjn : j = 4 := by simp only at hj h5; omega
    subst hjn
    cases o with
    | none =>
      have := ho rfl
      simp only at this
      rw [sel_all hk] at this
      unfold sidesL at this
      split at this <;> cases this
    | some t =>
      simp only [slO, sel_all hk]
      exact retMQ_one rfl ⟨rfl, rfl, _, rfl⟩
def ac85 : AC := (AC.seq (AC.ops [(AOp.mk (some 6) (AK.mv (AX.c PV.nilp)) none 0 false true)]) (AC.seq (AC.ops [(AOp.mk (some 10) (AK.mv (AX.t 0)) none 0 false true), (AOp.mk (some 11) (AK.nilc (AX.t 10)) none 1 false true), (AOp.mk (some 12) (AK.fadr 0 (AX.t 11)) none 2 false true), (AOp.mk (some 13) (AK.ld none (AX.t 12)) none 3 false true), (AOp.mk (some 14) AK.mkm none 4 false true), (AOp.mk (some 15) (AK.build [PV.nilp, (PV.sl SK.full 0 []), PV.any] [(0, (1, (AX.t 13))), (2, (1, (AX.t 14)))]) none 5 false true), (AOp.mk (some 16) (AK.box 3 (AX.t 15)) none 6 false true), (AOp.mk (some 7) (AK.mv (AX.t 16)) none 7 false true)]) (AC.seq (AC.seq (AC.ops [(AOp.mk (some 17) (AK.mv (AX.t 0)) none 0 false true), (AOp.mk (some 18) (AK.nilc (AX.t 17)) none 1 false true), (AOp.mk (some 19) (AK.fadr 1 (AX.t 18)) none 2 false true), (AOp.mk (some 20) (AK.ld none (AX.t 19)) none 3 false true), (AOp.mk (some 21) (AK.len (AX.t 20)) none 4 false true), (AOp.mk (some 22) (AK.mv (AX.c (PV.val (Value.int IntKind.i64 0)))) none 5 false true)]) (AC.block 0 (AC.loop (AC.seq (AC.ops [(AOp.mk (some 23) (AK.bin false BinOp.lss (AX.t 22) (AX.t 21)) none 0 false true)]) (AC.seq (AC.cond (AX.t 23) AC.skip (AC.exit 0)) (AC.seq (AC.block 1 (AC.seq (AC.ops [(AOp.mk (some 24) (AK.iadrS 3 (AX.t 20) (AX.t 22)) none 0 false true), (AOp.mk (some 25) (AK.ld (some 3) (AX.t 24)) none 1 false true), (AOp.mk (some 9) (AK.new (PV.agg [(PV.val (Value.int IntKind.i64 0)), (PV.val (Value.int IntKind.i64 0)), (PV.val (Value.int IntKind.i64 0))])) none 2 false true), (AOp.mk none (AK.st 3 (AX.t 9) (AX.t 25)) none 3 false true)]) (AC.ops [(AOp.mk (some 26) (AK.mv (AX.t 7)) none 0 true false), (AOp.mk (some 27) (AK.mv (AX.t 7)) none 1 true false), (AOp.mk (some 28) (AK.nilc (AX.t 27)) none 2 true false), (AOp.mk (some 29) (AK.fadr 1 (AX.t 28)) none 3 true false), (AOp.mk (some 30) (AK.ld none (AX.t 29)) none 4 true false), (AOp.mk (some 31) (AK.ld (some 3) (AX.t 9)) none 5 true false), (AOp.mk (some 32) (AK.mv (AX.t 1)) none 6 true false), (AOp.mk (some 33) (AK.mv (AX.t 2)) none 7 true false), (AOp.mk (some 34) (AK.call 110 [(AX.t 31), (AX.t 32), (AX.t 33), (AX.c (PV.val (Value.int IntKind.i64 0)))]) none 8 false false), (AOp.mk (some 35) (AK.bslice false 131 3 1 [(PV.val (Value.int IntKind.i64 0)), (PV.val (Value.int IntKind.i64 0)), (PV.val (Value.int IntKind.i64 0))] [(0, (3, (AX.t 34)))]) none 9 false false), (AOp.mk (some 36) (AK.app false 131 3 24 [(PV.val (Value.int IntKind.i64 0)), (PV.val (Value.int IntKind.i64 0)), (PV.val (Value.int IntKind.i64 0))] (AX.t 30) (AX.t 35)) none 10 false false), (AOp.mk (some 37) (AK.nilc (AX.t 26)) none 11 true false), (AOp.mk (some 38) (AK.fadr 1 (AX.t 37)) none 12 true false), (AOp.mk none (AK.st 1 (AX.t 38) (AX.t 36)) none 13 false true)]))) (AC.ops [(AOp.mk (some 39) (AK.bin false BinOp.add (AX.t 22) (AX.c (PV.val (Value.int IntKind.i64 1)))) none 0 false true), (AOp.mk (some 22) (AK.mv (AX.t 39)) none 1 false true)]))))))) (AC.seq (AC.ops [(AOp.mk (some 40) (AK.mv (AX.t 7)) none 0 false true), (AOp.mk (some 6) (AK.mv (AX.t 40)) none 1 false true)]) AC.ret))))
theorem ac85_ok : cCode Try.prog (fun _ => false) Try.f85.ntmps (Try.f85.body.getD .skip) = some ac85 := by kernel_rfl
/-- A horse that remembers in map i. -/
def horseM (t : Bool) (i : Nat) (bp : PV) (kl : SK) (ls : List SLoad) : ABlk := if t then .half [.p bp, .p (.sl kl 3 (ls.map fun l => loadC l)), .mpl i] else .cells [.p bp, .p (.sl kl 3 (ls.map fun l => loadC l)), .mpl i]
theorem ren_horseM {t : Bool} {bp : PV} {kl : SK} {ls : List SLoad} {a c n : Nat} : ABlk.ren (mAt [a, c] n) (horseB t bp kl ls) = horseM t c bp kl ls := by cases t <;> rfl
theorem ren_horseM2 {t : Bool} {bp : PV} {kl : SK} {ls : List SLoad} {i n : Nat} {I : List Nat} : ABlk.ren (mAt I n) (horseM t i bp kl ls) = horseM t (mAt I n i) bp kl ls := by cases t <;> rfl
/-- The loads with a lead. -/
def leadL (ls : List SLoad) (lead along : Int) : List SLoad := ls.map fun l => l.add lead along 0
theorem withLead_sem (t : Bool) (k k2 ks kl : SK) (b : SBook) (ls : List SLoad) (hls : ∀ l ∈ ls, l.ok 1000) (hln : ls.length ≤ 1000000) (hne : ls ≠ []) (m : List ((Int × Int) × Int)) (lead along : Int) (hl : 0 ≤ lead ∧ lead ≤ 99) (ha : -60 ≤ along ∧ along ≤ 60) (ys : Option (List (List PV))) :
    SemM Try.prog Fence.wide 85 [.loc 0 0, .p (pi lead), .p (pi along)] [horseB t (bookP k k2 ks b) kl ls, .mp (memoC m)] ys
      (fun v L' ys' => v = .loc 3 0 ∧ ys' = ys ∧ ∃ kl2, L'.take 4 = [horseB t (bookP k k2 ks b) kl ls, .mp (memoC m), .mp (memoC []), horseM false 2 (bookP k k2 ks b) kl2 (leadL ls lead along)]) := by
  refine semM_of_exec' mixed Try.func85 (by kernel_rfl) (by kernel_rfl) ac85_ok 3 rfl (by decide) [.tmp 6] (by kernel_rfl) ?_
  intro C hC hI
  unfold ac85
  obtain ⟨u, hu⟩ : ∃ u, u = t := ⟨_, rfl⟩
  cases t
  all_goals
    simp only [horseB, if_true, Bool.false_eq_true, if_false]
    simp only [go_sem, Nat.reduceBEq, Nat.reduceAdd, Nat.reduceLeDiff, List.length_map]
    refine ⟨{x : Nat × Option Nat // x.1 ≤ ls.length ∧ (x.2 = none → x.1 = 0)}, fun x => ⟨[(22, .p (pi x.1.1)), (21, .p (pi ls.length)), (20, .p (.sl kl 3 (ls.map fun l => loadC l))), (7, .loc 3 0), (0, .loc 0 0), (1, .p (pi lead)), (2, .p (pi along))], [horseB u (bookP k k2 ks b) kl ls, .mp (memoC m), .mp (memoC []), .cells [.p (bookP k k2 ks b), .p (slL x.1.2 (leadL (ls.take x.1.1) lead along)), .mpl 2]], x.1.2.toList, ys, 2⟩, fun x => ls.length - x.1.1, ⟨(0, none), by simp, fun _ => rfl⟩, by subst hu; simp [Wk, wkT, wkL, look, AV.lo, AV.lo.loL, slL, horseB, memoC], ?_⟩
    rintro ⟨⟨j, o⟩, hj, ho⟩
    simp only [go_sem, Nat.reduceBEq]
    refine ⟨fun h5 => ?_, fun h5 => ?_⟩
    · have hj2 : j < ls.length := by omega
      have hnx : leadL (ls.take (j + 1)) lead along = leadL (ls.take j) lead along ++ [ls[j].add lead along 0] := by
        unfold leadL
        rw [List.take_succ_eq_append_getElem hj2, List.map_append]; rfl
      have hll : (leadL (ls.take j) lead along).length ≤ j := by unfold leadL; rw [List.length_map, List.length_take]; omega
      have hlo := hls _ (List.getElem_mem hj2)
      simp only [go_sem, Nat.reduceBEq, Nat.reduceAdd, iadr_map (f := fun l => loadC l) hj2]
      refine call_pure2 hC (with_sem ls[j] lead along 0 hlo (by omega) (by omega) (by omega)) rfl (PVleL_refl _) ?_
      rintro r rfl
      simp only [go_sem, Nat.reduceBEq, Nat.reduceAdd]
      cases o with
      | none =>
        have h0 := ho rfl
        simp only at h0
        subst h0
        simp only [slL]
        simp only [go_sem, Nat.reduceBEq, Nat.reduceAdd, Nat.reduceLeDiff, Nat.reduceEqDiff, wrap_succ (k := 0) (by omega)]
        intro tk _
        refine ⟨⟨(0 + 1, some tk), by simp only; omega, fun h => by cases h⟩, by simp only; omega, ?_⟩
        have h00 : leadL (ls.take 0) lead along = [] := rfl
        rw [h00] at hnx
        subst hu
        simp only [hnx]
        simp [Wk, wkT, wkL, look, AV.lo, AV.lo.loL, horseB, memoC]
      | some tk =>
        simp only [slL]
        simp only [go_sem, Nat.reduceBEq, Nat.reduceAdd, Nat.reduceLeDiff, Nat.reduceEqDiff, wrap_succ (k := j) (by omega)]
        refine ⟨by rw [List.length_map]; omega, by simp, fun t2 _ => ?_⟩
        refine ⟨⟨(j + 1, some t2), by simp only; omega, fun h => by cases h⟩, by simp only; omega, ?_⟩
        subst hu
        simp only [hnx, List.map_append]
        simp [Wk, wkT, wkL, look, AV.lo, AV.lo.loL, horseB, memoC]
    · have hjn : j = ls.length := by simp only at hj h5; omega
      subst hjn
      cases o with
      | none =>
        have := ho rfl
        exact absurd (List.eq_nil_of_length_eq_zero this) hne
      | some tk =>
        simp only [slL, List.take_length]
        subst hu
        exact retMQ_one rfl ⟨rfl, rfl, _, rfl⟩
end Go.Proofs.Ytaejmbmkkdkliaa
namespace Go.Proofs.Ytaejmbmkkdkliaa
open Go.RowKit
def ac88 : AC := (AC.seq (AC.ops [(AOp.mk (some 4) (AK.mv (AX.c PV.nilp)) none 0 false true)]) (AC.seq (AC.ops [(AOp.mk (some 6) (AK.mv (AX.t 0)) none 0 false true), (AOp.mk (some 7) (AK.nilc (AX.t 6)) none 1 false true), (AOp.mk (some 8) (AK.fadr 0 (AX.t 7)) none 2 false true), (AOp.mk (some 9) (AK.ld none (AX.t 8)) none 3 false true), (AOp.mk (some 10) (AK.nilc (AX.t 9)) none 4 false true), (AOp.mk (some 11) (AK.fadr 0 (AX.t 10)) none 5 false true), (AOp.mk (some 12) (AK.ld (some 10) (AX.t 11)) none 6 false true), (AOp.mk (some 13) (AK.call 61 [(AX.t 12)]) none 7 false true), (AOp.mk (some 5) (AK.mv (AX.t 13)) none 8 false true)]) (AC.seq (AC.ops [(AOp.mk (some 14) (AK.mv (AX.t 5)) none 0 false true), (AOp.mk (some 15) (AK.nilc (AX.t 14)) none 1 false true), (AOp.mk (some 16) (AK.fadr 0 (AX.t 15)) none 2 false true), (AOp.mk (some 17) (AK.fadr 1 (AX.t 16)) none 3 false true), (AOp.mk (some 18) (AK.ld none (AX.t 17)) none 4 false true), (AOp.mk (some 19) (AK.mv (AX.t 1)) none 5 false true), (AOp.mk (some 20) (AK.bin false BinOp.add (AX.t 18) (AX.t 19)) none 6 false true), (AOp.mk (some 21) (AK.nilc (AX.t 14)) none 7 false true), (AOp.mk (some 22) (AK.fadr 0 (AX.t 21)) none 8 false true), (AOp.mk (some 23) (AK.fadr 1 (AX.t 22)) none 9 false true), (AOp.mk none (AK.st 1 (AX.t 23) (AX.t 20)) none 10 false true)]) (AC.seq (AC.ops [(AOp.mk (some 24) (AK.mv (AX.t 5)) none 0 false true), (AOp.mk (some 25) (AK.nilc (AX.t 24)) none 1 false true), (AOp.mk (some 26) (AK.fadr 0 (AX.t 25)) none 2 false true), (AOp.mk (some 27) (AK.fadr 2 (AX.t 26)) none 3 false true), (AOp.mk (some 28) (AK.ld none (AX.t 27)) none 4 false true), (AOp.mk (some 29) (AK.mv (AX.t 1)) none 5 false true), (AOp.mk (some 30) (AK.bin false BinOp.add (AX.t 28) (AX.t 29)) none 6 false true), (AOp.mk (some 31) (AK.nilc (AX.t 24)) none 7 false true), (AOp.mk (some 32) (AK.fadr 0 (AX.t 31)) none 8 false true), (AOp.mk (some 33) (AK.fadr 2 (AX.t 32)) none 9 false true), (AOp.mk none (AK.st 1 (AX.t 33) (AX.t 30)) none 10 false true)]) (AC.seq (AC.ops [(AOp.mk (some 34) (AK.mv (AX.t 5)) none 0 false true), (AOp.mk (some 35) (AK.mv (AX.t 0)) none 1 false true), (AOp.mk (some 36) (AK.nilc (AX.t 35)) none 2 false true), (AOp.mk (some 37) (AK.fadr 1 (AX.t 36)) none 3 false true), (AOp.mk (some 38) (AK.ld none (AX.t 37)) none 4 false true), (AOp.mk (some 39) AK.mkm none 5 false true), (AOp.mk (some 40) (AK.build [PV.nilp, (PV.sl SK.full 0 []), PV.any] [(0, (1, (AX.t 34))), (1, (1, (AX.t 38))), (2, (1, (AX.t 39)))]) none 6 false true), (AOp.mk (some 41) (AK.box 3 (AX.t 40)) none 7 false true), (AOp.mk (some 4) (AK.mv (AX.t 41)) none 8 false true)]) AC.ret)))))
theorem ac88_ok : cCode Try.prog (fun _ => false) Try.f88.ntmps (Try.f88.body.getD .skip) = some ac88 := by kernel_rfl
/-- A wider book. -/
def wideB (b : SBook) (more : Int) : SBook := { b with front := b.front + more, back := b.back + more }
theorem wider_sem (t : Bool) (k k2 ks kl : SK) (b : SBook) (hb : Fit b) (ls : List SLoad) (m : List ((Int × Int) × Int)) (more : Int) (hm : 0 ≤ more ∧ more ≤ 20) (ys : Option (List (List PV))) :
    SemM Try.prog Fence.wide 88 [.loc 0 0, .p (pi more)] [horseB t (bookP k k2 ks b) kl ls, .mp (memoC m)] ys
      (fun v L' ys' => v = .loc 5 0 ∧ ys' = ys ∧ ∃ ks2, L' = [horseB t (bookP k k2 ks b) kl ls, .mp (memoC m), .cells ((bookC k k2 b).map .p), .cells ((bookC k k2 (wideB b more)).map .p ++ [.p (.sl ks2 2 (sidesL b.kind))]), .mp (memoC []), .cells [.loc 3 0, .p (.sl kl 3 (ls.map fun l => loadC l)), .mpl 4]]) := by
  refine semM_of_exec' mixed Try.func88 (by kernel_rfl) (by kernel_rfl) ac88_ok 2 rfl (by decide) [.tmp 4] (by kernel_rfl) ?_
  intro C hC hI
  unfold ac88
  have hsm := hb.small
  unfold small at hsm
  cases t
  all_goals
    simp only [horseB, if_true, Bool.false_eq_true, if_false]
    simp only [go_sem, Nat.reduceBEq, Nat.reduceAdd, Nat.reduceLeDiff]
    refine call_mem2 hC [] (newBookM_sem k k2 b hb.kind ys) rfl (by decide) rfl rfl rfl rfl (by simp) ?_
    rintro v L' ys' ⟨rfl, rfl, ks2, rfl⟩ -
    simp only [go_sem, Nat.reduceBEq, Nat.reduceAdd, Nat.reduceLeDiff, upd0, mAt_nil, wrap_id (n := b.front + more) (by omega) (by omega), wrap_id (n := b.back + more) (by omega) (by omega)]
    exact retMQ_one rfl ⟨rfl, rfl, ks2, rfl⟩
def ac106 : AC := (AC.seq (AC.ops [(AOp.mk (some 2) (AK.box 2 (AX.t 0)) none 0 false true), (AOp.mk (some 3) (AK.box 2 (AX.t 1)) none 1 false true), (AOp.mk (some 4) (AK.mv (AX.c (PV.val (Value.bool false)))) none 2 false true)]) (AC.seq (AC.ops [(AOp.mk (some 5) (AK.fadr 0 (AX.t 2)) none 0 false true), (AOp.mk (some 6) (AK.ld none (AX.t 5)) none 1 false true), (AOp.mk (some 7) (AK.fadr 1 (AX.t 3)) none 2 false true), (AOp.mk (some 8) (AK.ld none (AX.t 7)) none 3 false true), (AOp.mk (some 9) (AK.bin false BinOp.mul (AX.t 6) (AX.t 8)) none 4 false true), (AOp.mk (some 10) (AK.fadr 0 (AX.t 3)) none 5 false true), (AOp.mk (some 11) (AK.ld none (AX.t 10)) none 6 false true), (AOp.mk (some 12) (AK.fadr 1 (AX.t 2)) none 7 false true), (AOp.mk (some 13) (AK.ld none (AX.t 12)) none 8 false true), (AOp.mk (some 14) (AK.bin false BinOp.mul (AX.t 11) (AX.t 13)) none 9 false true), (AOp.mk (some 15) (AK.bin false BinOp.lss (AX.t 9) (AX.t 14)) none 10 false true), (AOp.mk (some 4) (AK.mv (AX.t 15)) none 11 false true)]) AC.ret))
theorem ac106_ok : cCode Try.prog (fun _ => false) Try.f106.ntmps (Try.f106.body.getD .skip) = some ac106 := by kernel_rfl
/-- Is a ratio less than another? -/
def lessI (p q r s : Int) : Bool := decide (p * s < r * q)
theorem lesser_sem (p q r s : Int) (hp : -1000000000 ≤ p ∧ p ≤ 1000000000) (hq : -1000000 ≤ q ∧ q ≤ 1000000) (hr : -1000000000 ≤ r ∧ r ≤ 1000000000) (hs : -1000000 ≤ s ∧ s ≤ 1000000) : Sem1 106 [.agg [pi p, pi q], .agg [pi r, pi s]] (pb (lessI p q r s)) := by
  have k1 := mulb 1000000000 1000000 hp hs
  have k2 := mulb 1000000000 1000000 hr hq
  refine semC_of_exec' mixed Try.func106 (by kernel_rfl) (by kernel_rfl) ac106_ok 2 rfl (by decide) [(.tmp 4)] (by kernel_rfl) ?_
  intro hr C hC hI
  unfold ac106
  simp only [go_sem, Nat.reduceBEq, Nat.reduceAdd, wrap_id (n := p * s) (by omega) (by omega), wrap_id (n := r * q) (by omega) (by omega)]
  exact retQ_one rfl rfl
end Go.Proofs.Ytaejmbmkkdkliaa
namespace Go.Proofs.Ytaejmbmkkdkliaa
open Go.RowKit
def ac131 : AC := (AC.seq (AC.ops [(AOp.mk (some 4) (AK.mv (AX.c (PV.val (Value.int IntKind.i64 0)))) none 0 false true)]) (AC.seq (AC.ops [(AOp.mk (some 5) (AK.mv (AX.t 0)) none 0 false true), (AOp.mk (some 6) (AK.mv (AX.t 0)) none 1 false true), (AOp.mk (some 7) (AK.un UnOp.neg (AX.t 6)) none 2 false true), (AOp.mk (some 8) (AK.mx true [(AX.t 5), (AX.t 7)]) none 3 false true), (AOp.mk (some 0) (AK.mv (AX.t 8)) none 4 false true)]) (AC.seq (AC.block 0 (AC.loop (AC.seq (AC.seq (AC.ops [(AOp.mk (some 9) (AK.mv (AX.t 0)) none 0 false true), (AOp.mk (some 10) (AK.bin false BinOp.gtr (AX.t 9) (AX.c (PV.val (Value.int IntKind.i64 0)))) none 1 false true)]) (AC.cond (AX.t 10) AC.skip (AC.exit 0))) (AC.block 1 (AC.ops [(AOp.mk (some 11) (AK.mv (AX.t 1)) none 0 false true), (AOp.mk (some 12) (AK.mv (AX.t 0)) none 1 false true), (AOp.mk (some 13) (AK.bin false BinOp.rem (AX.t 11) (AX.t 12)) none 2 false true), (AOp.mk (some 14) (AK.mv (AX.t 0)) none 3 false true), (AOp.mk (some 0) (AK.mv (AX.t 13)) none 4 false true), (AOp.mk (some 1) (AK.mv (AX.t 14)) none 5 false true)]))))) (AC.seq (AC.ops [(AOp.mk (some 15) (AK.mv (AX.t 1)) none 0 false true), (AOp.mk (some 4) (AK.mv (AX.t 15)) none 1 false true)]) AC.ret))))
theorem ac131_ok : cCode Try.prog (fun _ => false) Try.f131.ntmps (Try.f131.body.getD .skip) = some ac131 := by kernel_rfl
def ac123 : AC := (AC.seq (AC.ops [(AOp.mk (some 4) (AK.new (PV.agg [(PV.val (Value.int IntKind.i64 0)), (PV.val (Value.int IntKind.i64 0))])) none 0 false true)]) (AC.seq (AC.ops [(AOp.mk (some 6) (AK.mv (AX.t 0)) none 0 false true), (AOp.mk (some 7) (AK.mv (AX.t 1)) none 1 false true), (AOp.mk (some 8) (AK.call 131 [(AX.t 6), (AX.t 7)]) none 2 false true), (AOp.mk (some 5) (AK.mv (AX.t 8)) none 3 false true)]) (AC.seq (AC.ops [(AOp.mk (some 9) (AK.mv (AX.t 0)) none 0 true false), (AOp.mk (some 10) (AK.mv (AX.t 5)) none 1 true false), (AOp.mk (some 11) (AK.bin false BinOp.quo (AX.t 9) (AX.t 10)) none 2 true false), (AOp.mk (some 12) (AK.mv (AX.t 1)) none 3 true false), (AOp.mk (some 13) (AK.mv (AX.t 5)) none 4 true false), (AOp.mk (some 14) (AK.bin false BinOp.quo (AX.t 12) (AX.t 13)) none 5 true false), (AOp.mk (some 15) (AK.build [(PV.val (Value.int IntKind.i64 0)), (PV.val (Value.int IntKind.i64 0))] [(0, (1, (AX.t 11))), (1, (1, (AX.t 14)))]) none 6 true false), (AOp.mk none (AK.st 2 (AX.t 4) (AX.t 15)) none 7 false true)]) AC.ret)))
theorem ac123_ok : cCode Try.prog (fun _ => false) Try.f123.ntmps (Try.f123.body.getD .skip) = some ac123 := by kernel_rfl
theorem gcd_tmod {x y : Int} (hx : 0 < x) (hy : 0 ≤ y) : Int.gcd (y.tmod x) x = Int.gcd x y := by
  rw [Int.tmod_eq_emod_of_nonneg hy]
  obtain ⟨m, rfl⟩ := Int.eq_ofNat_of_zero_le (Int.le_of_lt hx)
  obtain ⟨n, rfl⟩ := Int.eq_ofNat_of_zero_le hy
  have e : ((n : Int) % (m : Int)) = ((n % m : Nat) : Int) := by omega
  rw [e]
  exact (Nat.gcd_rec m n).symm
theorem divisor_sem (a b : Int) (ha : -1000000000 ≤ a ∧ a ≤ 1000000000) (hb : 0 ≤ b ∧ b ≤ 1000000000) : Sem1 131 [pi a, pi b] (pi (Int.gcd a b)) := by
  refine semC_of_exec' mixed Try.func131 (by kernel_rfl) (by kernel_rfl) ac131_ok 2 rfl (by decide) [(.tmp 4)] (by kernel_rfl) ?_
  intro hr C hC hI
  unfold ac131
  simp only [go_sem, Nat.reduceBEq]
  rw [wrap_id (n := 0 - a) (by omega) (by omega)]
  have hm : maxI true a (0 - a) = (a.natAbs : Int) := by unfold maxI; simp; omega
  rw [hm]
  refine ⟨{x : Int × Int // (0 ≤ x.1 ∧ x.1 ≤ 1000000000) ∧ (0 ≤ x.2 ∧ x.2 ≤ 1000000000) ∧ Int.gcd x.1 x.2 = Int.gcd a b}, fun x => ⟨[(0, .p (pi x.1.1)), (1, .p (pi x.1.2))], [], [], some [], 0⟩, fun x => x.1.1.toNat, ⟨((a.natAbs : Int), b), by simp only; refine ⟨by omega, by omega, ?_⟩; simp [Int.gcd]⟩, by simp [Wk, wkT, wkL, look, AV.lo], ?_⟩
  rintro ⟨⟨x, y⟩, h1, h2, h3⟩
  simp only at h1 h2 h3
  simp only [go_sem, Nat.reduceBEq]
  refine ⟨fun h5 => ?_, fun h5 => ?_⟩
  · have hmod : 0 ≤ y.tmod x ∧ y.tmod x < x := by
      rw [Int.tmod_eq_emod_of_nonneg h2.1]
      exact ⟨Int.emod_nonneg _ (by omega), Int.emod_lt_of_pos _ h5⟩
    simp only [go_sem, Nat.reduceBEq, bin_rem (k := .i64) (a := y) (b := x) (by omega)]
    refine ⟨⟨(y.tmod x, x), by simp only; omega, by simp only; omega, by simp only; rw [gcd_tmod h5 h2.1, h3]⟩, by simp only; omega, ?_⟩
    exact by simp [Wk, wkT, wkL, look, AV.lo]
  · have hx : x = 0 := by omega
    subst hx
    have : Int.gcd 0 y = y.natAbs := by simp
    refine retQ_one rfl ?_
    rw [← h3, this]
    congr 2
    omega
theorem reduced_sem (a b : Int) (ha : -1000000000 ≤ a ∧ a ≤ 1000000000) (hb : 1 ≤ b ∧ b ≤ 1000000000) : Sem1 123 [pi a, pi b] (.agg [pi (a.tdiv (Int.gcd a b)), pi (b.tdiv (Int.gcd a b))]) := by
  have hg : 0 < Int.gcd a b := Int.gcd_pos_of_ne_zero_right _ (by omega)
  refine semC_of_exec' mixed Try.func123 (by kernel_rfl) (by kernel_rfl) ac123_ok 2 rfl (by decide) [(.cell 4 34)] (by kernel_rfl) ?_
  intro hr C hC hI
  unfold ac123
  simp only [go_sem, Nat.reduceBEq]
  refine call_pure2 hC (divisor_sem a b ha (by omega)) rfl (PVleL_refl _) ?_
  rintro r rfl
  simp only [go_sem, Nat.reduceBEq]
  have q1 : (a.tdiv (Int.gcd a b)).natAbs ≤ a.natAbs := by rw [Int.natAbs_tdiv]; exact Nat.div_le_self _ _
  have q2 : (b.tdiv (Int.gcd a b)).natAbs ≤ b.natAbs := by rw [Int.natAbs_tdiv]; exact Nat.div_le_self _ _
  simp only [go_sem, Nat.reduceBEq, Nat.reduceAdd, Nat.reduceLeDiff, bin_quo (k := .i64) (a := a) (b := (Int.gcd a b : Int)) (by omega), bin_quo (k := .i64) (a := b) (b := (Int.gcd a b : Int)) (by omega), wrap_id (n := a.tdiv (Int.gcd a b)) (by omega) (by omega), wrap_id (n := b.tdiv (Int.gcd a b)) (by omega) (by omega)]
  exact retQ_cell (n := some 2) (by kernel_rfl) rfl rfl
end Go.Proofs.Ytaejmbmkkdkliaa
namespace Go.Proofs.Ytaejmbmkkdkliaa
open Go.RowKit
theorem topI_b {b : SBook} {l : SLoad} (hb : small b) (hl : l.ok 10000) : -1000000000 ≤ topI b l ∧ topI b l ≤ 1000000000 := by
  obtain ⟨b1, b2, b3, b4, b5⟩ := hb
  obtain ⟨h1, h2, h3⟩ := hl
  have k1 := mulb (a := b.back) (b := l.w) 100 10000 (by omega) (by omega)
  have k2 := mulb (a := b.front) (b := l.w) 100 10000 (by omega) (by omega)
  have k3 := mulb (a := b.radius) (b := l.w) 200 10000 (by omega) (by omega)
  have k4 := mulb (a := b.radius) (b := l.a) 200 1000000 (by omega) (by omega)
  have k5 := mulb (a := b.back) (b := b.radius * l.w - l.h) 100 3000000 (by omega) (by omega)
  have k6 := mulb (a := b.front) (b := b.radius * l.w - l.h) 100 3000000 (by omega) (by omega)
  unfold topI maxI
  simp only [Bool.false_eq_true, if_false]
  split
  · split <;> omega
  · split <;> omega
def ac108 : AC := (AC.seq (AC.ops [(AOp.mk (some 4) (AK.box 3 (AX.t 1)) none 0 false true), (AOp.mk (some 5) (AK.box 2 (AX.t 2)) none 1 false true), (AOp.mk (some 6) (AK.new (PV.agg [(PV.val (Value.int IntKind.i64 0)), (PV.val (Value.int IntKind.i64 0))])) none 2 false true)]) (AC.seq (AC.ops [(AOp.mk (some 8) (AK.mv (AX.t 0)) none 0 false true), (AOp.mk (some 9) (AK.ld (some 3) (AX.t 4)) none 1 false true), (AOp.mk (some 10) (AK.ld (some 2) (AX.t 5)) none 2 false true), (AOp.mk (some 11) (AK.call 122 [(AX.t 8), (AX.t 9), (AX.t 10)]) none 3 false true), (AOp.mk (some 7) (AK.new (PV.agg [(PV.val (Value.int IntKind.i64 0)), (PV.val (Value.int IntKind.i64 0)), (PV.val (Value.int IntKind.i64 0))])) none 4 false true), (AOp.mk none (AK.st 3 (AX.t 7) (AX.t 11)) none 5 false true)]) (AC.seq (AC.ops [(AOp.mk (some 12) (AK.mv (AX.t 0)) none 0 true false), (AOp.mk (some 13) (AK.ld (some 3) (AX.t 7)) none 1 true false), (AOp.mk (some 15) (AK.fadr 0 (AX.t 7)) none 3 true false), (AOp.mk (some 16) (AK.ld none (AX.t 15)) none 4 true false), (AOp.mk (some 14) (AK.call 124 [(AX.t 12), (AX.t 13)]) none 2 false false), (AOp.mk (some 17) (AK.call 123 [(AX.t 14), (AX.t 16)]) none 5 false false), (AOp.mk none (AK.st 2 (AX.t 6) (AX.t 17)) none 6 false true)]) AC.ret)))
theorem ac108_ok : cCode Try.prog (fun _ => false) Try.f108.ntmps (Try.f108.body.getD .skip) = some ac108 := by kernel_rfl
/-- The margin: its top and its bottom. -/
def marginI (b : SBook) (l : SLoad) (w n : Int) : Int × Int :=
  let t := topI b (seatB b l w n)
  let s := (seatB b l w n).w
  (t.tdiv (Int.gcd t s), s.tdiv (Int.gcd t s))
theorem margin_sem (k k2 ks : SK) (b : SBook) (l : SLoad) (w n : Int) (hk : b.kind = 0 ∨ b.kind = 1) (hb : small b) (hl : l.ok 1000) (hlw : 0 ≤ l.w) (hw : 1 ≤ w ∧ w ≤ 1000) (hn : -40 ≤ n ∧ n ≤ 40) : Sem1 108 [bookP k k2 ks b, .agg (loadC l), .agg (childC w n)] (.agg [pi (marginI b l w n).1, pi (marginI b l w n).2]) := by
  have hs := seat_ok (n := n) hb hl (w := w) (by omega) hn
  have ht := topI_b hb hs
  have hsw : 1 ≤ (seatB b l w n).w ∧ (seatB b l w n).w ≤ 1000000000 := by
    obtain ⟨q1, q2, q3⟩ := hs
    have : (seatB b l w n).w = l.w + w := rfl
    omega
  refine semC_of_exec' mixed Try.func108 (by kernel_rfl) (by kernel_rfl) ac108_ok 3 rfl (by decide) [(.cell 6 34)] (by kernel_rfl) ?_
  intro hr C hC hI
  unfold ac108
  simp only [go_sem, Nat.reduceBEq, Nat.reduceAdd]
  refine call_pure2 hC (seated_sem k k2 ks b l w n hb hl (by omega) hn) rfl (PVleL_refl _) ?_
  rintro r rfl
  simp only [go_sem, Nat.reduceBEq, Nat.reduceAdd]
  refine call_pure2 hC (top_sem k k2 ks b (seatB b l w n) hk hb hs) rfl (PVleL_refl _) ?_
  rintro r rfl
  simp only [go_sem, Nat.reduceBEq]
  refine call_pure2 hC (reduced_sem (topI b (seatB b l w n)) (seatB b l w n).w ht hsw) rfl (PVleL_refl _) ?_
  rintro r rfl
  simp only [go_sem, Nat.reduceBEq, Nat.reduceAdd, Nat.reduceEqDiff]
  exact retQ_cell (n := some 2) (by kernel_rfl) rfl rfl
end Go.Proofs.Ytaejmbmkkdkliaa
namespace Go.Proofs.Ytaejmbmkkdkliaa
open Go.RowKit
def ac107 : AC := (AC.seq (AC.ops [(AOp.mk (some 3) (AK.box 2 (AX.t 1)) none 0 false true)]) (AC.seq (AC.ops [(AOp.mk (some 4) (AK.mv (AX.t 0)) none 0 true false), (AOp.mk (some 5) (AK.nilc (AX.t 4)) none 1 true false), (AOp.mk (some 6) (AK.fadr 3 (AX.t 5)) none 2 true false), (AOp.mk (some 7) (AK.ld none (AX.t 6)) none 3 true false), (AOp.mk (some 8) (AK.un UnOp.not (AX.t 7)) none 4 true false), (AOp.mk (some 9) (AK.mv (AX.t 8)) none 5 true false), (AOp.mk (some 10) (AK.mv (AX.t 0)) (some (9, false)) 6 true false), (AOp.mk (some 11) (AK.nilc (AX.t 10)) (some (9, false)) 7 true false), (AOp.mk (some 12) (AK.fadr 0 (AX.t 11)) (some (9, false)) 8 true false), (AOp.mk (some 13) (AK.ld none (AX.t 12)) (some (9, false)) 9 true false), (AOp.mk (some 14) (AK.ld (some 2) (AX.t 3)) (some (9, false)) 10 true false), (AOp.mk (some 15) (AK.mv (AX.t 0)) (some (9, false)) 11 true false), (AOp.mk (some 16) (AK.nilc (AX.t 15)) (some (9, false)) 12 true false), (AOp.mk (some 17) (AK.fadr 1 (AX.t 16)) (some (9, false)) 13 true false), (AOp.mk (some 18) (AK.ld (some 2) (AX.t 17)) (some (9, false)) 14 true false), (AOp.mk (some 19) (AK.callv (AX.t 13) [(AX.t 14), (AX.t 18)]) (some (9, false)) 15 false false), (AOp.mk (some 20) (AK.pick (AX.t 9) (AX.c (PV.val (Value.bool true))) (AX.t 19)) none 16 true false)]) (AC.cond (AX.t 20) (AC.ops [(AOp.mk (some 21) (AK.mv (AX.t 0)) none 0 false true), (AOp.mk (some 22) (AK.mv (AX.t 0)) none 1 false true), (AOp.mk (some 23) (AK.ld (some 2) (AX.t 3)) none 2 false true), (AOp.mk (some 24) (AK.nilc (AX.t 21)) none 3 false true), (AOp.mk (some 25) (AK.fadr 1 (AX.t 24)) none 4 false true), (AOp.mk none (AK.st 2 (AX.t 25) (AX.t 23)) none 5 false true), (AOp.mk (some 26) (AK.nilc (AX.t 22)) none 6 false true), (AOp.mk (some 27) (AK.fadr 3 (AX.t 26)) none 7 false true), (AOp.mk none (AK.st 1 (AX.t 27) (AX.c (PV.val (Value.bool true)))) none 8 false true)]) AC.skip)))
theorem ac107_ok : cCode Try.prog (fun _ => false) Try.f107.ntmps (Try.f107.body.getD .skip) = some ac107 := by kernel_rfl
/-- A chooser that keeps the least. -/
def lessV : Value := .func (.func 106) #[] #[]
def choB (a c : Int) (x : Bool) : ABlk := .cells [.p (.val lessV), .p (pi a), .p (pi c), .p (pb x)]
def offI (x : Bool) (p r : Int × Int) : Int × Int := if x = false ∨ lessI r.1 r.2 p.1 p.2 = true then r else p
theorem retMQ_nil {P : Program} {Q : AV → List ABlk → Option (List (List PV)) → Prop} {s : AS} (hQ : Q (.p (.tup [])) s.loc s.ys) : retMQ P [] Q s := ⟨[], _, rfl, rfl, hQ⟩
theorem offer_sem (x : Bool) (a c p q : Int) (ha : -1000000000 ≤ a ∧ a ≤ 1000000000) (hc : -1000000 ≤ c ∧ c ≤ 1000000) (hp : -1000000000 ≤ p ∧ p ≤ 1000000000) (hq : -1000000 ≤ q ∧ q ≤ 1000000) (ys : Option (List (List PV))) :
    SemM Try.prog Fence.wide 107 [.loc 0 0, .p (.agg [pi p, pi q])] [choB a c x] ys
      (fun v L' ys' => v = .p (.tup []) ∧ ys' = ys ∧ L'.take 1 = [choB (offI x (a, c) (p, q)).1 (offI x (a, c) (p, q)).2 true]) := by
  refine semM_of_exec' mixed Try.func107 (by kernel_rfl) (by kernel_rfl) ac107_ok 2 rfl (by decide) [] (by kernel_rfl) ?_
  intro C hC hI
  unfold ac107 choB
  cases x
  · simp only [go_sem, Nat.reduceBEq, Nat.reduceAdd, Nat.reduceLeDiff]
    exact retMQ_nil ⟨rfl, rfl, rfl⟩
  · simp only [lessV]
    simp only [go_sem, Nat.reduceBEq, Nat.reduceAdd, Nat.reduceLeDiff]
    refine call_pure2 hC (lesser_sem p q a c hp hq ha hc) rfl (PVleL_refl _) ?_
    rintro r rfl
    simp only [go_sem, Nat.reduceBEq]
    refine ⟨fun h => ?_, fun h => ?_⟩
    · simp only [go_sem, Nat.reduceBEq, Nat.reduceAdd, Nat.reduceLeDiff]
      refine retMQ_nil ?_
      refine ⟨rfl, rfl, ?_⟩
      rw [show offI true (a, c) (p, q) = (p, q) from by unfold offI; rw [if_pos (.inr h)]]
      rfl
    · simp only [go_sem]
      refine retMQ_nil ?_
      refine ⟨rfl, rfl, ?_⟩
      rw [show offI true (a, c) (p, q) = (a, c) from by unfold offI; rw [if_neg (by simp [h])]]
      rfl
def ac74 : AC := (AC.seq (AC.ops [(AOp.mk (some 3) (AK.box 2 (AX.t 1)) none 0 false true), (AOp.mk (some 4) (AK.new (PV.agg [(PV.val (Value.int IntKind.i64 0)), (PV.val (Value.int IntKind.i64 0))])) none 1 false true)]) (AC.seq (AC.ops [(AOp.mk (some 8) (AK.build [(PV.val Value.nilFunc), (PV.val (Value.int IntKind.i64 0)), (PV.val (Value.int IntKind.i64 0)), (PV.val (Value.bool false))] [(0, (1, (AX.c (PV.val (Value.func (Fn.func 106) #[] #[])))))]) none 0 false true), (AOp.mk (some 5) (AK.new (PV.agg [(PV.val Value.nilFunc), (PV.val (Value.int IntKind.i64 0)), (PV.val (Value.int IntKind.i64 0)), (PV.val (Value.bool false))])) none 1 false true), (AOp.mk none (AK.st 4 (AX.t 5) (AX.t 8)) none 2 false true)]) (AC.seq (AC.seq (AC.ops [(AOp.mk (some 9) (AK.mv (AX.t 0)) none 0 false true), (AOp.mk (some 10) (AK.nilc (AX.t 9)) none 1 false true), (AOp.mk (some 11) (AK.fadr 1 (AX.t 10)) none 2 false true), (AOp.mk (some 12) (AK.ld none (AX.t 11)) none 3 false true), (AOp.mk (some 13) (AK.len (AX.t 12)) none 4 false true), (AOp.mk (some 14) (AK.mv (AX.c (PV.val (Value.int IntKind.i64 0)))) none 5 false true)]) (AC.block 0 (AC.loop (AC.seq (AC.ops [(AOp.mk (some 15) (AK.bin false BinOp.lss (AX.t 14) (AX.t 13)) none 0 false true)]) (AC.seq (AC.cond (AX.t 15) AC.skip (AC.exit 0)) (AC.seq (AC.block 1 (AC.seq (AC.ops [(AOp.mk (some 16) (AK.iadrS 3 (AX.t 12) (AX.t 14)) none 0 false true), (AOp.mk (some 17) (AK.ld (some 3) (AX.t 16)) none 1 false true), (AOp.mk (some 7) (AK.new (PV.agg [(PV.val (Value.int IntKind.i64 0)), (PV.val (Value.int IntKind.i64 0)), (PV.val (Value.int IntKind.i64 0))])) none 2 false true), (AOp.mk none (AK.st 3 (AX.t 7) (AX.t 17)) none 3 false true)]) (AC.ops [(AOp.mk (some 18) (AK.mv (AX.t 0)) none 0 true false), (AOp.mk (some 19) (AK.nilc (AX.t 18)) none 1 true false), (AOp.mk (some 20) (AK.fadr 0 (AX.t 19)) none 2 true false), (AOp.mk (some 21) (AK.ld none (AX.t 20)) none 3 true false), (AOp.mk (some 22) (AK.ld (some 3) (AX.t 7)) none 4 true false), (AOp.mk (some 23) (AK.ld (some 2) (AX.t 3)) none 5 true false), (AOp.mk (some 24) (AK.call 108 [(AX.t 21), (AX.t 22), (AX.t 23)]) none 6 false false), (AOp.mk (some 25) (AK.call 107 [(AX.t 5), (AX.t 24)]) none 7 false false)]))) (AC.ops [(AOp.mk (some 26) (AK.bin false BinOp.add (AX.t 14) (AX.c (PV.val (Value.int IntKind.i64 1)))) none 0 false true), (AOp.mk (some 14) (AK.mv (AX.t 26)) none 1 false true)]))))))) (AC.seq (AC.ops [(AOp.mk (some 27) (AK.fadr 1 (AX.t 5)) none 0 false true), (AOp.mk (some 28) (AK.ld (some 2) (AX.t 27)) none 1 false true), (AOp.mk none (AK.st 2 (AX.t 4) (AX.t 28)) none 2 false true)]) AC.ret))))
theorem ac74_ok : cCode Try.prog (fun _ => false) Try.f74.ntmps (Try.f74.body.getD .skip) = some ac74 := by kernel_rfl
end Go.Proofs.Ytaejmbmkkdkliaa
namespace Go.Proofs.Ytaejmbmkkdkliaa
open Go.RowKit
theorem upd1g {loc : List ABlk} {i : Nat} {a : ABlk} {X : List ABlk} : updL loc [i] (a :: X) = loc.set i (a.ren (mAt [i] loc.length)) ++ X.map (ABlk.ren (mAt [i] loc.length)) := by simp [updL, setAll]
theorem take1 {a : ABlk} {L : List ABlk} (h : L.take 1 = [a]) : ∃ X, L = a :: X := ⟨L.drop 1, by rw [← List.take_append_drop 1 L, h]; simp⟩
theorem ren_cho {a c : Int} {x : Bool} {m : Nat → Nat} : ABlk.ren m (choB a c x) = choB a c x := rfl
/-- The least margin, as far as it was asked. -/
def lmI (b : SBook) (w n : Int) (ls : List SLoad) : Bool × (Int × Int) := ls.foldl (fun s l => (true, offI s.1 s.2 (marginI b l w n))) (false, (0, 0))
theorem lmI_next (b : SBook) (w n : Int) (ls : List SLoad) (j : Nat) (h : j < ls.length) : lmI b w n (ls.take (j + 1)) = (true, offI (lmI b w n (ls.take j)).1 (lmI b w n (ls.take j)).2 (marginI b ls[j] w n)) := by
  unfold lmI
  rw [List.take_succ_eq_append_getElem h, List.foldl_append]; rfl
def smallR (p : Int × Int) : Prop := (-1000000000 ≤ p.1 ∧ p.1 ≤ 1000000000) ∧ (-1000000 ≤ p.2 ∧ p.2 ≤ 1000000)
theorem marginI_b {b : SBook} {l : SLoad} {w n : Int} (hb : small b) (hl : l.ok 1000) (hw : 1 ≤ w ∧ w ≤ 1000) (hn : -40 ≤ n ∧ n ≤ 40) : smallR (marginI b l w n) := by
  have hs := seat_ok (n := n) hb hl (w := w) (by omega) hn
  have ht := topI_b hb hs
  obtain ⟨q1, q2, q3⟩ := hs
  unfold smallR marginI
  simp only
  have e1 : ((topI b (seatB b l w n)).tdiv (Int.gcd (topI b (seatB b l w n)) (seatB b l w n).w)).natAbs ≤ (topI b (seatB b l w n)).natAbs := by rw [Int.natAbs_tdiv]; exact Nat.div_le_self _ _
  have e2 : ((seatB b l w n).w.tdiv (Int.gcd (topI b (seatB b l w n)) (seatB b l w n).w)).natAbs ≤ (seatB b l w n).w.natAbs := by rw [Int.natAbs_tdiv]; exact Nat.div_le_self _ _
  omega
theorem offI_b {x : Bool} {p r : Int × Int} (hp : smallR p) (hr : smallR r) : smallR (offI x p r) := by
  unfold offI; split <;> assumption
theorem lmI_b {b : SBook} {w n : Int} (hb : small b) (hw : 1 ≤ w ∧ w ≤ 1000) (hn : -40 ≤ n ∧ n ≤ 40) (ls : List SLoad) (hls : ∀ l ∈ ls, l.ok 1000) : smallR (lmI b w n ls).2 := by
  unfold lmI
  suffices ∀ (ls : List SLoad) (s : Bool × (Int × Int)), (∀ l ∈ ls, l.ok 1000) → smallR s.2 → smallR (ls.foldl (fun s l => (true, offI s.1 s.2 (marginI b l w n))) s).2 from this ls _ hls (by unfold smallR; simp)
  intro ls
  induction ls with
  | nil => exact fun s _ h => h
  | cons l ls ih => exact fun s hl h => ih _ (fun x hx => hl x (List.mem_cons_of_mem _ hx)) (offI_b h (marginI_b hb (hl l (List.mem_cons_self ..)) hw hn))
theorem leastMargin_sem (t : Bool) (k k2 ks kl : SK) (b : SBook) (ls : List SLoad) (hh : HorseOk b ls) (hlw : ∀ l ∈ ls, 0 ≤ l.w) (m : List ((Int × Int) × Int)) (w n : Int) (hw : 1 ≤ w ∧ w ≤ 1000) (hn : -40 ≤ n ∧ n ≤ 40) (ys : Option (List (List PV))) :
    SemM Try.prog Fence.wide 74 [.loc 0 0, .p (.agg (childC w n))] [horseB t (bookP k k2 ks b) kl ls, .mp (memoC m)] ys
      (fun v L' ys' => v = .p (.agg [pi (lmI b w n ls).2.1, pi (lmI b w n ls).2.2]) ∧ ys' = ys ∧ L'.take 2 = [horseB t (bookP k k2 ks b) kl ls, .mp (memoC m)]) := by
  refine semM_of_exec' mixed Try.func74 (by kernel_rfl) (by kernel_rfl) ac74_ok 2 rfl (by decide) [.cell 4 34] (by kernel_rfl) ?_
  intro C hC hI
  unfold ac74
  obtain ⟨u, hu⟩ : ∃ u, u = t := ⟨_, rfl⟩
  cases t
  all_goals
    simp only [horseB, if_true, Bool.false_eq_true, if_false]
    simp only [go_sem, Nat.reduceBEq, Nat.reduceAdd, Nat.reduceLeDiff, List.length_map]
    refine loop_nat ls.length (fun _ => True) (fun (j : Nat) => ⟨[(14, .p (pi j)), (13, .p (pi ls.length)), (12, .p (.sl kl 3 (ls.map fun l => loadC l))), (5, .loc 4 0), (4, .loc 3 0), (3, .loc 2 0), (0, .loc 0 0)],
      [horseB u (bookP k k2 ks b) kl ls, .mp (memoC m), .cells [.p (pi w), .p (pi n)], .cells [.p (pi 0), .p (pi 0)], choB (lmI b w n (ls.take j)).2.1 (lmI b w n (ls.take j)).2.2 (lmI b w n (ls.take j)).1], [], ys, 2⟩) trivial (by subst hu; simp [Wk, wkT, wkL, look, AV.lo, AV.lo.loL, horseB, memoC, lmI, choB, lessV]) ?_
    rintro j ⟨hj, -⟩
    have hsm := lmI_b hh.fit.small hw hn (ls.take j) (fun l hl => hh.small l (List.mem_of_mem_take hl))
    obtain ⟨P, hP⟩ : ∃ P, lmI b w n (ls.take j) = P := ⟨_, rfl⟩
    have hnx := fun h => lmI_next b w n ls j h
    rw [hP] at hsm hnx
    have hfew := hh.few
    simp only [hP]
    simp only [go_sem, Nat.reduceBEq]
    refine ⟨fun h5 => ?_, fun h5 => ?_⟩
    · have hj2 : j < ls.length := by omega
      have hm := marginI_b (w := w) (n := n) hh.fit.small (hh.small _ (List.getElem_mem hj2)) hw hn
      subst hu
      simp only [horseB, if_true, Bool.false_eq_true, if_false]
      simp only [go_sem, Nat.reduceBEq, Nat.reduceAdd, iadr_map (f := fun l => loadC l) hj2]
      refine call_pure2 hC (margin_sem k k2 ks b ls[j] w n hh.fit.kind hh.fit.small (hh.small _ (List.getElem_mem hj2)) (hlw _ (List.getElem_mem hj2)) hw hn) rfl (PVleL_refl _) ?_
      rintro r rfl
      simp only [go_sem, Nat.reduceBEq]
      refine call_mem2 hC [4] (offer_sem P.1 P.2.1 P.2.2 (marginI b ls[j] w n).1 (marginI b ls[j] w n).2 hsm.1 hsm.2 hm.1 hm.2 ys) rfl (by decide) rfl rfl rfl rfl (by simp) ?_
      rintro v L' ys' ⟨rfl, rfl, hL⟩ -
      obtain ⟨X, rfl⟩ := take1 hL
      simp only [go_sem, Nat.reduceBEq, Nat.reduceAdd, upd1g, ren_cho, wrap_succ (k := j) (by omega)]
      refine ⟨⟨j + 1, hj2, trivial⟩, by simp only; omega, ?_⟩
      simp only [hnx hj2]
      simp [Wk, wkT, wkL, look, AV.lo, AV.lo.loL, choB, lessV]
    · have hjn : j = ls.length := by omega
      subst hjn
      rw [List.take_length] at hP
      subst hu
      simp only [choB]
      simp only [go_sem, Nat.reduceBEq, Nat.reduceAdd, Nat.reduceLeDiff]
      refine retMQ_cell (show shapeN Try.prog 34 = some (some 2) by kernel_rfl) rfl ?_
      refine ⟨by rw [hP]; rfl, rfl, rfl⟩
end Go.Proofs.Ytaejmbmkkdkliaa
namespace Go.Proofs.Ytaejmbmkkdkliaa
open Go.RowKit
theorem flat_len {α β : Type} {f : α → List β} {m : Nat} (h : ∀ x, (f x).length ≤ m) : ∀ l : List α, (l.flatMap f).length ≤ l.length * m
  | [] => by simp
  | x :: l => by
    rw [List.flatMap_cons, List.length_append, List.length_cons, Nat.succ_mul]
    have := h x
    have := flat_len h l
    omega
theorem span5 {b : SBook} (hb : Fit b) (j : Nat) : (spanL ((b.parts.map (·.lo)).getD j 0) ((b.parts.map (·.hi)).getD j 0)).length ≤ 5 := by
  rw [spanL_len]
  rcases Nat.lt_or_ge j b.parts.length with h | h
  · have hp := hb.parts _ (List.getElem_mem h)
    unfold okPart at hp
    simp only [List.getD_eq_getElem?_getD, List.getElem?_map, List.getElem?_eq_getElem h, Option.map_some, Option.getD_some]
    omega
  · simp [List.getD_eq_getElem?_getD, List.getElem?_eq_none h]
theorem truthsF_len {b : SBook} (hb : Fit b) : ∀ (r j : Nat) (ws : List Int), (truthsF b r j ws).length ≤ 5 ^ r
  | 0, _, _ => by simp [truthsF]
  | r + 1, j, ws => by
    rw [truthsF_succ]
    have h1 := flat_len (f := fun w => tailF b r j (ws.set j w)) (m := 5 ^ r) (fun w => by
      unfold tailF
      have : 1 ≤ 5 ^ r := Nat.one_le_pow _ _ (by omega)
      split
      · exact truthsF_len hb r _ _
      · split <;> simp <;> omega) (spanL ((b.parts.map (·.lo)).getD j 0) ((b.parts.map (·.hi)).getD j 0))
    have h2 := Nat.mul_le_mul_right (5 ^ r) (span5 hb j)
    rw [Nat.pow_succ]
    omega
theorem truthL_len {b : SBook} (hb : Fit b) : (truthL b).length ≤ 625 := truthsF_len hb 4 0 _
theorem loadsI_ok {b : SBook} (hb : Fit b) : ∀ l ∈ loadsI b, l.ok 1000 := by
  intro l hl
  unfold loadsI at hl
  rw [List.mem_map] at hl
  obtain ⟨ws, h1, rfl⟩ := hl
  have := truthL_ok hb ws h1
  exact load_all_ok this.1 hb.few hb.parts this.2
theorem loadsI_horse {b : SBook} (hb : Fit b) : HorseOk b (loadsI b) := ⟨hb, loadsI_ok hb, by have := truthL_len hb; unfold loadsI; rw [List.length_map]; omega⟩
def ac68 : AC := (AC.seq (AC.ops [(AOp.mk (some 2) (AK.box 10 (AX.t 0)) none 0 false true), (AOp.mk (some 4) (AK.mv (AX.c PV.nilp)) none 1 false true), (AOp.mk (some 5) (AK.mv (AX.c (PV.val (Value.int IntKind.i64 0)))) none 2 false true)]) (AC.seq (AC.seq (AC.ops [(AOp.mk (some 8) (AK.ld (some 10) (AX.t 2)) none 0 false true), (AOp.mk (some 9) (AK.call 18 [(AX.t 8)]) none 1 false true), (AOp.mk (some 6) (AK.mv (AX.t 9)) none 2 false true)]) (AC.seq (AC.ops [(AOp.mk (some 10) (AK.mv (AX.t 6)) none 0 false true), (AOp.mk (some 11) (AK.bin false BinOp.neq (AX.t 10) (AX.c (PV.val (Value.int IntKind.i64 0)))) none 1 false true)]) (AC.cond (AX.t 11) (AC.seq (AC.ops [(AOp.mk (some 12) (AK.mv (AX.t 6)) none 0 false true), (AOp.mk (some 4) (AK.mv (AX.c PV.nilp)) none 1 false true), (AOp.mk (some 5) (AK.mv (AX.t 12)) none 2 false true)]) AC.ret) AC.skip))) (AC.seq (AC.seq (AC.ops [(AOp.mk (some 13) (AK.mv (AX.t 1)) none 0 false true), (AOp.mk (some 14) (AK.un UnOp.not (AX.t 13)) none 1 false true)]) (AC.cond (AX.t 14) (AC.seq (AC.ops [(AOp.mk (some 4) (AK.mv (AX.c PV.nilp)) none 0 false true), (AOp.mk (some 5) (AK.mv (AX.c (PV.val (Value.int IntKind.i64 21)))) none 1 false true)]) AC.ret) AC.skip)) (AC.seq (AC.ops [(AOp.mk (some 15) (AK.ld (some 10) (AX.t 2)) none 0 false true), (AOp.mk (some 16) (AK.call 61 [(AX.t 15)]) none 1 false true), (AOp.mk (some 7) (AK.mv (AX.t 16)) none 2 false true)]) (AC.seq (AC.seq (AC.ops [(AOp.mk (some 17) (AK.mv (AX.t 7)) none 0 false true), (AOp.mk (some 18) (AK.call 62 [(AX.t 17)]) none 1 false true), (AOp.mk (some 19) (AK.un UnOp.not (AX.t 18)) none 2 false true)]) (AC.cond (AX.t 19) (AC.seq (AC.ops [(AOp.mk (some 4) (AK.mv (AX.c PV.nilp)) none 0 false true), (AOp.mk (some 5) (AK.mv (AX.c (PV.val (Value.int IntKind.i64 22)))) none 1 false true)]) AC.ret) AC.skip)) (AC.seq (AC.ops [(AOp.mk (some 20) (AK.mv (AX.t 7)) none 0 false true), (AOp.mk (some 21) (AK.call 104 [(AX.t 20)]) none 1 false true), (AOp.mk (some 4) (AK.mv (AX.t 21)) none 2 false true), (AOp.mk (some 5) (AK.mv (AX.c (PV.val (Value.int IntKind.i64 0)))) none 3 false true)]) AC.ret))))))
theorem ac68_ok : cCode Try.prog (fun _ => false) Try.f68.ntmps (Try.f68.body.getD .skip) = some ac68 := by kernel_rfl
/-- How a book is refused. -/
def errI (b : SBook) (known : Bool) : Int := if okBook b then (if known then (if truthL b = [] then 22 else 0) else 21) else 20
theorem ren_horse0 {t : Bool} {bp : PV} {kl : SK} {ls : List SLoad} {n : Nat} : ABlk.ren (mAt [] n) (horseB t bp kl ls) = horseM t (n + 1) bp kl ls := by cases t <;> simp [horseB, horseM, ABlk.ren, AV.ren, mAt_nil]
theorem retMQ_two {P : Program} {t t' : Nat} {Q : AV → List ABlk → Option (List (List PV)) → Prop} {s : AS} {v v' w : AV} (h : look s.t t = v) (h' : look s.t t' = v') (hw : tupA [v, v'] = some w) (hQ : Q w s.loc s.ys) : retMQ P [.tmp t, .tmp t'] Q s := ⟨[v, v'], w, by simp [resA, h, h'], hw, hQ⟩
theorem trueHorse_sem (k k2 : SK) (b : SBook) (known : Bool) (ys : Option (List (List PV))) :
    SemM Try.prog Fence.wide 68 [.p (.agg (bookC k k2 b)), .p (pb known)] [] ys
      (fun v L' ys' => ys' = ys ∧ ((errI b known ≠ 0 ∧ v = .p (.tup [.nilp, pi (errI b known)])) ∨ (errI b known = 0 ∧ v = .tup [.loc 3 0, .p (pi 0)] ∧ ∃ kl, L' = [.cells ((bookC k k2 b).map .p), .cells [.p (bookP k k2 .sh b)], .mp (memoC []), horseM false 2 (bookP k k2 .sh b) kl (loadsI b), .cells [.loc 3 0]]))) := by
  refine semM_of_exec' mixed Try.func68 (by kernel_rfl) (by kernel_rfl) ac68_ok 2 rfl (by decide) [.tmp 4, .tmp 5] (by kernel_rfl) ?_
  intro C hC hI
  unfold ac68
  have hc := Check_sem k k2 b
  by_cases ho : okBook b
  · rw [if_pos ho] at hc
    cases known
    · have he : errI b false = 21 := by unfold errI; rw [if_pos ho]; rfl
      rw [he]
      simp only [go_sem, Nat.reduceBEq, Nat.reduceAdd]
      refine call_pure2 hC (hc) rfl (PVleL_refl _) ?_
      rintro r rfl
      simp only [go_sem, Nat.reduceBEq]
      refine ⟨fun h => h.elim, fun _ => ?_⟩
      exact retMQ_two rfl rfl rfl ⟨rfl, .inl ⟨by decide, rfl⟩⟩
    · simp only [go_sem, Nat.reduceBEq, Nat.reduceAdd]
      refine call_pure2 hC (hc) rfl (PVleL_refl _) ?_
      rintro r rfl
      simp only [go_sem, Nat.reduceBEq, Nat.reduceAdd]
      refine ⟨fun h => h.elim, fun _ => ?_⟩
      refine call_pure2 hC (newBook_sem k k2 b ho.fit.kind) rfl (PVleL_refl _) ?_
      rintro r rfl
      simp only [go_sem, Nat.reduceBEq]
      refine call_pure2 hC (canBeTrue_sem k k2 .sh b ho.fit (by have := ho.2.2.1; omega)) rfl (PVleL_refl _) ?_
      rintro r rfl
      simp only [go_sem, Nat.reduceBEq]
      by_cases hne : truthL b = []
      · have he : errI b true = 22 := by unfold errI; rw [if_pos ho, if_pos rfl, if_pos hne]
        rw [he]
        refine ⟨fun _ => ?_, fun h => absurd hne h⟩
        exact retMQ_two rfl rfl rfl ⟨rfl, .inl ⟨by decide, rfl⟩⟩
      · have he : errI b true = 0 := by unfold errI; rw [if_pos ho, if_pos rfl, if_neg hne]
        rw [he]
        refine ⟨fun h => absurd h hne, fun _ => ?_⟩
        refine call_mem2 hC [] (newHorse_sem k k2 .sh b ho.fit (by have := ho.2.2.1; omega) (by have := truthL_len ho.fit; omega) hne ys) rfl (by decide) rfl rfl rfl rfl (by simp) ?_
        rintro v L' ys' ⟨rfl, rfl, kl, rfl⟩ -
        simp only [go_sem, Nat.reduceBEq, Nat.reduceAdd, upd0, mAt_nil, ren_horse0]
        exact retMQ_two rfl rfl rfl ⟨rfl, .inr ⟨rfl, kl, rfl⟩⟩
  · rw [if_neg ho] at hc
    have he : errI b known = 20 := by unfold errI; rw [if_neg ho]
    rw [he]
    simp only [go_sem, Nat.reduceBEq, Nat.reduceAdd]
    refine call_pure2 hC (hc) rfl (PVleL_refl _) ?_
    rintro r rfl
    simp only [go_sem, Nat.reduceBEq]
    refine ⟨fun _ => ?_, fun h => absurd h (by decide)⟩
    exact retMQ_two rfl rfl rfl ⟨rfl, .inl ⟨by decide, rfl⟩⟩
end Go.Proofs.Ytaejmbmkkdkliaa
namespace Go.Proofs.Ytaejmbmkkdkliaa
open Go.RowKit
theorem upd2g {loc : List ABlk} {i j : Nat} {a c : ABlk} {X : List ABlk} : updL loc [i, j] (a :: c :: X) = (loc.set i (a.ren (mAt [i, j] loc.length))).set j (c.ren (mAt [i, j] loc.length)) ++ X.map (ABlk.ren (mAt [i, j] loc.length)) := by simp [updL, setAll]
theorem errI_ok {b : SBook} {known : Bool} (h : errI b known = 0) : okBook b ∧ known = true := by
  unfold errI at h
  split at h
  · rename_i ho
    split at h
    · rename_i hk; exact ⟨ho, hk⟩
    · omega
  · omega
theorem ok_lean {b : SBook} (h : okBook b) : (0 ≤ b.lean ∧ b.lean ≤ 40) ∧ 1 ≤ b.limit ∧ b.limit ≤ 1000 := by
  have := h.2.1
  unfold okSeat at this
  omega
def ac25 : AC := (AC.seq (AC.ops [(AOp.mk (some 2) (AK.box 10 (AX.t 0)) none 0 false true), (AOp.mk (some 4) (AK.mv (AX.c (PV.val (Value.bool false)))) none 1 false true), (AOp.mk (some 5) (AK.mv (AX.c (PV.val (Value.int IntKind.i64 0)))) none 2 false true)]) (AC.seq (AC.ops [(AOp.mk (some 9) (AK.ld (some 10) (AX.t 2)) none 0 true false), (AOp.mk (some 10) (AK.ld (some 10) (AX.t 2)) none 1 true false), (AOp.mk (some 11) (AK.mv (AX.t 1)) none 2 true false), (AOp.mk (some 12) (AK.call 69 [(AX.t 10), (AX.t 11)]) none 3 false false), (AOp.mk (some 13) (AK.call 68 [(AX.t 9), (AX.t 12)]) none 4 false false), (AOp.mk (some 8) (AK.mv (AX.t 13)) none 5 true false), (AOp.mk (some 14) (AK.ext (AX.t 8) 0) none 6 true false), (AOp.mk (some 15) (AK.ext (AX.t 8) 1) none 7 true false), (AOp.mk (some 6) (AK.mv (AX.t 14)) none 8 true false), (AOp.mk (some 7) (AK.mv (AX.t 15)) none 9 true true)]) (AC.seq (AC.seq (AC.ops [(AOp.mk (some 16) (AK.mv (AX.t 7)) none 0 false true), (AOp.mk (some 17) (AK.bin false BinOp.neq (AX.t 16) (AX.c (PV.val (Value.int IntKind.i64 0)))) none 1 false true)]) (AC.cond (AX.t 17) (AC.seq (AC.ops [(AOp.mk (some 18) (AK.mv (AX.t 7)) none 0 false true), (AOp.mk (some 4) (AK.mv (AX.c (PV.val (Value.bool false)))) none 1 false true), (AOp.mk (some 5) (AK.mv (AX.t 18)) none 2 false true)]) AC.ret) AC.skip)) (AC.seq (AC.ops [(AOp.mk (some 19) (AK.mv (AX.t 6)) none 0 false true), (AOp.mk (some 20) (AK.mv (AX.t 1)) none 1 false true), (AOp.mk (some 21) (AK.call 77 [(AX.t 19), (AX.t 20)]) none 2 false true), (AOp.mk (some 4) (AK.mv (AX.t 21)) none 3 false true), (AOp.mk (some 5) (AK.mv (AX.c (PV.val (Value.int IntKind.i64 0)))) none 4 false true)]) AC.ret))))
theorem ac25_ok : cCode Try.prog (fun _ => false) Try.f25.ntmps (Try.f25.body.getD .skip) = some ac25 := by kernel_rfl
theorem Safe_sem (k k2 : SK) (b : SBook) (w : Int) : Sem1 25 [.agg (bookC k k2 b), pi w]
    (if errI b (decide (1 ≤ w ∧ w ≤ b.limit)) = 0 then .tup [pb (safeI b (loadsI b) w), pi 0] else .tup [pb false, pi (errI b (decide (1 ≤ w ∧ w ≤ b.limit)))]) := by
  refine semC_of_exec' mixed Try.func25 (by kernel_rfl) (by kernel_rfl) ac25_ok 2 rfl (by decide) [(.tmp 4), (.tmp 5)] (by kernel_rfl) ?_
  intro hr C hC hI
  unfold ac25
  simp only [go_sem, Nat.reduceBEq, Nat.reduceAdd]
  refine call_pure2 hC (hasWeight_sem k k2 b w) rfl (PVleL_refl _) ?_
  rintro r rfl
  simp only [go_sem, Nat.reduceBEq]
  refine call_mem2 hC [] (trueHorse_sem k k2 b (decide (1 ≤ w ∧ w ≤ b.limit)) _) rfl (by decide) rfl rfl rfl rfl (by simp) ?_
  rintro v L' ys' ⟨rfl, (⟨he, rfl⟩ | ⟨he, rfl, kl, rfl⟩)⟩ -
  · rw [if_neg he]
    simp only [go_sem, Nat.reduceBEq]
    exact ⟨fun _ => retQ_two rfl rfl rfl, fun h => absurd h he⟩
  · rw [if_pos he]
    obtain ⟨ho, hk⟩ := errI_ok he
    have hlm := ok_lean ho
    simp only [decide_eq_true_eq] at hk
    simp only [go_sem, Nat.reduceBEq, Nat.reduceAdd, upd0, mAt_nil, ren_horseM2]
    refine ⟨fun h => h.elim, fun _ => ?_⟩
    refine call_mem2 hC [4, 3] (safe_sem false k k2 .sh kl b (loadsI b) (loadsI_horse ho.fit) [] (by intro x hx; cases hx) w (by omega) hlm.1 _) rfl (by decide) ?_ ?_ ?_ rfl (by simp) ?_
    · simp only [List.map_cons, List.map_nil, ren_horseM]; rfl
    · simp only [List.all_cons, List.all_nil, turn_horse]; rfl
    · simp only [List.all_cons, List.all_nil, List.length_cons, List.length_nil, Nat.zero_add, Nat.reduceAdd, lo_horse]; rfl
    rintro v L' ys' ⟨rfl, rfl, m', hm', hL⟩ -
    obtain ⟨X, rfl⟩ := take2 hL
    simp only [go_sem, Nat.reduceBEq, Nat.reduceAdd, upd2g]
    exact retQ_two rfl rfl rfl
end Go.Proofs.Ytaejmbmkkdkliaa
