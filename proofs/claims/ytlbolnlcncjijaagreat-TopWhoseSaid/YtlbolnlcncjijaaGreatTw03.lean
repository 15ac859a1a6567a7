/- Contracts of dapple: the first of several. Contracts of dapple: what is asked of two horses. Contracts of dapple: whose a row is; which horses must go. -/
import Derived.Test.YtlbolnlcncjijaaGreatTw02
namespace Go.Proofs.YtlbolnlcncjijaaGreat
open Go.RowKit
def ac50 : AC := (AC.seq (AC.ops [(AOp.mk (some 2) (AK.new (PV.val (Value.int IntKind.i64 0))) none 0 false true), (AOp.mk (some 3) (AK.new (PV.val (Value.bool false))) none 1 false true)]) (AC.seq (AC.seq (AC.ops [(AOp.mk (some 6) (AK.mv (AX.t 0)) none 0 false true)]) (AC.block 0 (AC.rng (AX.t 6) [7] (AC.ops [(AOp.mk (some 4) (AK.mv (AX.t 7)) none 0 false true)]) (AC.block 1 (AC.seq (AC.ops [(AOp.mk (some 8) (AK.mv (AX.t 4)) none 0 false true), (AOp.mk none (AK.st 1 (AX.t 2) (AX.t 8)) none 1 false true), (AOp.mk none (AK.st 1 (AX.t 3) (AX.c (PV.val (Value.bool true)))) none 2 false true)]) AC.ret))))) (AC.seq (AC.ops [(AOp.mk (some 5) (AK.mv (AX.c (PV.val (Value.int IntKind.i64 0)))) none 0 false true)]) (AC.seq (AC.ops [(AOp.mk (some 9) (AK.mv (AX.t 5)) none 0 false true), (AOp.mk none (AK.st 1 (AX.t 2) (AX.t 9)) none 1 false true), (AOp.mk none (AK.st 1 (AX.t 3) (AX.c (PV.val (Value.bool false)))) none 2 false true)]) AC.ret))))
theorem ac50_ok : cCode Tryz.prog (fun _ => false) Tryz.f50.ntmps (Tryz.f50.body.getD .skip) = some ac50 := by kernel_rfl
def ac59 : AC := (AC.seq (AC.ops [(AOp.mk (some 2) (AK.box 1 (AX.t 0)) none 0 false true), (AOp.mk (some 4) (AK.mv (AX.c (PV.sl SK.full 0 []))) none 1 false true)]) (AC.seq (AC.seq (AC.ops [(AOp.mk (some 6) (AK.mv (AX.t 1)) none 0 false true)]) (AC.block 0 (AC.rng (AX.t 6) [7] (AC.ops [(AOp.mk (some 5) (AK.mv (AX.t 7)) none 0 false true)]) (AC.block 1 (AC.ops [(AOp.mk (some 8) (AK.ld none (AX.t 2)) none 0 false true), (AOp.mk (some 9) (AK.mv (AX.t 5)) none 1 false true), (AOp.mk (some 10) (AK.bslice false 3 1 1 [(PV.val (Value.int IntKind.i64 0))] [(0, (1, (AX.t 9)))]) none 2 false true), (AOp.mk (some 11) (AK.app false 3 1 8 [(PV.val (Value.int IntKind.i64 0))] (AX.t 8) (AX.t 10)) none 3 false true), (AOp.mk none (AK.st 1 (AX.t 2) (AX.t 11)) none 4 false true)]))))) (AC.seq (AC.ops [(AOp.mk (some 12) (AK.ld none (AX.t 2)) none 0 false true), (AOp.mk (some 4) (AK.mv (AX.t 12)) none 1 false true)]) AC.ret)))
theorem ac59_ok : cCode Tryz.prog (fun _ => false) Tryz.f59.ntmps (Tryz.f59.body.getD .skip) = some ac59 := by kernel_rfl
def ac35 : AC := (AC.seq (AC.ops [(AOp.mk (some 2) (AK.mv (AX.c (PV.sl SK.full 0 []))) none 0 false true)]) (AC.seq (AC.ops [(AOp.mk (some 3) (AK.mv (AX.t 0)) none 0 false true), (AOp.mk (some 4) (AK.call 59 [(AX.c (PV.sl SK.full 0 [])), (AX.t 3)]) none 1 false true), (AOp.mk (some 2) (AK.mv (AX.t 4)) none 2 false true)]) AC.ret))
theorem ac35_ok : cCode Tryz.prog (fun _ => false) Tryz.f35.ntmps (Tryz.f35.body.getD .skip) = some ac35 := by kernel_rfl
def ac104 : AC := (AC.seq (AC.ops [(AOp.mk (some 4) (AK.mv (AX.c (PV.val (Value.int IntKind.i64 0)))) none 0 false true)]) (AC.seq (AC.seq (AC.ops [(AOp.mk (some 6) (AK.mv (AX.t 0)) none 0 false true), (AOp.mk (some 7) (AK.len (AX.t 6)) none 1 false true), (AOp.mk (some 8) (AK.mv (AX.c (PV.val (Value.int IntKind.i64 0)))) none 2 false true)]) (AC.block 0 (AC.loop (AC.seq (AC.ops [(AOp.mk (some 9) (AK.bin false BinOp.lss (AX.t 8) (AX.t 7)) none 0 false true)]) (AC.seq (AC.cond (AX.t 9) AC.skip (AC.exit 0)) (AC.seq (AC.block 1 (AC.seq (AC.ops [(AOp.mk (some 10) (AK.mv (AX.t 8)) none 0 false true), (AOp.mk (some 5) (AK.mv (AX.t 10)) none 1 false true)]) (AC.seq (AC.ops [(AOp.mk (some 11) (AK.mv (AX.t 1)) none 0 false true), (AOp.mk (some 12) (AK.mv (AX.t 0)) none 1 false true), (AOp.mk (some 13) (AK.mv (AX.t 5)) none 2 false true), (AOp.mk (some 14) (AK.iadrS 1 (AX.t 12) (AX.t 13)) none 3 false true), (AOp.mk (some 15) (AK.ld none (AX.t 14)) none 4 false true), (AOp.mk (some 16) (AK.bin false BinOp.eql (AX.t 11) (AX.t 15)) none 5 false true)]) (AC.cond (AX.t 16) (AC.seq (AC.ops [(AOp.mk (some 17) (AK.mv (AX.t 5)) none 0 false true), (AOp.mk (some 4) (AK.mv (AX.t 17)) none 1 false true)]) AC.ret) AC.skip)))) (AC.ops [(AOp.mk (some 18) (AK.bin false BinOp.add (AX.t 8) (AX.c (PV.val (Value.int IntKind.i64 1)))) none 0 false true), (AOp.mk (some 8) (AK.mv (AX.t 18)) none 1 false true)]))))))) (AC.seq (AC.ops [(AOp.mk (some 4) (AK.mv (AX.c (PV.val (Value.int IntKind.i64 (-1))))) none 0 false true)]) AC.ret)))
theorem ac104_ok : cCode Tryz.prog (fun _ => false) Tryz.f104.ntmps (Tryz.f104.body.getD .skip) = some ac104 := by kernel_rfl
def ac92 : AC := (AC.seq (AC.ops [(AOp.mk (some 4) (AK.mv (AX.c (PV.val (Value.bool false)))) none 0 false true)]) (AC.seq (AC.ops [(AOp.mk (some 5) (AK.mv (AX.t 0)) none 0 false true), (AOp.mk (some 6) (AK.mv (AX.t 1)) none 1 false true), (AOp.mk (some 7) (AK.call 104 [(AX.t 5), (AX.t 6)]) none 2 false true), (AOp.mk (some 8) (AK.bin false BinOp.geq (AX.t 7) (AX.c (PV.val (Value.int IntKind.i64 0)))) none 3 false true), (AOp.mk (some 4) (AK.mv (AX.t 8)) none 4 false true)]) AC.ret))
theorem ac92_ok : cCode Tryz.prog (fun _ => false) Tryz.f92.ntmps (Tryz.f92.body.getD .skip) = some ac92 := by kernel_rfl
def ac94 : AC := (AC.seq (AC.ops [(AOp.mk (some 3) (AK.box 1 (AX.t 1)) none 0 false true), (AOp.mk (some 4) (AK.new (PV.val (Value.int IntKind.i64 0))) none 1 false true), (AOp.mk (some 5) (AK.new (PV.val (Value.int IntKind.i64 0))) none 2 false true), (AOp.mk (some 6) (AK.new (PV.val (Value.int IntKind.i64 0))) none 3 false true)]) (AC.seq (AC.seq (AC.ops [(AOp.mk (some 8) (AK.mv (AX.t 0)) none 0 false true), (AOp.mk (some 9) (AK.call 68 [(AX.t 8), (AX.c (PV.val (Value.int IntKind.i64 2)))]) none 1 false true)]) (AC.block 0 (AC.rng (AX.t 9) [10] (AC.ops [(AOp.mk (some 7) (AK.mv (AX.t 10)) none 0 false true)]) (AC.block 1 (AC.seq (AC.ops [(AOp.mk (some 11) (AK.ld none (AX.t 3)) none 0 true false), (AOp.mk (some 12) (AK.mv (AX.t 7)) none 1 true false), (AOp.mk (some 13) (AK.iadrS 1 (AX.t 12) (AX.c (PV.val (Value.int IntKind.i64 0)))) none 2 true false), (AOp.mk (some 14) (AK.ld none (AX.t 13)) none 3 true false), (AOp.mk (some 15) (AK.mv (AX.t 7)) none 4 true false), (AOp.mk (some 16) (AK.iadrS 1 (AX.t 15) (AX.c (PV.val (Value.int IntKind.i64 1)))) none 5 true false), (AOp.mk (some 17) (AK.ld none (AX.t 16)) none 6 true false), (AOp.mk (some 18) (AK.callv (AX.t 11) [(AX.t 14), (AX.t 17)]) none 7 false true)]) (AC.cond (AX.t 18) (AC.seq (AC.ops [(AOp.mk (some 19) (AK.mv (AX.t 7)) none 0 true false), (AOp.mk (some 20) (AK.iadrS 1 (AX.t 19) (AX.c (PV.val (Value.int IntKind.i64 0)))) none 1 true false), (AOp.mk (some 21) (AK.ld none (AX.t 20)) none 2 true false), (AOp.mk (some 22) (AK.mv (AX.t 7)) none 3 true false), (AOp.mk (some 23) (AK.iadrS 1 (AX.t 22) (AX.c (PV.val (Value.int IntKind.i64 1)))) none 4 true false), (AOp.mk (some 24) (AK.ld none (AX.t 23)) none 5 true false), (AOp.mk none (AK.st 1 (AX.t 4) (AX.t 21)) none 6 false false), (AOp.mk none (AK.st 1 (AX.t 5) (AX.t 24)) none 7 false true), (AOp.mk none (AK.st 1 (AX.t 6) (AX.c (PV.val (Value.int IntKind.i64 0)))) none 8 false true)]) AC.ret) AC.skip)))))) (AC.seq (AC.ops [(AOp.mk none (AK.st 1 (AX.t 4) (AX.c (PV.val (Value.int IntKind.i64 0)))) none 0 false true), (AOp.mk none (AK.st 1 (AX.t 5) (AX.c (PV.val (Value.int IntKind.i64 0)))) none 1 false true), (AOp.mk none (AK.st 1 (AX.t 6) (AX.c (PV.val (Value.int IntKind.i64 4)))) none 2 false true)]) AC.ret)))
theorem ac94_ok : cCode Tryz.prog (fun _ => false) Tryz.f94.ntmps (Tryz.f94.body.getD .skip) = some ac94 := by kernel_rfl
theorem mem_listsF {e : Nat} : ∀ (r : Nat) (l : List Int) (a : Nat) (l' : List Int), l' ∈ listsF e r l a ↔ ∃ t : List Int, l' = l ++ t ∧ t.length = r ∧ incL t ∧ ∀ x ∈ t, (a : Int) ≤ x ∧ x < e
  | 0, l, a, l' => by
    simp only [listsF, List.mem_singleton]
    constructor
    · rintro rfl; exact ⟨[], by simp, rfl, by simp [incL], by simp⟩
    · rintro ⟨t, rfl, ht, -, -⟩; rw [List.eq_nil_of_length_eq_zero ht]; simp
  | r + 1, l, a, l' => by
    simp only [listsF, List.mem_flatMap, List.mem_map, List.mem_range]
    constructor
    · rintro ⟨n, ⟨q, hq, rfl⟩, h⟩
      obtain ⟨t, rfl, h1, h2, h3⟩ := (mem_listsF r _ _ _).1 h
      refine ⟨((a + q : Nat) : Int) :: t, by simp, by simp [h1], ?_, ?_⟩
      · unfold incL
        rw [List.pairwise_cons]
        exact ⟨fun x hx => by have := h3 x hx; omega, h2⟩
      · intro x hx
        rcases List.mem_cons.1 hx with rfl | hx
        · omega
        · have := h3 x hx; omega
    · rintro ⟨t, rfl, h1, h2, h3⟩
      match t, h1 with
      | x :: t, h1 =>
        have hx := h3 x (List.mem_cons_self ..)
        unfold incL at h2
        rw [List.pairwise_cons] at h2
        refine ⟨x.toNat, ⟨x.toNat - a, by omega, by omega⟩, (mem_listsF r _ _ _).2 ⟨t, ?_, by simpa using h1, h2.2, fun y hy => ?_⟩⟩
        · rw [show ((x.toNat : Nat) : Int) = x by omega]; simp
        · have h4 := h2.1 y hy
          have h5 := h3 y (List.mem_cons_of_mem _ hy)
          omega
theorem mem_listsL {e m : Nat} {l : List Int} : l ∈ listsL e m ↔ l.length = m ∧ growsI l e := by
  unfold listsL growsI
  rw [mem_listsF]
  constructor
  · rintro ⟨t, rfl, h1, h2, h3⟩
    exact ⟨by simpa using h1, by simpa using h2, fun x hx => by have := h3 x (by simpa using hx); omega⟩
  · rintro ⟨h1, h2, h3⟩
    exact ⟨l, by simp, h1, h2, fun x hx => by have := h3 x hx; omega⟩
theorem pair_of {e : Nat} {l : List Int} (h : l ∈ listsL e 2) : ∃ i k : Nat, l = [(i : Int), (k : Int)] ∧ i < k ∧ k < e := by
  obtain ⟨h1, h2, h3⟩ := mem_listsL.1 h
  match l, h1 with
  | [x, y], _ =>
    have hx := h3 x (by simp)
    have hy := h3 y (by simp)
    unfold incL at h2
    simp at h2
    exact ⟨x.toNat, y.toNat, by rw [show ((x.toNat : Nat) : Int) = x by omega, show ((y.toNat : Nat) : Int) = y by omega], by omega, by omega⟩
theorem find_at {α : Type} {zs : List α} {P : α → Bool} {i : Nat} (h : i < zs.length) (hn : ∀ x ∈ zs.take i, P x = false) (hp : P zs[i] = true) : zs.find? P = some zs[i] := by
  rw [List.find?_eq_some_iff_getElem]
  refine ⟨hp, i, h, rfl, fun j hj => ?_⟩
  rw [hn zs[j] (List.mem_iff_getElem.2 ⟨j, by rw [List.length_take]; omega, by simp⟩)]
  rfl
theorem find_no {α : Type} {zs : List α} {P : α → Bool} (hn : ∀ x ∈ zs.take zs.length, P x = false) : zs.find? P = none := by
  rw [List.take_length] at hn
  exact List.find?_eq_none.2 fun x hx => by rw [hn x hx]; simp
theorem retQ_cells3 {P : Program} {t t' t'' : Nat} {ty ty' ty'' : TypeId} {R : PV → Prop} {s : AS} {x y z : PV} (hs : shapeN P ty = some none) (hs' : shapeN P ty' = some none) (hs'' : shapeN P ty'' = some none) (h : stillV s (.ld none (.t t)) = some (.p x)) (h' : stillV s (.ld none (.t t')) = some (.p y)) (h'' : stillV s (.ld none (.t t'')) = some (.p z)) (hR : R (.tup [x, y, z])) : retQ P [.cell t ty, .cell t' ty', .cell t'' ty''] R s :=
  ⟨[.p x, .p y, .p z], [x, y, z], s.loc, .tup [x, y, z], by simp [resA, hs, hs', hs'', h, h', h''], rfl, PVle.refl _, hR⟩
theorem retQ_cells2 {P : Program} {t t' : Nat} {ty ty' : TypeId} {R : PV → Prop} {s : AS} {x y : PV} (hs : shapeN P ty = some none) (hs' : shapeN P ty' = some none) (h : stillV s (.ld none (.t t)) = some (.p x)) (h' : stillV s (.ld none (.t t')) = some (.p y)) (hR : R (.tup [x, y])) : retQ P [.cell t ty, .cell t' ty'] R s :=
  ⟨[.p x, .p y], [x, y], s.loc, .tup [x, y], by simp [resA, hs, hs', h, h'], rfl, PVle.refl _, hR⟩
def pairP (p : Nat → Nat → Bool) (l : List Int) : Bool := p (l.getD 0 0).toNat (l.getD 1 0).toNat
theorem pairP_two (p : Nat → Nat → Bool) (i k : Nat) : pairP p [(i : Int), (k : Int)] = p i k := by simp [pairP]
def twoP (o : Option (List Int)) : PV := match o with | some l => .tup [pi (l.getD 0 0), pi (l.getD 1 0), pi 0] | none => .tup [pi 0, pi 0, pi 4]
theorem two_0 {i k : Int} : iadrS' 1 (.p (pis [i, k])) (.p (pi 0)) = some (.p (.ptr [pi i] 0)) := rfl
theorem two_1 {i k : Int} : iadrS' 1 (.p (pis [i, k])) (.p (pi 1)) = some (.p (.ptr [pi k] 0)) := rfl
theorem firstPair_sem {f : FuncId} {fi cap : List PV} {p : Nat → Nat → Bool} {e : Nat} (he : e ≤ 100) (hf : ∀ i k : Nat, i < k → k < e → Sem1 f (fi ++ [pi i, pi k] ++ cap) (pb (p i k))) : Sem1 94 [pi e, .clo f fi cap] (twoP ((listsL e 2).find? (pairP p))) := by
  refine semC_of_exec' mixed Tryz.func94 (by kernel_rfl) (by kernel_rfl) ac94_ok 2 rfl (by decide) [(.cell 4 3), (.cell 5 3), (.cell 6 30)] (by kernel_rfl) ?_
  intro hr C hC hI
  unfold ac94
  simp only [go_sem, Nat.reduceBEq, Nat.reduceAdd]
  refine call_pure2 hC (lists_sem e 2) rfl (PVleL_refl _) ?_
  rintro r rfl
  simp only [go_sem]
  refine rng_m (ι := Unit) (listsL e 2) (fun l => [pis l]) [3, 4, 5, 6] (fun _ _ => [.cells [.p (.clo f fi cap)], .cells [.p (pi 0)], .cells [.p (pi 0)], .cells [.p (pi 0)]]) (fun _ _ => []) (fun _ => some []) (fun i _ => ∀ l ∈ (listsL e 2).take i, pairP p l = false) () rfl rfl (hI _ _ _ (lists_it (by omega) he)) ?_ (fun _ => rfl) (by simp [Wk, wkT, wkL, look, AV.lo, AV.lo.loL, keepS]) (by simp) ?_ ?_
  · simp only [show noY.noYR ((listsL e 2).map fun l => [pis l]) = true from noY_encLs _, noY.noYL, noY, Bool.and_true]
  · rintro q - hq hok
    obtain ⟨i, k, hl, hik, hk⟩ := pair_of (List.getElem_mem hq)
    rw [hl]
    simp only [go_sem, Nat.reduceBEq, Nat.reduceAdd, two_0, two_1]
    rw [show List.map AV.p fi ++ [AV.p (pi i), AV.p (pi k)] ++ List.map AV.p cap = (fi ++ [pi i, pi k] ++ cap).map AV.p by simp]
    refine call_pure hC (hf i k hik hk) (PVleL_refl _) ?_
    rintro r rfl
    have hpp := pairP_two p i k
    cases hp : p i k
    · simp only [go_sem, Nat.reduceBEq]
      refine ⟨(), take_next hq hok (by rw [hl, hpp, hp]), ?_⟩
      exact by simp [Wk, wkT, wkL, look, AV.lo, AV.lo.loL, ABlk.toZ]
    · simp only [go_sem, Nat.reduceBEq, two_0, two_1, putCells]
      refine retQ_cells3 (by kernel_rfl) (by kernel_rfl) (by kernel_rfl) rfl rfl rfl ?_
      rw [find_at hq hok (by rw [hl, hpp, hp]), hl]
      rfl
  · rintro - hok
    rw [find_no hok]
    simp only [go_sem, Nat.reduceBEq, putCells]
    exact retQ_cells3 (by kernel_rfl) (by kernel_rfl) (by kernel_rfl) rfl rfl rfl rfl
def clashP (b : DBook) : List Int → Bool := pairP fun i k => decide (sameI b i k ≠ 0)
def clashI (b : DBook) : Nat := (listsL b.horses.length 2).countP (clashP b)
def firstP (zs : List Nat) : PV := match zs with | [] => .tup [pi 0, pb false] | z :: _ => .tup [pi z, pb true]
theorem first_sem {f : FuncId} {fi cap : List PV} {zs : List Nat} (hit : IterC Tryz.prog Fence.wide f (fi ++ .yld :: cap) (zs.map encT)) (hno : (noY.noYL fi && noY.noYL cap) = true) : Sem1 50 [.clo f fi cap] (firstP zs) := by
  refine semC_of_exec' mixed Tryz.func50 (by kernel_rfl) (by kernel_rfl) ac50_ok 1 rfl (by decide) [(.cell 2 3), (.cell 3 4)] (by kernel_rfl) ?_
  intro hr C hC hI
  unfold ac50
  simp only [go_sem, Nat.reduceBEq]
  refine rng_m (ι := Unit) zs encT [2, 3] (fun _ _ => [.cells [.p (pi 0)], .cells [.p (pb false)]]) (fun _ _ => []) (fun _ => some []) (fun i _ => i = 0) () rfl rfl (hI _ _ _ hit) ?_ (fun _ => rfl) (by simp [Wk, wkT, wkL, look, AV.lo, AV.lo.loL, keepS]) rfl ?_ ?_
  · simp only [noY_turns, hno, Bool.and_true]
  · rintro q - hq hok
    subst hok
    simp only [go_sem, Nat.reduceBEq, Nat.reduceAdd, Nat.reduceEqDiff, encT, putCells]
    refine retQ_cells2 (by kernel_rfl) (by kernel_rfl) rfl rfl ?_
    match zs, hq with
    | z :: r, _ => rfl
  · rintro - hok
    rw [List.eq_nil_of_length_eq_zero hok]
    simp only [go_sem, Nat.reduceBEq, putCells]
    exact retQ_cells2 (by kernel_rfl) (by kernel_rfl) rfl rfl rfl
theorem AppendSeq_sem {f : FuncId} {fi cap : List PV} {zs : List Nat} (hit : IterC Tryz.prog Fence.wide f (fi ++ .yld :: cap) (zs.map encT)) (hno : (noY.noYL fi && noY.noYL cap) = true) (hz : zs.length ≤ 1000) : Sem1 59 [.sl .full 0 [], .clo f fi cap] (pis (zs.map fun (z : Nat) => (z : Int))) := by
  refine semC_of_exec' mixed Tryz.func59 (by kernel_rfl) (by kernel_rfl) ac59_ok 2 rfl (by decide) [(.tmp 4)] (by kernel_rfl) ?_
  intro hr C hC hI
  unfold ac59
  simp only [go_sem, Nat.reduceBEq]
  refine rng_m (ι := Option Nat) zs encT [2] (fun i o => [.cells [.p (slN 3 o ((zs.take i).map fun (z : Nat) => (z : Int)))]]) (fun _ o => o.toList) (fun _ => some []) (fun i o => o = none → i = 0) none rfl rfl (hI _ _ _ hit) ?_ (fun _ => rfl) (by simp [Wk, wkT, wkL, look, AV.lo, AV.lo.loL, keepS, slN]) (fun _ => rfl) ?_ ?_
  · simp only [noY_turns, hno, Bool.and_true]
  · rintro q o hq hok
    have hnx : (zs.take (q + 1)).map (fun (z : Nat) => (z : Int)) = (zs.take q).map (fun (z : Nat) => (z : Int)) ++ [(zs[q] : Int)] := by
      rw [List.take_succ_eq_append_getElem hq, List.map_append]; rfl
    cases o with
    | none =>
      have h0 := hok rfl
      subst h0
      simp only [slN]
      simp only [go_sem, Nat.reduceBEq, Nat.reduceLeDiff, Nat.reduceEqDiff, encT, putCells]
      intro tk _
      refine ⟨some tk, (fun h => by cases h), ?_⟩
      simp only [hnx]
      simp [Wk, wkT, wkL, look, AV.lo, AV.lo.loL]
    | some tk =>
      simp only [slN]
      simp only [go_sem, Nat.reduceBEq, Nat.reduceLeDiff, Nat.reduceEqDiff, encT, putCells, List.length_map]
      refine ⟨by rw [List.length_take]; omega, by simp, fun t2 _ => ?_⟩
      refine ⟨some t2, (fun h => by cases h), ?_⟩
      simp only [hnx]
      simp [Wk, wkT, wkL, look, AV.lo, AV.lo.loL]
  · rintro o hok
    rw [List.take_length]
    cases o with
    | none =>
      rw [List.eq_nil_of_length_eq_zero (hok rfl)]
      simp only [slN]
      simp only [go_sem, Nat.reduceBEq]
      exact retQ_le rfl (PVle.nil .full 0 1) rfl
    | some tk =>
      simp only [slN]
      simp only [go_sem, Nat.reduceBEq]
      exact retQ_le rfl (PVle.sh _ _ _) rfl
theorem Collect_sem {f : FuncId} {fi cap : List PV} {zs : List Nat} (hit : IterC Tryz.prog Fence.wide f (fi ++ .yld :: cap) (zs.map encT)) (hno : (noY.noYL fi && noY.noYL cap) = true) (hz : zs.length ≤ 1000) : Sem1 35 [.clo f fi cap] (pis (zs.map fun (z : Nat) => (z : Int))) := by
  refine semC_of_exec' mixed Tryz.func35 (by kernel_rfl) (by kernel_rfl) ac35_ok 1 rfl (by decide) [(.tmp 2)] (by kernel_rfl) ?_
  intro hr C hC hI
  unfold ac35
  simp only [go_sem, Nat.reduceBEq]
  refine call_pure2 hC (AppendSeq_sem hit hno hz) rfl (PVleL_refl _) ?_
  rintro r rfl
  simp only [go_sem, Nat.reduceBEq]
  exact retQ_one rfl rfl
theorem Index_sem (l : List Int) (x : Int) : Sem1 104 [pis l, pi x] (pi (idxI l fun y => decide (x = y))) := by
  refine semC_of_exec' mixed Tryz.func104 (by kernel_rfl) (by kernel_rfl) ac104_ok 2 rfl (by decide) [(.tmp 4)] (by kernel_rfl) ?_
  intro hr C hC hI
  unfold ac104
  simp only [go_sem, Nat.reduceBEq, List.length_map]
  have hl := real_len (i := 0) hr rfl
  rw [List.length_map] at hl
  refine loop_k l.length (fun j => ∀ y ∈ l.take j, decide (x = y) = false) [0, 1, 7] (fun j => [(8, .p (pi j))]) (by simp) rfl ⟨rfl, by simp, by simp⟩ (by simp [wkT, look, AV.lo]) ?_
  rintro j ⟨hj, hok⟩
  simp only [go_sem, Nat.reduceBEq]
  refine ⟨fun h5 => ?_, fun h5 => ?_⟩
  · have hj2 : j < l.length := by omega
    simp only [go_sem, Nat.reduceBEq, iadr_pis hj2]
    refine ⟨fun h6 => ?_, fun h6 => ?_⟩
    · exact retQ_one rfl (by rw [idxI_some hj2 (p := fun y => decide (x = y)) (decide_eq_true h6) hok])
    · simp only [go_sem, wrap_succ (k := j) (by omega)]
      refine ⟨⟨j + 1, hj2, take_next hj2 hok (decide_eq_false h6)⟩, by simp only; omega, by simp [Wk, wkT, wkL, look, AV.lo]⟩
  · have hjn : j = l.length := by omega
    subst hjn
    rw [List.take_length] at hok
    exact retQ_one rfl (by rw [idxI_none hok])
theorem Contains_sem (l : List Int) (x : Int) : Sem1 92 [pis l, pi x] (pb (decide (x ∈ l))) := by
  refine semC_of_exec' mixed Tryz.func92 (by kernel_rfl) (by kernel_rfl) ac92_ok 2 rfl (by decide) [(.tmp 4)] (by kernel_rfl) ?_
  intro hr C hC hI
  unfold ac92
  simp only [go_sem, Nat.reduceBEq]
  refine call_pure2 hC (Index_sem l x) rfl (PVleL_refl _) ?_
  rintro r rfl
  simp only [go_sem, Nat.reduceBEq]
  refine retQ_one rfl (congrArg pb ?_)
  rw [idxI_dec, Bool.eq_iff_iff]
  simp
end Go.Proofs.YtlbolnlcncjijaaGreat
namespace Go.Proofs.YtlbolnlcncjijaaGreat
open Go.RowKit
def ac23 : AC := (AC.seq (AC.ops [(AOp.mk (some 2) (AK.box 2 (AX.t 0)) none 0 false true), (AOp.mk (some 4) (AK.mv (AX.c PV.nilp)) none 1 false true), (AOp.mk (some 5) (AK.mv (AX.c (PV.val (Value.int IntKind.i64 0)))) none 2 false true)]) (AC.seq (AC.seq (AC.ops [(AOp.mk (some 7) (AK.ld (some 2) (AX.t 2)) none 0 false true), (AOp.mk (some 8) (AK.call 17 [(AX.t 7)]) none 1 false true), (AOp.mk (some 6) (AK.mv (AX.t 8)) none 2 false true)]) (AC.seq (AC.ops [(AOp.mk (some 9) (AK.mv (AX.t 6)) none 0 false true), (AOp.mk (some 10) (AK.bin false BinOp.neq (AX.t 9) (AX.c (PV.val (Value.int IntKind.i64 0)))) none 1 false true)]) (AC.cond (AX.t 10) (AC.seq (AC.ops [(AOp.mk (some 11) (AK.mv (AX.t 6)) none 0 false true), (AOp.mk (some 4) (AK.mv (AX.c PV.nilp)) none 1 false true), (AOp.mk (some 5) (AK.mv (AX.t 11)) none 2 false true)]) AC.ret) AC.skip))) (AC.seq (AC.seq (AC.ops [(AOp.mk (some 12) (AK.mv (AX.t 1)) none 0 false true), (AOp.mk (some 13) (AK.un UnOp.not (AX.t 12)) none 1 false true)]) (AC.cond (AX.t 13) (AC.seq (AC.ops [(AOp.mk (some 4) (AK.mv (AX.c PV.nilp)) none 0 false true), (AOp.mk (some 5) (AK.mv (AX.c (PV.val (Value.int IntKind.i64 71)))) none 1 false true)]) AC.ret) AC.skip)) (AC.seq (AC.ops [(AOp.mk (some 14) (AK.ld (some 2) (AX.t 2)) none 0 false true), (AOp.mk (some 15) (AK.call 42 [(AX.t 14)]) none 1 false true), (AOp.mk (some 4) (AK.mv (AX.t 15)) none 2 false true), (AOp.mk (some 5) (AK.mv (AX.c (PV.val (Value.int IntKind.i64 0)))) none 3 false true)]) AC.ret))))
theorem ac23_ok : cCode Tryz.prog (fun _ => false) Tryz.f23.ntmps (Tryz.f23.body.getD .skip) = some ac23 := by kernel_rfl
def ac20 : AC := (AC.seq (AC.ops [(AOp.mk (some 3) (AK.box 2 (AX.t 0)) none 0 false true), (AOp.mk (some 6) (AK.mv (AX.c (PV.sl SK.full 0 []))) none 1 false true), (AOp.mk (some 7) (AK.mv (AX.c (PV.val (Value.int IntKind.i64 0)))) none 2 false true)]) (AC.seq (AC.ops [(AOp.mk (some 11) (AK.ld (some 2) (AX.t 3)) none 0 true false), (AOp.mk (some 12) (AK.ld (some 2) (AX.t 3)) none 1 true false), (AOp.mk (some 13) (AK.mv (AX.t 1)) none 2 true false), (AOp.mk (some 14) (AK.mv (AX.t 2)) none 3 true false), (AOp.mk (some 15) (AK.call 33 [(AX.t 12), (AX.t 13), (AX.t 14)]) none 4 false false), (AOp.mk (some 16) (AK.call 23 [(AX.t 11), (AX.t 15)]) none 5 false true), (AOp.mk (some 10) (AK.mv (AX.t 16)) none 6 true true), (AOp.mk (some 17) (AK.ext (AX.t 10) 0) none 7 true false), (AOp.mk (some 18) (AK.ext (AX.t 10) 1) none 8 true false), (AOp.mk (some 8) (AK.mv (AX.t 17)) none 9 true false), (AOp.mk (some 9) (AK.mv (AX.t 18)) none 10 true true)]) (AC.seq (AC.seq (AC.ops [(AOp.mk (some 19) (AK.mv (AX.t 9)) none 0 false true), (AOp.mk (some 20) (AK.bin false BinOp.neq (AX.t 19) (AX.c (PV.val (Value.int IntKind.i64 0)))) none 1 false true)]) (AC.cond (AX.t 20) (AC.seq (AC.ops [(AOp.mk (some 21) (AK.mv (AX.t 9)) none 0 false true), (AOp.mk (some 6) (AK.mv (AX.c (PV.sl SK.full 0 []))) none 1 false true), (AOp.mk (some 7) (AK.mv (AX.t 21)) none 2 false true)]) AC.ret) AC.skip)) (AC.seq (AC.ops [(AOp.mk (some 22) (AK.mv (AX.t 8)) none 0 true false), (AOp.mk (some 23) (AK.mv (AX.t 1)) none 1 true false), (AOp.mk (some 24) (AK.mv (AX.t 8)) none 2 true false), (AOp.mk (some 25) (AK.nilc (AX.t 24)) none 3 true false), (AOp.mk (some 26) (AK.fadr 2 (AX.t 25)) none 4 true false), (AOp.mk (some 27) (AK.ld none (AX.t 26)) none 5 true false), (AOp.mk (some 28) (AK.mv (AX.t 2)) none 6 true false), (AOp.mk (some 29) (AK.call 37 [(AX.t 28)]) none 7 false false), (AOp.mk (some 30) (AK.lkp [CK.i, CK.i] true (PV.agg [(PV.val (Value.int IntKind.i64 0)), (PV.val (Value.int IntKind.i64 0)), (PV.val (Value.int IntKind.i64 0)), (PV.val (Value.int IntKind.i64 0)), (PV.val (Value.int IntKind.i64 0)), (PV.val (Value.int IntKind.i64 0)), (PV.val (Value.int IntKind.i64 0)), (PV.val (Value.int IntKind.i64 0))]) false (AX.t 27) (AX.t 29)) none 8 true true), (AOp.mk (some 31) (AK.call 36 [(AX.t 22), (AX.t 23), (AX.t 30), (AX.c (PV.val (Value.int IntKind.i64 1)))]) none 9 false true), (AOp.mk (some 32) (AK.call 35 [(AX.t 31)]) none 10 false true), (AOp.mk (some 33) (AK.call 34 [(AX.t 32)]) none 11 false true), (AOp.mk (some 6) (AK.mv (AX.t 33)) none 12 true true), (AOp.mk (some 7) (AK.mv (AX.c (PV.val (Value.int IntKind.i64 0)))) none 13 true true)]) AC.ret))))
theorem ac20_ok : cCode Tryz.prog (fun _ => false) Tryz.f20.ntmps (Tryz.f20.body.getD .skip) = some ac20 := by kernel_rfl
def errI (b : DBook) (known : Bool) : Int := if okBook b then (if known then 0 else 71) else 70
theorem errI_ok {b : DBook} {known : Bool} (h : errI b known = 0) : okBook b ∧ known = true := by
  unfold errI at h
  split at h
  · rename_i ho
    split at h
    · rename_i hk; exact ⟨ho, hk⟩
    · omega
  · omega
theorem errI_ne {b : DBook} {known : Bool} (h : errI b known ≠ 0) : ¬ (okBook b ∧ known = true) := fun ⟨h1, h2⟩ => h (by unfold errI; rw [if_pos h1, if_pos h2])
theorem askedBook_sem (k : SK) (b : DBook) (known : Bool) : Sem1 23 [.agg (bookC k b), pb known] (.tup [if errI b known = 0 then bookP k b else .nilp, pi (errI b known)]) := by
  refine semC_of_exec' mixed Tryz.func23 (by kernel_rfl) (by kernel_rfl) ac23_ok 2 rfl (by decide) [(.tmp 4), (.tmp 5)] (by kernel_rfl) ?_
  intro hr C hC hI
  unfold ac23
  simp only [go_sem, Nat.reduceBEq, Nat.reduceAdd]
  refine call_pure2 hC (Check_sem k b) rfl (PVleL_refl _) ?_
  rintro r rfl
  simp only [go_sem, Nat.reduceBEq]
  by_cases ho : okBook b
  · rw [if_pos ho]
    refine ⟨fun h => absurd rfl h, fun _ => ?_⟩
    cases known
    · have he : errI b false = 71 := by unfold errI; rw [if_pos ho]; rfl
      rw [he]
      simp only [go_sem, Nat.reduceBEq]
      exact retQ_two rfl rfl rfl
    · have he : errI b true = 0 := by unfold errI; rw [if_pos ho]; rfl
      rw [he]
      simp only [go_sem, Nat.reduceBEq, Nat.reduceAdd]
      refine call_pure2 hC (bookOf_sem k ho) rfl (PVleL_refl _) ?_
      rintro r rfl
      simp only [go_sem, Nat.reduceBEq]
      exact retQ_two rfl rfl rfl
  · have he : errI b known = 70 := by unfold errI; rw [if_neg ho]
    rw [if_neg ho, he]
    refine ⟨fun _ => retQ_two rfl rfl rfl, fun h => absurd h (by decide)⟩
theorem askP {C : Con} (hC : ∀ f args rd K s, SemP Tryz.prog Fence.wide f args rd K s → C.call f args rd K s) (k : SK) (b : DBook) (known : Bool) {rd : List Nat} {K : AV → AS → Prop} {s : AS}
    (h1 : errI b known ≠ 0 → K (.p (.tup [.nilp, pi (errI b known)])) s) (h2 : errI b known = 0 → K (.p (.tup [bookP k b, pi 0])) s) : C.call 23 [.p (.agg (bookC k b)), .p (pb known)] rd K s := by
  refine call_pure2 hC (askedBook_sem k b known) rfl (PVleL_refl _) ?_
  rintro r rfl
  by_cases he : errI b known = 0
  · rw [if_pos he, he]; exact h2 he
  · rw [if_neg he]; exact h1 he
def okPair (b : DBook) (n m : Int) : Bool := decide ((0 ≤ n ∧ n < b.horses.length) ∧ (0 ≤ m ∧ m < b.horses.length) ∧ n ≠ m)
def natL (l : List Nat) : List Int := l.map fun (t : Nat) => (t : Int)
def turnsI (b : DBook) (h o : Nat) : List Nat := turnsP b meetB h (rowL b o 0)
theorem turnsP_len (b : DBook) (p : Int → Int → Bool) (h : Nat) (g : List Int) : (turnsP b p h g).length ≤ nR b := Nat.le_trans (List.length_filter_le ..) (by simp)
theorem look_str {b : DBook} (ho : okBook b) {o : Nat} (hoo : o < b.horses.length) (z : PV) : lkpV [.i, .i] true z false (rowsE b) (.agg [pi o, pi 0]) = some (.agg ((rowL b o 0).map pi)) := look_row hoo (show 0 < nR b by have := (okR ho).1; omega) z
theorem nat_of {n : Int} (h : 0 ≤ n) : ∃ m : Nat, n = m := ⟨n.toNat, by omega⟩
theorem Turns_sem (k : SK) (b : DBook) (n m : Int) : Sem1 20 [.agg (bookC k b), pi n, pi m] (if errI b (okPair b n m) = 0 then .tup [pis (natL (turnsI b n.toNat m.toNat)), pi 0] else .tup [pis [], pi (errI b (okPair b n m))]) := by
  obtain ⟨R, hR⟩ : ∃ R, (if errI b (okPair b n m) = 0 then PV.tup [pis (natL (turnsI b n.toNat m.toNat)), pi 0] else .tup [pis [], pi (errI b (okPair b n m))]) = R := ⟨_, rfl⟩
  rw [hR]
  refine semC_of_exec' mixed Tryz.func20 (by kernel_rfl) (by kernel_rfl) ac20_ok 3 rfl (by decide) [(.tmp 6), (.tmp 7)] (by kernel_rfl) ?_
  intro hr C hC hI
  unfold ac20
  simp only [go_sem, Nat.reduceBEq, Nat.reduceAdd]
  refine call_pure2 hC (hasPair_sem k b n m) rfl (PVleL_refl _) ?_
  rintro r rfl
  simp only [go_sem, Nat.reduceBEq]
  refine askP hC k b (okPair b n m) (fun hne => ?_) (fun h0 => ?_)
  · rw [if_neg hne] at hR
    simp only [go_sem, Nat.reduceBEq]
    exact ⟨fun _ => retQ_two_le rfl rfl (PVle.nil .full 0 1) (PVle.refl _) hR, fun h => absurd h hne⟩
  rw [if_pos h0] at hR
  obtain ⟨ho, hk⟩ := errI_ok h0
  have hk := of_decide_eq_true hk
  obtain ⟨h, rfl⟩ := nat_of hk.1.1
  obtain ⟨o, rfl⟩ := nat_of hk.2.1.1
  have hh : h < b.horses.length := by omega
  have hoo : o < b.horses.length := by omega
  have hg : (rowL b o 0).length = 8 := rowN_len ..
  have h8 := (okR ho).2.1
  simp only [go_sem, Nat.reduceBEq]
  refine ⟨fun h => h.elim, fun _ => ?_⟩
  refine call_pure2 hC (straight_sem (o : Int)) rfl (PVleL_refl _) ?_
  rintro r rfl
  simp only [go_sem, Nat.reduceBEq, look_str ho hoo, Option.map_some]
  refine call_pure2 hC (turns_sem k b h hg (show 1 < 3 by omega)) rfl (PVleL_refl _) ?_
  rintro r rfl
  simp only [go_sem, Nat.reduceBEq]
  refine call_pure2 hC (Collect_sem (turns_it k ho (fL_sem (show 1 < 3 by omega)) hh hg) (by simp only [noY.noYL, noY, noY_rows, noY_rowsE, noY_pis, Bool.and_true]) (Nat.le_trans (turnsP_len ..) (by omega))) rfl (PVleL_refl _) ?_
  rintro r rfl
  simp only [go_sem, Nat.reduceBEq]
  refine call_pure2 hC (handedOn_sem .sh 1 _ (.inl rfl)) rfl (PVleL_refl _) ?_
  rintro r rfl
  simp only [go_sem, Nat.reduceBEq]
  refine retQ_two_le rfl rfl (PVle.sh _ _ _) (PVle.refl _) ?_
  rw [← hR]
  rfl
def twoE (b : DBook) (o : Option (List Int)) : PV := if okBook b then twoP o else .tup [pi 0, pi 0, pi 70]
end Go.Proofs.YtlbolnlcncjijaaGreat
namespace Go.Proofs.YtlbolnlcncjijaaGreat
open Go.RowKit
def ac28 : AC := (AC.seq (AC.ops [(AOp.mk (some 2) (AK.new (PV.agg [(PV.val (Value.int IntKind.i64 0)), (PV.val (Value.int IntKind.i64 0)), (PV.val (Value.int IntKind.i64 0)), (PV.val (Value.int IntKind.i64 0)), (PV.val (Value.int IntKind.i64 0)), (PV.val (Value.int IntKind.i64 0)), (PV.val (Value.int IntKind.i64 0)), (PV.val (Value.int IntKind.i64 0))])) none 0 false true)]) (AC.seq (AC.seq (AC.ops [(AOp.mk (some 5) (AK.mv (AX.t 0)) none 0 false true), (AOp.mk (some 6) (AK.len (AX.t 5)) none 1 false true), (AOp.mk (some 7) (AK.mv (AX.c (PV.val (Value.int IntKind.i64 0)))) none 2 false true)]) (AC.block 0 (AC.loop (AC.seq (AC.ops [(AOp.mk (some 8) (AK.bin false BinOp.lss (AX.t 7) (AX.t 6)) none 0 false true)]) (AC.seq (AC.cond (AX.t 8) AC.skip (AC.exit 0)) (AC.seq (AC.block 1 (AC.seq (AC.ops [(AOp.mk (some 9) (AK.mv (AX.t 7)) none 0 false true), (AOp.mk (some 10) (AK.iadrS 1 (AX.t 5) (AX.t 7)) none 1 false true), (AOp.mk (some 11) (AK.ld none (AX.t 10)) none 2 false true), (AOp.mk (some 3) (AK.mv (AX.t 9)) none 3 false true), (AOp.mk (some 4) (AK.mv (AX.t 11)) none 4 false true)]) (AC.ops [(AOp.mk (some 12) (AK.mv (AX.t 3)) none 0 false true), (AOp.mk (some 13) (AK.mv (AX.t 4)) none 1 false true), (AOp.mk (some 14) (AK.call 51 [(AX.t 13)]) none 2 false true), (AOp.mk (some 15) (AK.iadrA 1 8 (AX.t 2) (AX.t 12)) none 3 false true), (AOp.mk none (AK.st 1 (AX.t 15) (AX.t 14)) none 4 false true)]))) (AC.ops [(AOp.mk (some 16) (AK.bin false BinOp.add (AX.t 7) (AX.c (PV.val (Value.int IntKind.i64 1)))) none 0 false true), (AOp.mk (some 7) (AK.mv (AX.t 16)) none 1 false true)]))))))) (AC.seq (AC.ops [(AOp.mk (some 17) (AK.ld (some 8) (AX.t 2)) none 0 false true), (AOp.mk none (AK.st 8 (AX.t 2) (AX.t 17)) none 1 false true)]) AC.ret)))
theorem ac28_ok : cCode Tryz.prog (fun _ => false) Tryz.f28.ntmps (Tryz.f28.body.getD .skip) = some ac28 := by kernel_rfl
def ac27 : AC := (AC.seq (AC.ops [(AOp.mk (some 3) (AK.box 8 (AX.t 1)) none 0 false true), (AOp.mk (some 4) (AK.mv (AX.c (PV.sl SK.full 0 []))) none 1 false true)]) (AC.seq (AC.ops [(AOp.mk (some 5) (AK.mv (AX.c (PV.sl SK.full 0 []))) none 0 false true)]) (AC.seq (AC.seq (AC.ops [(AOp.mk (some 9) (AK.mv (AX.t 0)) none 0 false true), (AOp.mk (some 10) (AK.nilc (AX.t 9)) none 1 false true), (AOp.mk (some 11) (AK.fadr 0 (AX.t 10)) none 2 false true), (AOp.mk (some 12) (AK.fadr 1 (AX.t 11)) none 3 false true), (AOp.mk (some 13) (AK.ld none (AX.t 12)) none 4 false true), (AOp.mk (some 14) (AK.len (AX.t 13)) none 5 false true), (AOp.mk (some 15) (AK.mv (AX.c (PV.val (Value.int IntKind.i64 0)))) none 6 false true)]) (AC.block 0 (AC.loop (AC.seq (AC.ops [(AOp.mk (some 16) (AK.bin false BinOp.lss (AX.t 15) (AX.t 14)) none 0 false true)]) (AC.seq (AC.cond (AX.t 16) AC.skip (AC.exit 0)) (AC.seq (AC.block 1 (AC.seq (AC.ops [(AOp.mk (some 17) (AK.mv (AX.t 15)) none 0 false true), (AOp.mk (some 6) (AK.mv (AX.t 17)) none 1 false true)]) (AC.seq (AC.ops [(AOp.mk (some 19) (AK.mv (AX.t 0)) none 0 false true), (AOp.mk (some 20) (AK.mv (AX.t 6)) none 1 false true), (AOp.mk (some 21) (AK.ld (some 8) (AX.t 3)) none 2 false true), (AOp.mk (some 22) (AK.call 36 [(AX.t 19), (AX.t 20), (AX.t 21), (AX.c (PV.val (Value.int IntKind.i64 1)))]) none 3 false true), (AOp.mk (some 23) (AK.call 50 [(AX.t 22)]) none 4 false true), (AOp.mk (some 18) (AK.mv (AX.t 23)) none 5 false true), (AOp.mk (some 24) (AK.ext (AX.t 18) 0) none 6 false true), (AOp.mk (some 25) (AK.ext (AX.t 18) 1) none 7 false true), (AOp.mk (some 7) (AK.mv (AX.t 24)) none 8 false true), (AOp.mk (some 8) (AK.mv (AX.t 25)) none 9 false true)]) (AC.seq (AC.ops [(AOp.mk (some 26) (AK.mv (AX.t 8)) none 0 false true)]) (AC.cond (AX.t 26) (AC.ops [(AOp.mk (some 27) (AK.mv (AX.t 5)) none 0 false true), (AOp.mk (some 28) (AK.mv (AX.t 6)) none 1 false true), (AOp.mk (some 29) (AK.bslice false 3 1 1 [(PV.val (Value.int IntKind.i64 0))] [(0, (1, (AX.t 28)))]) none 2 false true), (AOp.mk (some 30) (AK.app false 3 1 8 [(PV.val (Value.int IntKind.i64 0))] (AX.t 27) (AX.t 29)) none 3 false true), (AOp.mk (some 5) (AK.mv (AX.t 30)) none 4 false true)]) AC.skip))))) (AC.ops [(AOp.mk (some 31) (AK.bin false BinOp.add (AX.t 15) (AX.c (PV.val (Value.int IntKind.i64 1)))) none 0 false true), (AOp.mk (some 15) (AK.mv (AX.t 31)) none 1 false true)]))))))) (AC.seq (AC.ops [(AOp.mk (some 32) (AK.mv (AX.t 5)) none 0 false true), (AOp.mk (some 33) (AK.call 34 [(AX.t 32)]) none 1 false true), (AOp.mk (some 4) (AK.mv (AX.t 33)) none 2 false true)]) AC.ret))))
theorem ac27_ok : cCode Tryz.prog (fun _ => false) Tryz.f27.ntmps (Tryz.f27.body.getD .skip) = some ac27 := by kernel_rfl
def ac9 : AC := (AC.seq (AC.ops [(AOp.mk (some 2) (AK.box 2 (AX.t 0)) none 0 false true), (AOp.mk (some 4) (AK.mv (AX.c (PV.sl SK.full 0 []))) none 1 false true), (AOp.mk (some 5) (AK.mv (AX.c (PV.val (Value.int IntKind.i64 0)))) none 2 false true)]) (AC.seq (AC.ops [(AOp.mk (some 9) (AK.ld (some 2) (AX.t 2)) none 0 true false), (AOp.mk (some 10) (AK.ld (some 2) (AX.t 2)) none 1 true false), (AOp.mk (some 11) (AK.mv (AX.t 1)) none 2 true false), (AOp.mk (some 12) (AK.call 26 [(AX.t 10), (AX.t 11)]) none 3 false false), (AOp.mk (some 13) (AK.call 23 [(AX.t 9), (AX.t 12)]) none 4 false true), (AOp.mk (some 8) (AK.mv (AX.t 13)) none 5 true true), (AOp.mk (some 14) (AK.ext (AX.t 8) 0) none 6 true false), (AOp.mk (some 15) (AK.ext (AX.t 8) 1) none 7 true false), (AOp.mk (some 6) (AK.mv (AX.t 14)) none 8 true false), (AOp.mk (some 7) (AK.mv (AX.t 15)) none 9 true true)]) (AC.seq (AC.seq (AC.ops [(AOp.mk (some 16) (AK.mv (AX.t 7)) none 0 false true), (AOp.mk (some 17) (AK.bin false BinOp.neq (AX.t 16) (AX.c (PV.val (Value.int IntKind.i64 0)))) none 1 false true)]) (AC.cond (AX.t 17) (AC.seq (AC.ops [(AOp.mk (some 18) (AK.mv (AX.t 7)) none 0 false true), (AOp.mk (some 4) (AK.mv (AX.c (PV.sl SK.full 0 []))) none 1 false true), (AOp.mk (some 5) (AK.mv (AX.t 18)) none 2 false true)]) AC.ret) AC.skip)) (AC.seq (AC.ops [(AOp.mk (some 19) (AK.mv (AX.t 6)) none 0 false true), (AOp.mk (some 20) (AK.mv (AX.t 1)) none 1 false true), (AOp.mk (some 21) (AK.call 28 [(AX.t 20)]) none 2 false true), (AOp.mk (some 22) (AK.call 27 [(AX.t 19), (AX.t 21)]) none 3 false true), (AOp.mk (some 4) (AK.mv (AX.t 22)) none 4 false true), (AOp.mk (some 5) (AK.mv (AX.c (PV.val (Value.int IntKind.i64 0)))) none 5 false true)]) AC.ret))))
theorem ac9_ok : cCode Tryz.prog (fun _ => false) Tryz.f9.ntmps (Tryz.f9.body.getD .skip) = some ac9 := by kernel_rfl
def arrN (f : Nat → Int) (j : Nat) : List Int := (List.range 8).map fun p => if p < j then f p else 0
theorem arrN_len (f : Nat → Int) (j : Nat) : (arrN f j).length = 8 := by simp [arrN]
theorem arr_put (f : Nat → Int) {j : Nat} (hj : j < 8) : List.take j (((arrN f j).map pi).map AV.p) ++ [.p (pi (f j))] ++ List.drop (j + 1) (((arrN f j).map pi).map AV.p) = ((arrN f (j + 1)).map pi).map AV.p := by
  apply List.ext_getElem?
  intro q
  simp only [List.map_map, arrN]
  rcases Nat.lt_trichotomy q j with hq | rfl | hq
  · rw [List.append_assoc, List.getElem?_append_left (by simp; omega), List.getElem?_take_of_lt hq]
    simp [List.getElem?_range (show q < 8 by omega), hq, show q < j + 1 by omega]
  · rw [List.append_assoc, List.getElem?_append_right (by simp; omega)]
    simp [List.getElem?_range hj, show min q 8 = q by omega]
  · rw [List.getElem?_append_right (by simp; omega), List.getElem?_drop]
    simp only [List.length_append, List.length_take, List.length_map, List.length_range, List.length_cons, List.length_nil, Nat.min_eq_left (show j ≤ 8 by omega)]
    rw [show j + 1 + (q - (j + (0 + 1))) = q by omega]
    by_cases h8 : q < 8
    · simp [List.getElem?_range h8, show ¬ q < j by omega, show ¬ q < j + 1 by omega]
    · simp [List.getElem?_eq_none (show (List.range 8).length ≤ q by simp; omega)]
theorem arr_take (f : Nat → Int) (j : Nat) : List.take 8 (((arrN f j).map pi).map AV.p) = ((arrN f j).map pi).map AV.p := List.take_of_length_le (by simp [arrN_len])
theorem arr_drop (f : Nat → Int) (j : Nat) : List.drop 8 (((arrN f j).map pi).map AV.p) = [] := List.drop_eq_nil_of_le (by simp [arrN_len])
def knownN (r : List Int) : List Int := arrN (fun p => 2 ^ (r.getD p 0).toNat) r.length
theorem known_sem {r : List Int} (h8 : r.length ≤ 8) (hr3 : ∀ x ∈ r, 0 ≤ x ∧ x ≤ 3) : Sem1 28 [pis r] (.agg ((knownN r).map pi)) := by
  unfold knownN
  refine semC_of_exec' mixed Tryz.func28 (by kernel_rfl) (by kernel_rfl) ac28_ok 1 rfl (by decide) [(.cell 2 62)] (by kernel_rfl) ?_
  intro hr C hC hI
  unfold ac28
  simp only [go_sem, Nat.reduceBEq, List.length_map]
  refine loop_kl r.length (fun _ => True) [2, 5, 6] (fun j => [(7, .p (pi j))]) (fun j => [.cells (((arrN (fun p => 2 ^ (r.getD p 0).toNat) j).map pi).map .p)]) trivial (by simp [Wk, wkT, wkL, look, AV.lo, AV.lo.loL, upS_eq, keepS_nil, keepS_cons, arrN, List.range, List.range.loop]) ?_
  rintro j ⟨hj, -⟩
  simp only [go_sem, Nat.reduceBEq, List.length_map, arrN_len, arr_take, arr_drop]
  refine ⟨fun h5 => ?_, fun h5 => ?_⟩
  · have hj2 : j < r.length := by omega
    have hv : (2 : Int) ^ r[j].toNat = (2 : Int) ^ (r.getD j 0).toNat := by simp [List.getD_eq_getElem?_getD, List.getElem?_eq_getElem hj2]
    have hp := arr_put (fun p => 2 ^ (r.getD p 0).toNat) (show j < 8 by omega)
    rw [← hv] at hp
    have hj8 : j + 1 ≤ 8 := by omega
    simp only [go_sem, Nat.reduceBEq, iadr_pis hj2]
    refine call_pure2 hC (alone_sem (hr3 _ (List.getElem_mem hj2))) rfl (PVleL_refl _) ?_
    rintro r rfl
    simp only [go_sem, Nat.reduceBEq, iadr8 (show j < 8 by omega), List.length_map, arrN_len, hj8, hp, wrap_succ (k := j) (by omega)]
    exact ⟨⟨j + 1, hj2, trivial⟩, by simp only; omega, by simp [Wk, wkT, wkL, look, AV.lo, ABlk.toZ, loL_pc]⟩
  · have hjn : j = r.length := by omega
    subst hjn
    exact retQ_cell (n := some 8) (by kernel_rfl) (by simp only [go_sem, Nat.reduceBEq, List.length_map, arrN_len, arr_take]) rfl
def whoseP (b : DBook) (g : List Int) (h : Nat) : Bool := !(turnsP b meetB h g).isEmpty
def whoseI (b : DBook) (g : List Int) : List Nat := (List.range b.horses.length).filter (whoseP b g)
theorem filt_next (P : Nat → Bool) (j : Nat) : natL ((List.range (j + 1)).filter P) = natL ((List.range j).filter P) ++ if P j then [(j : Int)] else [] := filt_snoc j P
theorem filt_len (P : Nat → Bool) (j : Nat) : (natL ((List.range j).filter P)).length ≤ j := by
  unfold natL
  rw [List.length_map]
  exact Nat.le_trans (List.length_filter_le ..) (by simp)
theorem firstP_eq (b : DBook) (g : List Int) (h : Nat) : ∃ x : Int, firstP (turnsP b meetB h g) = .tup [pi x, pb (whoseP b g h)] := by
  unfold firstP whoseP
  cases turnsP b meetB h g with
  | nil => exact ⟨0, rfl⟩
  | cons z r => exact ⟨z, rfl⟩
theorem whose_sem (k : SK) {b : DBook} (ho : okBook b) {g : List Int} (hg : g.length = 8) : Sem1 27 [bookP k b, .agg (g.map pi)] (pis (natL (whoseI b g))) := by
  obtain ⟨h1, h8, hn⟩ := okR ho
  have h6 := ho.2.1
  have hts := fun h (hh : h < b.horses.length) => turns_it k ho (fL_sem (show 1 < 3 by omega)) (h := h) hh hg
  have htn := fun h => turns_sem k b h hg (show 1 < 3 by omega)
  have hgp : ∃ g0 g1 g2 g3 g4 g5 g6 g7, g = [g0, g1, g2, g3, g4, g5, g6, g7] := by
    match g, hg with
    | [g0, g1, g2, g3, g4, g5, g6, g7], _ => exact ⟨_, _, _, _, _, _, _, _, rfl⟩
  obtain ⟨g0, g1, g2, g3, g4, g5, g6, g7, hge⟩ := hgp
  have hgm : g.map pi = [pi g0, pi g1, pi g2, pi g3, pi g4, pi g5, pi g6, pi g7] := by rw [hge]; rfl
  rw [hgm]
  refine semC_of_exec' mixed Tryz.func27 (by kernel_rfl) (by kernel_rfl) ac27_ok 2 rfl (by decide) [(.tmp 4)] (by kernel_rfl) ?_
  intro hr C hC hI
  unfold ac27
  simp only [go_sem, Nat.reduceBEq, Nat.reduceAdd, List.length_map]
  refine loop_g (α := Nat × Option Nat) (fun a => a.1 ≤ b.horses.length ∧ (a.2 = none → natL ((List.range a.1).filter (whoseP b g)) = [])) (fun a => b.horses.length - a.1) [0, 3, 14] (fun a => [(5, .p (slN 3 a.2 (natL ((List.range a.1).filter (whoseP b g))))), (15, .p (pi a.1))]) (fun _ => [.cells [.p (pi g0), .p (pi g1), .p (pi g2), .p (pi g3), .p (pi g4), .p (pi g5), .p (pi g6), .p (pi g7)]]) (fun a => a.2.toList) (0, none) ⟨by omega, fun _ => rfl⟩ (by simp [Wk, wkT, wkL, look, AV.lo, AV.lo.loL, upS_eq, keepS_nil, keepS_cons, slN]) ?_
  rintro ⟨j, o⟩ ⟨hj, hok⟩
  replace hj : j ≤ b.horses.length := hj
  replace hok : o = none → natL ((List.range j).filter (whoseP b g)) = [] := hok
  have hnx := filt_next (whoseP b g) j
  have hln := filt_len (whoseP b g) j
  rw [hgm] at hts htn
  simp only [go_sem, Nat.reduceBEq, Nat.reduceAdd]
  refine ⟨fun h5 => ?_, fun h5 => ?_⟩
  · have hj2 : j < b.horses.length := by omega
    refine call_pure2 hC (htn j) rfl (PVleL_refl _) ?_
    rintro r rfl
    simp only [go_sem, Nat.reduceBEq]
    refine call_pure2 hC (first_sem (hts j hj2) (by simp only [noY.noYL, noY, noY_rows, noY_rowsE, Bool.and_true])) rfl (PVleL_refl _) ?_
    rintro r rfl
    simp only [go_sem, Nat.reduceBEq]
    obtain ⟨x, hx⟩ := firstP_eq b g j
    rw [show firstP (turnsP b (pL 1) j g) = _ from hx]
    cases hp : whoseP b g j
    · rw [hp, if_neg (by decide), List.append_nil] at hnx
      simp only [go_sem, Nat.reduceBEq, wrap_succ (k := j) (by omega)]
      refine ⟨⟨(j + 1, o), hj2, fun h => by rw [hnx]; exact hok h⟩, by simp only; omega, ?_⟩
      simp only [hnx]
      cases o <;> exact by simp [Wk, wkT, wkL, look, AV.lo, AV.lo.loL, ABlk.toZ]
    · rw [hp, if_pos rfl] at hnx
      cases o with
      | none =>
        rw [hok rfl] at hnx
        simp only [slN]
        simp only [go_sem, Nat.reduceBEq, Nat.reduceLeDiff, Nat.reduceEqDiff, wrap_succ (k := j) (by omega)]
        intro tk _
        refine ⟨⟨(j + 1, some tk), hj2, (fun h => by cases h)⟩, by simp only; omega, ?_⟩
        simp only [hnx]
        exact by simp [Wk, wkT, wkL, look, AV.lo, AV.lo.loL, ABlk.toZ]
      | some tk =>
        simp only [slN]
        simp only [go_sem, Nat.reduceBEq, Nat.reduceLeDiff, wrap_succ (k := j) (by omega), List.length_map]
        refine ⟨by omega, by simp, fun t2 _ => ?_⟩
        refine ⟨⟨(j + 1, some t2), hj2, (fun h => by cases h)⟩, by simp only; omega, ?_⟩
        simp only [hnx]
        simp only [List.map_append]
        exact by simp [Wk, wkT, wkL, look, AV.lo, AV.lo.loL, ABlk.toZ]
  · have hjn : j = b.horses.length := by omega
    subst hjn
    cases o with
    | none =>
      simp only [slN]
      refine call_pure2 hC (handedOn_sem .full 0 [] (.inr rfl)) rfl (PVleL_refl _) ?_
      rintro r rfl
      simp only [go_sem, Nat.reduceBEq]
      refine retQ_le rfl (PVle.sh _ _ _) ?_
      unfold whoseI
      rw [hok rfl]
      rfl
    | some tk =>
      simp only [slN]
      refine call_pure2 hC (handedOn_sem (.own tk 3 1) 1 (natL ((List.range b.horses.length).filter (whoseP b g))) (.inl rfl)) rfl (PVleL_refl _) ?_
      rintro r rfl
      simp only [go_sem, Nat.reduceBEq]
      exact retQ_le rfl (PVle.sh _ _ _) rfl
theorem Whose_sem (k : SK) (b : DBook) (r : List Int) : Sem1 9 [.agg (bookC k b), pis r] (if errI b (decide (okRow b r)) = 0 then .tup [pis (natL (whoseI b (knownN r))), pi 0] else .tup [pis [], pi (errI b (decide (okRow b r)))]) := by
  obtain ⟨R, hR⟩ : ∃ R, (if errI b (decide (okRow b r)) = 0 then PV.tup [pis (natL (whoseI b (knownN r))), pi 0] else .tup [pis [], pi (errI b (decide (okRow b r)))]) = R := ⟨_, rfl⟩
  rw [hR]
  refine semC_of_exec' mixed Tryz.func9 (by kernel_rfl) (by kernel_rfl) ac9_ok 2 rfl (by decide) [(.tmp 4), (.tmp 5)] (by kernel_rfl) ?_
  intro hr C hC hI
  unfold ac9
  simp only [go_sem, Nat.reduceBEq, Nat.reduceAdd]
  refine call_pure2 hC (isRow_sem k b r) rfl (PVleL_refl _) ?_
  rintro r rfl
  simp only [go_sem, Nat.reduceBEq]
  refine askP hC k b (decide (okRow b r)) (fun hne => ?_) (fun h0 => ?_)
  · rw [if_neg hne] at hR
    simp only [go_sem, Nat.reduceBEq]
    exact ⟨fun _ => retQ_two_le rfl rfl (PVle.nil _ _ _) (PVle.refl _) hR, fun h => absurd h hne⟩
  rw [if_pos h0] at hR
  obtain ⟨ho, hk⟩ := errI_ok h0
  have hk := of_decide_eq_true hk
  have hl : r.length = nR b := by have := hk.1; have := (okR ho).2.2; omega
  simp only [go_sem, Nat.reduceBEq]
  refine ⟨fun h => h.elim, fun _ => ?_⟩
  refine call_pure2 hC (known_sem (by have := (okR ho).2.1; omega) hk.2) rfl (PVleL_refl _) ?_
  rintro r rfl
  simp only [go_sem, Nat.reduceBEq]
  refine call_pure2 hC (whose_sem k ho (arrN_len _ _)) rfl (PVleL_refl _) ?_
  rintro r rfl
  simp only [go_sem, Nat.reduceBEq]
  exact retQ_two rfl rfl hR
end Go.Proofs.YtlbolnlcncjijaaGreat
