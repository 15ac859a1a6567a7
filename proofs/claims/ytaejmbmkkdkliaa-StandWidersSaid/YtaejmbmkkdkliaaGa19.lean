/- Contracts of stand: Lead. Contracts of stand: Least. What a function laid for itself may be forgotten. Contracts of stand: Room. Contracts of stand: Lead. A variable of plain cells, frozen. Contracts of stand: Wider. Mathematics of stand: who tips. -/
import Derived.Test.YtaejmbmkkdkliaaGa18
namespace Go.Proofs.Ytaejmbmkkdkliaa
open Go.RowKit
def ac20 : AC := (AC.seq (AC.ops [(AOp.mk (some 3) (AK.box 10 (AX.t 0)) none 0 false true), (AOp.mk (some 6) (AK.mv (AX.c (PV.val (Value.int IntKind.i64 0)))) none 1 false true), (AOp.mk (some 7) (AK.mv (AX.c (PV.val (Value.int IntKind.i64 0)))) none 2 false true)]) (AC.seq (AC.ops [(AOp.mk (some 11) (AK.ld (some 10) (AX.t 3)) none 0 true false), (AOp.mk (some 12) (AK.ld (some 10) (AX.t 3)) none 1 true false), (AOp.mk (some 13) (AK.mv (AX.t 1)) none 2 true false), (AOp.mk (some 14) (AK.call 69 [(AX.t 12), (AX.t 13)]) none 3 false false), (AOp.mk (some 15) (AK.mv (AX.t 14)) none 4 true false), (AOp.mk (some 16) (AK.ld (some 10) (AX.t 3)) (some (15, true)) 5 true false), (AOp.mk (some 17) (AK.mv (AX.t 2)) (some (15, true)) 6 true false), (AOp.mk (some 18) (AK.call 70 [(AX.t 16), (AX.t 17)]) (some (15, true)) 7 false false), (AOp.mk (some 19) (AK.pick (AX.t 15) (AX.t 18) (AX.c (PV.val (Value.bool false)))) none 8 true false), (AOp.mk (some 20) (AK.call 68 [(AX.t 11), (AX.t 19)]) none 9 false false), (AOp.mk (some 10) (AK.mv (AX.t 20)) none 10 true false), (AOp.mk (some 21) (AK.ext (AX.t 10) 0) none 11 true false), (AOp.mk (some 22) (AK.ext (AX.t 10) 1) none 12 true false), (AOp.mk (some 8) (AK.mv (AX.t 21)) none 13 true false), (AOp.mk (some 9) (AK.mv (AX.t 22)) none 14 true true)]) (AC.seq (AC.seq (AC.ops [(AOp.mk (some 23) (AK.mv (AX.t 9)) none 0 false true), (AOp.mk (some 24) (AK.bin false BinOp.neq (AX.t 23) (AX.c (PV.val (Value.int IntKind.i64 0)))) none 1 false true)]) (AC.cond (AX.t 24) (AC.seq (AC.ops [(AOp.mk (some 25) (AK.mv (AX.t 9)) none 0 false true), (AOp.mk (some 6) (AK.mv (AX.c (PV.val (Value.int IntKind.i64 0)))) none 1 false true), (AOp.mk (some 7) (AK.mv (AX.t 25)) none 2 false true)]) AC.ret) AC.skip)) (AC.seq (AC.ops [(AOp.mk (some 26) (AK.mv (AX.t 8)) none 0 false true), (AOp.mk (some 27) (AK.mv (AX.t 1)) none 1 false true), (AOp.mk (some 28) (AK.mv (AX.t 2)) none 2 false true), (AOp.mk (some 29) (AK.build [(PV.val (Value.int IntKind.i64 0)), (PV.val (Value.int IntKind.i64 0))] [(0, (1, (AX.t 27))), (1, (1, (AX.t 28)))]) none 3 false true), (AOp.mk (some 30) (AK.call 71 [(AX.t 26), (AX.t 29)]) none 4 false true), (AOp.mk (some 6) (AK.mv (AX.t 30)) none 5 false true), (AOp.mk (some 7) (AK.mv (AX.c (PV.val (Value.int IntKind.i64 0)))) none 6 false true)]) AC.ret))))
theorem ac20_ok : cCode Try.prog (fun _ => false) Try.f20.ntmps (Try.f20.body.getD .skip) = some ac20 := by kernel_rfl
def answerI (b : SBook) (ls : List SLoad) (w n : Int) : Int := if countI b ls w n = 0 then 0 else if countI b ls w n = ls.length then 2 else 1
def childI (b : SBook) (w n : Int) : Bool := decide (1 ≤ w ∧ w ≤ b.limit) && decide (-b.lean ≤ n ∧ n ≤ b.lean)
theorem Tips_sem (k k2 : SK) (b : SBook) (w n : Int) (hl : -1000000 ≤ b.lean ∧ b.lean ≤ 1000000) : Sem1 20 [.agg (bookC k k2 b), pi w, pi n]
    (if errI b (childI b w n) = 0 then .tup [pi (answerI b (loadsI b) w n), pi 0] else .tup [pi 0, pi (errI b (childI b w n))]) := by
  obtain ⟨R, hR⟩ : ∃ R, (if errI b (childI b w n) = 0 then PV.tup [pi (answerI b (loadsI b) w n), pi 0] else .tup [pi 0, pi (errI b (childI b w n))]) = R := ⟨_, rfl⟩
  obtain ⟨e, he⟩ : ∃ e, childI b w n = e := ⟨_, rfl⟩
  rw [hR]
  rw [he] at hR
  have hc := he
  unfold childI at hc
  refine semC_of_exec' mixed Try.func20 (by kernel_rfl) (by kernel_rfl) ac20_ok 3 rfl (by decide) [(.tmp 6), (.tmp 7)] (by kernel_rfl) ?_
  intro hr C hC hI
  unfold ac20
  simp only [go_sem, Nat.reduceBEq, Nat.reduceAdd]
  refine call_pure2 hC (hasWeight_sem k k2 b w) rfl (PVleL_refl _) ?_
  rintro r rfl
  simp only [go_sem, Nat.reduceBEq, Nat.reduceAdd]
  refine ⟨fun h1 => ?_, fun h1 => ?_⟩
  rotate_left
  · rw [decide_eq_false h1, Bool.false_and] at hc
    subst hc
    refine call_mem2 hC [] (trueHorse_sem k k2 b false _) rfl (by decide) rfl rfl rfl rfl (by simp) ?_
    rintro v L' ys' ⟨rfl, (⟨he2, rfl⟩ | ⟨he2, rfl, kl, rfl⟩)⟩ -
    · rw [if_neg he2] at hR
      simp only [go_sem, Nat.reduceBEq, Nat.reduceAdd, Nat.reduceLeDiff]
      exact ⟨fun _ => retQ_two rfl rfl hR, fun h => absurd h he2⟩
    · exact absurd (errI_ok he2).2 (by decide)
  · rw [decide_eq_true h1, Bool.true_and] at hc
    refine call_pure2 hC (hasLean_sem k k2 b n hl.1 hl.2) rfl (PVleL_refl _) ?_
    rintro r rfl
    simp only [go_sem, Nat.reduceBEq]
    rw [hc]
    refine call_mem2 hC [] (trueHorse_sem k k2 b e _) rfl (by decide) rfl rfl rfl rfl (by simp) ?_
    rintro v L' ys' ⟨rfl, (⟨he2, rfl⟩ | ⟨he2, rfl, kl, rfl⟩)⟩ -
    · rw [if_neg he2] at hR
      simp only [go_sem, Nat.reduceBEq, Nat.reduceAdd, Nat.reduceLeDiff]
      exact ⟨fun _ => retQ_two rfl rfl hR, fun h => absurd h he2⟩
    · rw [if_pos he2] at hR
      obtain ⟨ho, hk⟩ := errI_ok he2
      have hlm := ok_lean ho
      rw [hk, decide_eq_true_eq] at hc
      simp only [go_sem, Nat.reduceBEq, Nat.reduceAdd, Nat.reduceLeDiff, upd0, mAt_nil, ren_horseM2]
      refine ⟨fun h => h.elim, fun _ => ?_⟩
      refine call_mem2 hC [4, 3] (answer_sem false k k2 .sh kl b (loadsI b) (loadsI_horse ho.fit) [] (by intro x hx; cases hx) w n (by omega) (by omega) _) rfl (by decide) ?_ ?_ ?_ rfl (by simp) ?_
      · simp only [List.map_cons, List.map_nil, ren_horseM]; rfl
      · simp only [List.all_cons, List.all_nil, turn_horse]; rfl
      · simp only [List.all_cons, List.all_nil, List.length_cons, List.length_nil, Nat.zero_add, Nat.reduceAdd, lo_horse]; rfl
      rintro v L' ys' ⟨rfl, rfl, hL⟩ -
      obtain ⟨X, rfl⟩ := take2 hL
      simp only [go_sem, Nat.reduceBEq, Nat.reduceAdd, upd2g]
      exact retQ_two rfl rfl hR
end Go.Proofs.Ytaejmbmkkdkliaa
namespace Go.Proofs.Ytaejmbmkkdkliaa
open Go.RowKit
def ac27 : AC := (AC.seq (AC.ops [(AOp.mk (some 1) (AK.box 10 (AX.t 0)) none 0 false true), (AOp.mk (some 2) (AK.mv (AX.c (PV.val (Value.int IntKind.i64 0)))) none 1 false true), (AOp.mk (some 3) (AK.mv (AX.c (PV.val (Value.int IntKind.i64 0)))) none 2 false true)]) (AC.seq (AC.ops [(AOp.mk (some 8) (AK.ld (some 10) (AX.t 1)) none 0 false true), (AOp.mk (some 9) (AK.call 68 [(AX.t 8), (AX.c (PV.val (Value.bool true)))]) none 1 false true), (AOp.mk (some 7) (AK.mv (AX.t 9)) none 2 false true), (AOp.mk (some 10) (AK.ext (AX.t 7) 0) none 3 false true), (AOp.mk (some 11) (AK.ext (AX.t 7) 1) none 4 false true), (AOp.mk (some 4) (AK.mv (AX.t 10)) none 5 false true), (AOp.mk (some 5) (AK.mv (AX.t 11)) none 6 false true)]) (AC.seq (AC.seq (AC.ops [(AOp.mk (some 12) (AK.mv (AX.t 5)) none 0 false true), (AOp.mk (some 13) (AK.bin false BinOp.neq (AX.t 12) (AX.c (PV.val (Value.int IntKind.i64 0)))) none 1 false true)]) (AC.cond (AX.t 13) (AC.seq (AC.ops [(AOp.mk (some 14) (AK.mv (AX.t 5)) none 0 false true), (AOp.mk (some 2) (AK.mv (AX.c (PV.val (Value.int IntKind.i64 0)))) none 1 false true), (AOp.mk (some 3) (AK.mv (AX.t 14)) none 2 false true)]) AC.ret) AC.skip)) (AC.seq (AC.seq (AC.ops [(AOp.mk (some 6) (AK.mv (AX.c (PV.val (Value.int IntKind.i64 1)))) none 0 false true)]) (AC.block 0 (AC.loop (AC.seq (AC.seq (AC.ops [(AOp.mk (some 15) (AK.mv (AX.t 6)) none 0 false true), (AOp.mk (some 16) (AK.mv (AX.t 4)) none 1 false true), (AOp.mk (some 17) (AK.nilc (AX.t 16)) none 2 false true), (AOp.mk (some 18) (AK.fadr 0 (AX.t 17)) none 3 false true), (AOp.mk (some 19) (AK.ld none (AX.t 18)) none 4 false true), (AOp.mk (some 20) (AK.nilc (AX.t 19)) none 5 false true), (AOp.mk (some 21) (AK.fadr 0 (AX.t 20)) none 6 false true), (AOp.mk (some 22) (AK.fadr 8 (AX.t 21)) none 7 false true), (AOp.mk (some 23) (AK.ld none (AX.t 22)) none 8 false true), (AOp.mk (some 24) (AK.bin false BinOp.leq (AX.t 15) (AX.t 23)) none 9 false true)]) (AC.cond (AX.t 24) AC.skip (AC.exit 0))) (AC.seq (AC.block 1 (AC.seq (AC.ops [(AOp.mk (some 27) (AK.mv (AX.t 4)) none 0 false true), (AOp.mk (some 28) (AK.mv (AX.t 6)) none 1 false true), (AOp.mk (some 29) (AK.call 77 [(AX.t 27), (AX.t 28)]) none 2 false true), (AOp.mk (some 30) (AK.un UnOp.not (AX.t 29)) none 3 false true)]) (AC.cond (AX.t 30) (AC.seq (AC.ops [(AOp.mk (some 31) (AK.mv (AX.t 6)) none 0 false true), (AOp.mk (some 2) (AK.mv (AX.t 31)) none 1 false true), (AOp.mk (some 3) (AK.mv (AX.c (PV.val (Value.int IntKind.i64 0)))) none 2 false true)]) AC.ret) AC.skip))) (AC.ops [(AOp.mk (some 25) (AK.mv (AX.t 6)) none 0 false true), (AOp.mk (some 26) (AK.bin false BinOp.add (AX.t 25) (AX.c (PV.val (Value.int IntKind.i64 1)))) none 1 false true), (AOp.mk (some 6) (AK.mv (AX.t 26)) none 2 false true)])))))) (AC.seq (AC.ops [(AOp.mk (some 2) (AK.mv (AX.c (PV.val (Value.int IntKind.i64 0)))) none 0 false true), (AOp.mk (some 3) (AK.mv (AX.c (PV.val (Value.int IntKind.i64 4)))) none 1 false true)]) AC.ret)))))
theorem ac27_ok : cCode Try.prog (fun _ => false) Try.f27.ntmps (Try.f27.body.getD .skip) = some ac27 := by kernel_rfl
/-- The least weight that is not safe. -/
def leastI (b : SBook) (ls : List SLoad) : Option Nat := (List.range b.limit.toNat).find? fun j => !safeI b ls (j + 1)
theorem Least_sem (k k2 : SK) (b : SBook) : Sem1 27 [.agg (bookC k k2 b)]
    (if errI b true = 0 then (match leastI b (loadsI b) with | some j => .tup [pi (j + 1), pi 0] | none => .tup [pi 0, pi 4]) else .tup [pi 0, pi (errI b true)]) := by
  obtain ⟨R, hR⟩ : ∃ R, (if errI b true = 0 then (match leastI b (loadsI b) with | some j => PV.tup [pi (j + 1), pi 0] | none => .tup [pi 0, pi 4]) else .tup [pi 0, pi (errI b true)]) = R := ⟨_, rfl⟩
  rw [hR]
  refine semC_of_exec' mixed Try.func27 (by kernel_rfl) (by kernel_rfl) ac27_ok 1 rfl (by decide) [(.tmp 2), (.tmp 3)] (by kernel_rfl) ?_
  intro hr C hC hI
  unfold ac27
  simp only [go_sem, Nat.reduceBEq, Nat.reduceAdd]
  refine call_mem2 hC [] (trueHorse_sem k k2 b true _) rfl (by decide) rfl rfl rfl rfl (by simp) ?_
  rintro v L' ys' ⟨rfl, (⟨he2, rfl⟩ | ⟨he2, rfl, kl, rfl⟩)⟩ -
  · rw [if_neg he2] at hR
    simp only [go_sem, Nat.reduceBEq]
    exact ⟨fun _ => retQ_two rfl rfl hR, fun h => absurd h he2⟩
  · rw [if_pos he2] at hR
    obtain ⟨ho, hk⟩ := errI_ok he2
    have hlm := ok_lean ho
    simp only [go_sem, Nat.reduceBEq, Nat.reduceAdd, upd0, mAt_nil, ren_horseM2]
    refine ⟨fun h => h.elim, fun _ => ?_⟩
    refine ⟨{x : Nat × Bool × List ((Int × Int) × Int) // x.1 ≤ b.limit.toNat ∧ okMemo b (loadsI b) x.2.2 ∧ ∀ q, q < x.1 → safeI b (loadsI b) (q + 1) = true}, fun x => ⟨[(6, .p (pi (x.1.1 + 1))), (4, .loc 4 0)],
      [.cells ((bookC k k2 b).map .p), .cells ((bookC k k2 b).map .p), .cells [.p (bookP k k2 .sh b)], .mp (memoC x.1.2.2), horseM x.1.2.1 3 (bookP k k2 .sh b) kl (loadsI b), .cells [.loc 4 0]], [], some [], 0⟩, fun x => b.limit.toNat - x.1.1, ⟨(0, false, []), by simp, (by intro x hx; cases hx), fun q hq => absurd hq (by simp)⟩, by simp [Wk, wkT, wkL, look, AV.lo, AV.lo.loL, horseM], ?_⟩
    rintro ⟨⟨j, t, m⟩, hj, hm, hok⟩
    simp only at hj hm hok
    have hs := fun (hjl : (j : Int) + 1 ≤ b.limit) ys => safe_sem t k k2 .sh kl b (loadsI b) (loadsI_horse ho.fit) m hm (j + 1) (by omega) hlm.1 ys
    cases t
    all_goals
      simp only [horseM, if_true, Bool.false_eq_true, if_false]
      simp only [go_sem, Nat.reduceBEq]
      refine ⟨fun h5 => ?_, fun h5 => ?_⟩
      · have hj2 : j < b.limit.toNat := by omega
        refine call_mem2 hC [4, 3] (hs h5 _) rfl (by decide) ?_ ?_ ?_ rfl (by simp) ?_
        · simp only [List.map_cons, List.map_nil, ren_horseM]; rfl
        · simp only [List.all_cons, List.all_nil, turn_horse]; rfl
        · simp only [List.all_cons, List.all_nil, List.length_cons, List.length_nil, Nat.zero_add, Nat.reduceAdd, lo_horse]; rfl
        · rintro v L' ys' ⟨rfl, rfl, m', hm', hL⟩ -
          obtain ⟨X, rfl⟩ := take2 hL
          simp only [go_sem, Nat.reduceBEq, Nat.reduceAdd, upd2g, ren_horseM]
          cases hsf : safeI b (loadsI b) (j + 1)
          · simp only [go_sem, Nat.reduceBEq]
            refine retQ_two rfl rfl ?_
            rw [← hR]
            have : leastI b (loadsI b) = some j := by
              unfold leastI
              rw [List.find?_range_eq_some]
              refine ⟨by rw [hsf]; rfl, List.mem_range.2 hj2, fun q hq => by rw [hok q hq]; rfl⟩
            rw [this]
          · simp only [go_sem, Nat.reduceBEq, wrap_id (n := (j : Int) + 1 + 1) (by omega) (by omega)]
            refine ⟨⟨(j + 1, true, m'), hj2, hm', fun q hq => ?_⟩, by simp only; omega, ?_⟩
            · rcases Nat.lt_or_ge q j with h1 | h1
              · exact hok q h1
              · have : q = j := by simp only at hq; omega
                subst this; exact hsf
            · simp [Wk, wkT, wkL, look, AV.lo, AV.lo.loL, horseM]
      · have hjn : j = b.limit.toNat := by omega
        refine retQ_two rfl rfl ?_
        rw [← hR]
        have : leastI b (loadsI b) = none := by
          unfold leastI
          rw [List.find?_eq_none]
          intro q hq
          rw [hok q (by rw [hjn]; exact List.mem_range.1 hq)]
          simp
        rw [this]
end Go.Proofs.Ytaejmbmkkdkliaa
namespace Go.Proofs.Ytaejmbmkkdkliaa
open Go.RowKit Go.Shelf

section
variable {P : Program} {F : Fence} {E : Env P F} {g g' : GP} {rho ks : List Nat} {R : Nat → Prop} {loc : List ABlk} {live : List Nat} {ys : Option (List (List PV))} {w w' : World}

theorem Inv.cut (h : Inv E g rho R ks loc live ys w) {L M : List ABlk} (hL : loc = L ++ M) (hlo : (L.all (ABlk.lo L.length)) = true) : Inv E g (rho.take L.length) R ks L live ys w := by
  have get : ∀ {id b : Nat}, (rho.take L.length)[id]? = some b → rho[id]? = some b := fun hb => by
    rw [List.getElem?_take] at hb
    split at hb
    · exact hb
    · cases hb
  have hl : L.length ≤ loc.length := by rw [hL]; simp
  have hat : ∀ {id : Nat} {k : ABlk}, L[id]? = some k → loc[id]? = some k ∧ k.lo L.length = true := fun {id k} hk => by
    refine ⟨?_, List.all_eq_true.1 hlo k (List.mem_of_getElem? hk)⟩
    rw [hL, List.getElem?_append_left (List.getElem?_eq_some_iff.1 hk).1]
    exact hk
  refine ⟨h.agree, h.fr, h.low, by rw [List.length_take, h.len]; omega, fun id k b hk hb => ?_, fun id b hb => h.rlt id b (get hb), fun id cs b hk hb => ?_, fun id id' b hb hb' => h.dis id id' b (get hb) (get hb'), h.toks, fun t ht v e sz b e1 e2 => ?_, h.nodup, h.rsz, h.ksnd, h.marks⟩
  · obtain ⟨h5, h6⟩ := hat hk
    have := h.locs id k b h5 (get hb)
    cases k with
    | cells cs =>
      obtain ⟨vs, us, t, hblk, hr⟩ := this
      exact ⟨vs, us, t, hblk, hr.len, hr.one, fun i x v hx hv => rel_cut_rho (hr.at_ i x v hx hv) (loL_spec h6 x (List.mem_of_getElem? hx))⟩
    | frz cs => exact this
    | mp es => exact this
    | half cs =>
      obtain ⟨vs, us, t, hblk, hr, hf⟩ := this
      exact ⟨vs, us, t, hblk, ⟨hr.len, hr.one, fun i x v hx hv => rel_cut_rho (hr.at_ i x v hx hv) (loL_spec h6 x (List.mem_of_getElem? hx))⟩, hf⟩
    | dead => trivial
  · exact h.own id cs b (hat hk).1 (get hb)
  · obtain ⟨h5, h6⟩ := h.tdis t ht v e sz b e1 e2
    exact ⟨⟨fun id hid => h5.1 id (get hid), h5.2⟩, h6⟩
end
/-- A contract that forgets what the function laid beyond its first blocks. -/
theorem SemM.cut {P : Program} {F : Fence} {f : FuncId} {args : List AV} {L : List ABlk} {ys : Option (List (List PV))} {Q Q' : AV → List ABlk → Option (List (List PV)) → Prop} (h : SemM P F f args L ys Q)
    (hq : ∀ r L' ys', Q r L' ys' → ∃ L1 M, L' = L1 ++ M ∧ L.length ≤ L1.length ∧ (L1.all (ABlk.lo L1.length)) = true ∧ r.lo L1.length = true ∧ Q' r L1 ys') : SemM P F f args L ys Q' :=
  ⟨h.1, fun E g rho R ks w vs hI ha => (h.2 E g rho R ks w vs hI ha).mono fun _ _ ⟨v, av, g', rho', R', loc', live', ys', h1, h2, h3, h4, h5, h6, h7⟩ => by
    obtain ⟨L1, M, e, hl, hlo, hr, hQ⟩ := hq _ _ _ h7
    refine ⟨v, av, g', rho'.take L1.length, R', L1, live', ys', h1, h2.cut e hlo, h3, fun id b hb => ?_, rel_cut_rho h5 hr, fun id hid => (by cases hid), hQ⟩
    have hlt : id < rho.length := (List.getElem?_eq_some_iff.1 hb).1
    have hlr : rho.length = L.length := hI.len
    rw [List.getElem?_take_of_lt (by omega)]
    exact h4 id b hb⟩
/-- The same, where the first two blocks are known. -/
theorem SemM.cut2 {P : Program} {F : Fence} {f : FuncId} {args : List AV} {A B : ABlk} {ys : Option (List (List PV))} {Q Q' : AV → List ABlk → Option (List (List PV)) → Prop} (h : SemM P F f args [A, B] ys Q)
    (hq : ∀ r L' ys', Q r L' ys' → ∃ a b, L'.take 2 = [a, b] ∧ a.lo 2 = true ∧ b.lo 2 = true ∧ r.lo 2 = true ∧ Q' r [a, b] ys') : SemM P F f args [A, B] ys Q' :=
  h.cut fun r L' ys' hQ => by
    obtain ⟨a, b, e, h1, h2, h3, h4⟩ := hq r L' ys' hQ
    refine ⟨[a, b], L'.drop 2, by rw [← e, List.take_append_drop], Nat.le_refl _, ?_, h3, h4⟩
    simp only [List.all_cons, List.all_nil, Bool.and_true, List.length_cons, List.length_nil, Nat.zero_add, Nat.reduceAdd, h1, h2]
end Go.Proofs.Ytaejmbmkkdkliaa
namespace Go.Proofs.Ytaejmbmkkdkliaa
open Go.RowKit
theorem canTip_cut (t : Bool) (k k2 ks kl : SK) (b : SBook) (ls : List SLoad) (hh : HorseOk b ls) (m : List ((Int × Int) × Int)) (hm : okMemo b ls m) (w n : Int) (hw : -1000 ≤ w ∧ w ≤ 1000) (hn : -40 ≤ n ∧ n ≤ 40) (ys : Option (List (List PV))) :
    SemM Try.prog Fence.wide 80 [.loc 0 0, .p (.agg (childC w n))] [horseB t (bookP k k2 ks b) kl ls, .mp (memoC m)] ys
      (fun v L' ys' => v = .p (pb (decide ((0 : Int) < countI b ls w n))) ∧ ys' = ys ∧ L' = [horseB t (bookP k k2 ks b) kl ls, .mp (memoC (memo b ls m w n))]) :=
  (canTip_sem t k k2 ks kl b ls hh m hm w n hw hn ys).cut2 fun _ _ _ ⟨h1, h2, h3⟩ => ⟨_, _, h3, lo_horse, rfl, by subst h1; rfl, h1, h2, rfl⟩
theorem ends_cut (t : Bool) (k k2 ks kl : SK) (b : SBook) (ls : List SLoad) (m : List ((Int × Int) × Int)) (w : Int) (hl : 0 ≤ b.lean ∧ b.lean ≤ 40) (ys : Option (List (List PV))) :
    SemM Try.prog Fence.wide 81 [.loc 0 0, .p (pi w)] [horseB t (bookP k k2 ks b) kl ls, .mp (memoC m)] ys
      (fun v L' ys' => v = .p (.tup [.agg (childC w (-b.lean)), .agg (childC w b.lean)]) ∧ ys' = ys ∧ L' = [horseB t (bookP k k2 ks b) kl ls, .mp (memoC m)]) :=
  (ends_sem t k k2 ks kl b ls m w hl ys).cut2 fun _ _ _ ⟨h1, h2, h3⟩ => ⟨_, _, by rw [h3]; rfl, lo_horse, rfl, by subst h1; rfl, h1, h2, rfl⟩
theorem farthest_cut (t : Bool) (k k2 ks kl : SK) (b : SBook) (ls : List SLoad) (hh : HorseOk b ls) (m : List ((Int × Int) × Int)) (hm : okMemo b ls m) (w n s e : Int) (q : Nat) (he : e = n + s * q) (hw : -1000 ≤ w ∧ w ≤ 1000) (hs : s = 1 ∨ s = -1) (hn : -40 ≤ n - q ∧ n + q ≤ 40) (ys : Option (List (List PV))) :
    SemM Try.prog Fence.wide 82 [.loc 0 0, .p (.agg (childC w n)), .p (.agg (childC w e)), .p (pi s)] [horseB t (bookP k k2 ks b) kl ls, .mp (memoC m)] ys
      (fun v L' ys' => v = .p (pi (farI b ls w s q n)) ∧ ys' = ys ∧ ∃ m', okMemo b ls m' ∧ L' = [horseB t (bookP k k2 ks b) kl ls, .mp (memoC m')]) :=
  (farthest_sem t k k2 ks kl b ls hh m hm w n s e q he hw hs hn ys).cut2 fun _ _ _ ⟨h1, h2, m', hm', h3⟩ => ⟨_, _, h3, lo_horse, rfl, by subst h1; rfl, h1, h2, m', hm', rfl⟩
theorem safeForAll_cut (t : Bool) (k k2 ks kl : SK) (b : SBook) (ls : List SLoad) (hh : HorseOk b ls) (m : List ((Int × Int) × Int)) (hm : okMemo b ls m) (hw : -1000 ≤ b.limit ∧ b.limit ≤ 1000) (hl : 0 ≤ b.lean ∧ b.lean ≤ 40) (ys : Option (List (List PV))) :
    SemM Try.prog Fence.wide 86 [.loc 0 0] [horseB t (bookP k k2 ks b) kl ls, .mp (memoC m)] ys
      (fun v L' ys' => v = .p (pb (safeAllI b ls)) ∧ ys' = ys ∧ ∃ m', okMemo b ls m' ∧ L' = [horseB t (bookP k k2 ks b) kl ls, .mp (memoC m')]) :=
  (safeForAll_sem t k k2 ks kl b ls hh m hm hw hl ys).cut2 fun _ _ _ ⟨h1, h2, m', hm', h3⟩ => ⟨_, _, h3, lo_horse, rfl, by subst h1; rfl, h1, h2, m', hm', rfl⟩
def ac29 : AC := (AC.seq (AC.ops [(AOp.mk (some 2) (AK.box 10 (AX.t 0)) none 0 false true), (AOp.mk (some 4) (AK.new (PV.agg [(PV.val (Value.int IntKind.i64 0)), (PV.val (Value.int IntKind.i64 0))])) none 1 false true), (AOp.mk (some 5) (AK.mv (AX.c (PV.val (Value.int IntKind.i64 0)))) none 2 false true)]) (AC.seq (AC.ops [(AOp.mk (some 12) (AK.ld (some 10) (AX.t 2)) none 0 true false), (AOp.mk (some 13) (AK.ld (some 10) (AX.t 2)) none 1 true false), (AOp.mk (some 14) (AK.mv (AX.t 1)) none 2 true false), (AOp.mk (some 15) (AK.call 69 [(AX.t 13), (AX.t 14)]) none 3 false false), (AOp.mk (some 16) (AK.call 68 [(AX.t 12), (AX.t 15)]) none 4 false false), (AOp.mk (some 11) (AK.mv (AX.t 16)) none 5 true false), (AOp.mk (some 17) (AK.ext (AX.t 11) 0) none 6 true false), (AOp.mk (some 18) (AK.ext (AX.t 11) 1) none 7 true false), (AOp.mk (some 6) (AK.mv (AX.t 17)) none 8 true false), (AOp.mk (some 7) (AK.mv (AX.t 18)) none 9 true true)]) (AC.seq (AC.seq (AC.ops [(AOp.mk (some 19) (AK.mv (AX.t 7)) none 0 false true), (AOp.mk (some 20) (AK.bin false BinOp.neq (AX.t 19) (AX.c (PV.val (Value.int IntKind.i64 0)))) none 1 false true)]) (AC.cond (AX.t 20) (AC.seq (AC.ops [(AOp.mk (some 21) (AK.build [(PV.val (Value.int IntKind.i64 0)), (PV.val (Value.int IntKind.i64 0))] []) none 0 false true), (AOp.mk (some 22) (AK.mv (AX.t 7)) none 1 false true), (AOp.mk none (AK.st 2 (AX.t 4) (AX.t 21)) none 2 false true), (AOp.mk (some 5) (AK.mv (AX.t 22)) none 3 false true)]) AC.ret) AC.skip)) (AC.seq (AC.ops [(AOp.mk (some 23) (AK.mv (AX.t 1)) none 0 false true), (AOp.mk (some 24) (AK.build [(PV.val (Value.int IntKind.i64 0)), (PV.val (Value.int IntKind.i64 0))] [(0, (1, (AX.t 23))), (1, (1, (AX.c (PV.val (Value.int IntKind.i64 0)))))]) none 1 false true), (AOp.mk (some 8) (AK.new (PV.agg [(PV.val (Value.int IntKind.i64 0)), (PV.val (Value.int IntKind.i64 0))])) none 2 false true), (AOp.mk none (AK.st 2 (AX.t 8) (AX.t 24)) none 3 false true)]) (AC.seq (AC.seq (AC.ops [(AOp.mk (some 25) (AK.mv (AX.t 6)) none 0 false true), (AOp.mk (some 26) (AK.ld (some 2) (AX.t 8)) none 1 false true), (AOp.mk (some 27) (AK.call 80 [(AX.t 25), (AX.t 26)]) none 2 false true)]) (AC.cond (AX.t 27) (AC.seq (AC.ops [(AOp.mk (some 28) (AK.build [(PV.val (Value.int IntKind.i64 0)), (PV.val (Value.int IntKind.i64 0))] []) none 0 false true), (AOp.mk none (AK.st 2 (AX.t 4) (AX.t 28)) none 1 false true), (AOp.mk (some 5) (AK.mv (AX.c (PV.val (Value.int IntKind.i64 4)))) none 2 false true)]) AC.ret) AC.skip)) (AC.seq (AC.ops [(AOp.mk (some 30) (AK.mv (AX.t 6)) none 0 false true), (AOp.mk (some 31) (AK.mv (AX.t 1)) none 1 false true), (AOp.mk (some 32) (AK.call 81 [(AX.t 30), (AX.t 31)]) none 2 false true), (AOp.mk (some 29) (AK.mv (AX.t 32)) none 3 false true), (AOp.mk (some 33) (AK.ext (AX.t 29) 0) none 4 false true), (AOp.mk (some 34) (AK.ext (AX.t 29) 1) none 5 false true), (AOp.mk (some 9) (AK.new (PV.agg [(PV.val (Value.int IntKind.i64 0)), (PV.val (Value.int IntKind.i64 0))])) none 6 false true), (AOp.mk (some 10) (AK.new (PV.agg [(PV.val (Value.int IntKind.i64 0)), (PV.val (Value.int IntKind.i64 0))])) none 7 false true), (AOp.mk none (AK.st 2 (AX.t 9) (AX.t 33)) none 8 false true), (AOp.mk none (AK.st 2 (AX.t 10) (AX.t 34)) none 9 false true)]) (AC.seq (AC.ops [(AOp.mk (some 35) (AK.mv (AX.t 6)) none 0 true false), (AOp.mk (some 36) (AK.ld (some 2) (AX.t 8)) none 1 true false), (AOp.mk (some 37) (AK.ld (some 2) (AX.t 9)) none 2 true false), (AOp.mk (some 39) (AK.mv (AX.t 6)) none 4 true false), (AOp.mk (some 40) (AK.ld (some 2) (AX.t 8)) none 5 true false), (AOp.mk (some 41) (AK.ld (some 2) (AX.t 10)) none 6 true false), (AOp.mk (some 38) (AK.call 82 [(AX.t 35), (AX.t 36), (AX.t 37), (AX.c (PV.val (Value.int IntKind.i64 (-1))))]) none 3 false false), (AOp.mk (some 42) (AK.call 82 [(AX.t 39), (AX.t 40), (AX.t 41), (AX.c (PV.val (Value.int IntKind.i64 1)))]) none 7 false false), (AOp.mk (some 43) (AK.build [(PV.val (Value.int IntKind.i64 0)), (PV.val (Value.int IntKind.i64 0))] [(0, (1, (AX.t 38))), (1, (1, (AX.t 42)))]) none 8 true false), (AOp.mk none (AK.st 2 (AX.t 4) (AX.t 43)) none 9 false false), (AOp.mk (some 5) (AK.mv (AX.c (PV.val (Value.int IntKind.i64 0)))) none 10 true true)]) AC.ret)))))))
theorem ac29_ok : cCode Try.prog (fun _ => false) Try.f29.ntmps (Try.f29.body.getD .skip) = some ac29 := by kernel_rfl
def roomI (b : SBook) (ls : List SLoad) (w : Int) : PV :=
  if (0 : Int) < countI b ls w 0 then .tup [.agg [pi 0, pi 0], pi 4] else .tup [.agg [pi (farI b ls w (-1) b.lean.toNat 0), pi (farI b ls w 1 b.lean.toNat 0)], pi 0]
theorem retQ_ct {P : Program} {t t' : Nat} {ty : TypeId} {n : Option Nat} {Q : PV → Prop} {s : AS} {x y : PV} (hs : shapeN P ty = some n) (h : stillV s (.ld n (.t t)) = some (.p x)) (h' : look s.t t' = .p y) (hQ : Q (.tup [x, y])) : retQ P [.cell t ty, .tmp t'] Q s :=
  ⟨[.p x, .p y], [x, y], s.loc, _, by simp [resA, hs, h, h'], rfl, PVle.refl _, hQ⟩
theorem Room_sem (k k2 : SK) (b : SBook) (w : Int) : Sem1 29 [.agg (bookC k k2 b), pi w]
    (if errI b (decide (1 ≤ w ∧ w ≤ b.limit)) = 0 then roomI b (loadsI b) w else .tup [.agg [pi 0, pi 0], pi (errI b (decide (1 ≤ w ∧ w ≤ b.limit)))]) := by
  obtain ⟨R, hR⟩ : ∃ R, (if errI b (decide (1 ≤ w ∧ w ≤ b.limit)) = 0 then roomI b (loadsI b) w else .tup [.agg [pi 0, pi 0], pi (errI b (decide (1 ≤ w ∧ w ≤ b.limit)))]) = R := ⟨_, rfl⟩
  rw [hR]
  refine semC_of_exec' mixed Try.func29 (by kernel_rfl) (by kernel_rfl) ac29_ok 2 rfl (by decide) [(.cell 4 42), (.tmp 5)] (by kernel_rfl) ?_
  intro hr C hC hI
  unfold ac29
  simp only [go_sem, Nat.reduceBEq, Nat.reduceAdd]
  refine call_pure2 hC (hasWeight_sem k k2 b w) rfl (PVleL_refl _) ?_
  rintro r rfl
  simp only [go_sem, Nat.reduceBEq]
  refine call_mem2 hC [] (trueHorse_sem k k2 b (decide (1 ≤ w ∧ w ≤ b.limit)) _) rfl (by decide) rfl rfl rfl rfl (by simp) ?_
  rintro v L' ys' ⟨rfl, (⟨he, rfl⟩ | ⟨he, rfl, kl, rfl⟩)⟩ -
  · rw [if_neg he] at hR
    simp only [go_sem, Nat.reduceBEq, Nat.reduceAdd, Nat.reduceLeDiff, upd0]
    refine ⟨fun _ => ?_, fun h => absurd h he⟩
    refine retQ_ct (show shapeN Try.prog 42 = some (some 2) by kernel_rfl) rfl rfl ?_
    exact hR
  · rw [if_pos he] at hR
    obtain ⟨ho, hk⟩ := errI_ok he
    have hlm := ok_lean ho
    simp only [decide_eq_true_eq] at hk
    have hh := loadsI_horse ho.fit
    simp only [go_sem, Nat.reduceBEq, Nat.reduceAdd, Nat.reduceLeDiff, upd0, mAt_nil, ren_horseM2]
    refine ⟨fun h => h.elim, fun _ => ?_⟩
    refine call_mem2 hC [5, 4] (canTip_cut false k k2 .sh kl b (loadsI b) hh [] (by intro x hx; cases hx) w 0 (by omega) (by omega) _) rfl (by decide) ?_ ?_ ?_ rfl (by simp) ?_
    · simp only [List.map_cons, List.map_nil, ren_horseM]; rfl
    · simp only [List.all_cons, List.all_nil, turn_horse]; rfl
    · simp only [List.all_cons, List.all_nil, List.length_cons, List.length_nil, Nat.zero_add, Nat.reduceAdd, lo_horse]; rfl
    rintro v L' ys' ⟨rfl, rfl, rfl⟩ -
    have hm1 : okMemo b (loadsI b) (memo b (loadsI b) [] w 0) := memo_ok (by intro x hx; cases hx) w 0
    simp only [go_sem, Nat.reduceBEq, Nat.reduceAdd, upd2g, ren_horseM]
    refine ⟨fun h => ?_, fun h => ?_⟩
    · refine retQ_ct (show shapeN Try.prog 42 = some (some 2) by kernel_rfl) rfl rfl ?_
      rw [← hR]
      unfold roomI
      rw [if_pos h]
    · skip
      refine call_mem2 hC [5, 4] (ends_cut false k k2 .sh kl b (loadsI b) (memo b (loadsI b) [] w 0) w hlm.1 _) rfl (by decide) ?_ ?_ ?_ rfl (by simp) ?_
      · simp only [List.map_cons, List.map_nil, ren_horseM]; rfl
      · simp only [List.all_cons, List.all_nil, turn_horse]; rfl
      · simp only [List.all_cons, List.all_nil, List.length_cons, List.length_nil, Nat.zero_add, Nat.reduceAdd, lo_horse]; rfl
      rintro v L' ys' ⟨rfl, rfl, rfl⟩ -
      simp only [go_sem, Nat.reduceBEq, Nat.reduceAdd, upd2g, ren_horseM]
      refine call_mem2 hC [5, 4] (farthest_cut false k k2 .sh kl b (loadsI b) hh (memo b (loadsI b) [] w 0) hm1 w 0 (-1) (-b.lean) b.lean.toNat (by omega) (by omega) (.inr rfl) (by omega) _) rfl (by decide) ?_ ?_ ?_ rfl (by simp) ?_
      · simp only [List.map_cons, List.map_nil, ren_horseM]; rfl
      · simp only [List.all_cons, List.all_nil, turn_horse]; rfl
      · simp only [List.all_cons, List.all_nil, List.length_cons, List.length_nil, Nat.zero_add, Nat.reduceAdd, lo_horse]; rfl
      rintro v L' ys' ⟨rfl, rfl, m2, hm2, rfl⟩ -
      simp only [go_sem, Nat.reduceBEq, Nat.reduceAdd, upd2g, ren_horseM]
      refine call_mem2 hC [5, 4] (farthest_cut false k k2 .sh kl b (loadsI b) hh m2 hm2 w 0 1 b.lean b.lean.toNat (by omega) (by omega) (.inl rfl) (by omega) _) rfl (by decide) ?_ ?_ ?_ rfl (by simp) ?_
      · simp only [List.map_cons, List.map_nil, ren_horseM]; rfl
      · simp only [List.all_cons, List.all_nil, turn_horse]; rfl
      · simp only [List.all_cons, List.all_nil, List.length_cons, List.length_nil, Nat.zero_add, Nat.reduceAdd, lo_horse]; rfl
      rintro v L' ys' ⟨rfl, rfl, m3, hm3, rfl⟩ -
      simp only [go_sem, Nat.reduceBEq, Nat.reduceAdd, Nat.reduceLeDiff, Nat.reduceEqDiff, upd2g, ren_horseM]
      refine retQ_ct (show shapeN Try.prog 42 = some (some 2) by kernel_rfl) rfl rfl ?_
      rw [← hR]
      unfold roomI
      rw [if_neg h]
end Go.Proofs.Ytaejmbmkkdkliaa
namespace Go.Proofs.Ytaejmbmkkdkliaa
open Go.RowKit
theorem loadsI_400 {b : SBook} (hb : Fit b) : ∀ l ∈ loadsI b, l.ok 400 := by
  intro l hl
  unfold loadsI at hl
  rw [List.mem_map] at hl
  obtain ⟨ws, h1, rfl⟩ := hl
  have hw := truthL_ok hb ws h1
  have := loadW_ok b.parts ws hb.parts hw.2 b.parts.length (Nat.le_refl _) (by have := hb.few; omega)
  rw [List.take_length] at this
  have hf := hb.few
  unfold SLoad.ok at *
  have e : ((100 * b.parts.length * 100 : Nat) : Int) ≤ ((400 * 100 : Nat) : Int) := by omega
  omega
theorem lead_horse {b : SBook} (hb : Fit b) {lead along : Int} (hl : 0 ≤ lead ∧ lead ≤ 99) (ha : -60 ≤ along ∧ along ≤ 60) : HorseOk b (leadL (loadsI b) lead along) := by
  refine ⟨hb, fun l h => ?_, by unfold leadL; rw [List.length_map]; exact (loadsI_horse hb).few⟩
  unfold leadL at h
  rw [List.mem_map] at h
  obtain ⟨l0, h0, rfl⟩ := h
  have := SLoad.ok_add (m := 600) (loadsI_400 hb l0 h0) (w := lead) (a := along) (h := 0) (by omega) (by omega) (by omega)
  exact this
theorem withLead_cut (t : Bool) (k k2 ks kl : SK) (b : SBook) (ls : List SLoad) (hls : ∀ l ∈ ls, l.ok 1000) (hln : ls.length ≤ 1000000) (hne : ls ≠ []) (m : List ((Int × Int) × Int)) (lead along : Int) (hl : 0 ≤ lead ∧ lead ≤ 99) (ha : -60 ≤ along ∧ along ≤ 60) (ys : Option (List (List PV))) :
    SemM Try.prog Fence.wide 85 [.loc 0 0, .p (pi lead), .p (pi along)] [horseB t (bookP k k2 ks b) kl ls, .mp (memoC m)] ys
      (fun v L' ys' => v = .loc 3 0 ∧ ys' = ys ∧ ∃ kl2, L' = [horseB t (bookP k k2 ks b) kl ls, .mp (memoC m), .mp (memoC []), horseM false 2 (bookP k k2 ks b) kl2 (leadL ls lead along)]) :=
  (withLead_sem t k k2 ks kl b ls hls hln hne m lead along hl ha ys).cut fun r L' ys' ⟨h1, h2, kl2, h3⟩ => ⟨_, L'.drop 4, (by rw [← h3, List.take_append_drop] : L' = [horseB t (bookP k k2 ks b) kl ls, .mp (memoC m), .mp (memoC []), horseM false 2 (bookP k k2 ks b) kl2 (leadL ls lead along)] ++ L'.drop 4), by simp, by cases t <;> rfl, by subst h1; rfl, h1, h2, kl2, rfl⟩
theorem errI_ne {b : SBook} {known : Bool} (h : errI b known = 0) : loadsI b ≠ [] := by
  obtain ⟨ho, rfl⟩ := errI_ok h
  unfold errI at h
  rw [if_pos ho, if_pos rfl] at h
  split at h
  · omega
  · rename_i hn
    unfold loadsI
    simpa using hn
def ac31 : AC := (AC.seq (AC.ops [(AOp.mk (some 2) (AK.box 10 (AX.t 0)) none 0 false true), (AOp.mk (some 4) (AK.mv (AX.c (PV.val (Value.int IntKind.i64 0)))) none 1 false true), (AOp.mk (some 5) (AK.mv (AX.c (PV.val (Value.int IntKind.i64 0)))) none 2 false true)]) (AC.seq (AC.ops [(AOp.mk (some 10) (AK.ld (some 10) (AX.t 2)) none 0 true false), (AOp.mk (some 11) (AK.mv (AX.t 1)) none 1 true false), (AOp.mk (some 12) (AK.call 84 [(AX.t 11), (AX.c (PV.val (Value.int IntKind.i64 (-60)))), (AX.c (PV.val (Value.int IntKind.i64 60)))]) none 2 false false), (AOp.mk (some 13) (AK.call 68 [(AX.t 10), (AX.t 12)]) none 3 false false), (AOp.mk (some 9) (AK.mv (AX.t 13)) none 4 true false), (AOp.mk (some 14) (AK.ext (AX.t 9) 0) none 5 true false), (AOp.mk (some 15) (AK.ext (AX.t 9) 1) none 6 true false), (AOp.mk (some 6) (AK.mv (AX.t 14)) none 7 true false), (AOp.mk (some 7) (AK.mv (AX.t 15)) none 8 true true)]) (AC.seq (AC.seq (AC.ops [(AOp.mk (some 16) (AK.mv (AX.t 7)) none 0 false true), (AOp.mk (some 17) (AK.bin false BinOp.neq (AX.t 16) (AX.c (PV.val (Value.int IntKind.i64 0)))) none 1 false true)]) (AC.cond (AX.t 17) (AC.seq (AC.ops [(AOp.mk (some 18) (AK.mv (AX.t 7)) none 0 false true), (AOp.mk (some 4) (AK.mv (AX.c (PV.val (Value.int IntKind.i64 0)))) none 1 false true), (AOp.mk (some 5) (AK.mv (AX.t 18)) none 2 false true)]) AC.ret) AC.skip)) (AC.seq (AC.seq (AC.ops [(AOp.mk (some 19) (AK.mv (AX.c (PV.val (Value.int IntKind.i64 0)))) none 0 false true)]) (AC.block 0 (AC.loop (AC.seq (AC.ops [(AOp.mk (some 20) (AK.bin false BinOp.lss (AX.t 19) (AX.c (PV.val (Value.int IntKind.i64 100)))) none 0 false true)]) (AC.seq (AC.cond (AX.t 20) AC.skip (AC.exit 0)) (AC.seq (AC.block 1 (AC.seq (AC.ops [(AOp.mk (some 21) (AK.mv (AX.t 19)) none 0 false true), (AOp.mk (some 8) (AK.mv (AX.t 21)) none 1 false true)]) (AC.seq (AC.ops [(AOp.mk (some 22) (AK.mv (AX.t 6)) none 0 false true), (AOp.mk (some 23) (AK.mv (AX.t 8)) none 1 false true), (AOp.mk (some 24) (AK.mv (AX.t 1)) none 2 false true), (AOp.mk (some 25) (AK.call 85 [(AX.t 22), (AX.t 23), (AX.t 24)]) none 3 false true), (AOp.mk (some 26) (AK.call 86 [(AX.t 25)]) none 4 false true)]) (AC.cond (AX.t 26) (AC.seq (AC.ops [(AOp.mk (some 27) (AK.mv (AX.t 8)) none 0 false true), (AOp.mk (some 4) (AK.mv (AX.t 27)) none 1 false true), (AOp.mk (some 5) (AK.mv (AX.c (PV.val (Value.int IntKind.i64 0)))) none 2 false true)]) AC.ret) AC.skip)))) (AC.ops [(AOp.mk (some 28) (AK.bin false BinOp.add (AX.t 19) (AX.c (PV.val (Value.int IntKind.i64 1)))) none 0 false true), (AOp.mk (some 19) (AK.mv (AX.t 28)) none 1 false true)]))))))) (AC.seq (AC.ops [(AOp.mk (some 4) (AK.mv (AX.c (PV.val (Value.int IntKind.i64 0)))) none 0 false true), (AOp.mk (some 5) (AK.mv (AX.c (PV.val (Value.int IntKind.i64 4)))) none 1 false true)]) AC.ret)))))
theorem ac31_ok : cCode Try.prog (fun _ => false) Try.f31.ntmps (Try.f31.body.getD .skip) = some ac31 := by kernel_rfl
/-- The least lead that makes the horse safe. -/
def leadI (b : SBook) (ls : List SLoad) (along : Int) : Option Nat := (List.range 100).find? fun j => safeAllI b (leadL ls j along)
theorem Lead_sem (k k2 : SK) (b : SBook) (along : Int) : Sem1 31 [.agg (bookC k k2 b), pi along]
    (if errI b (decide (-60 ≤ along ∧ along ≤ 60)) = 0 then (match leadI b (loadsI b) along with | some j => .tup [pi j, pi 0] | none => .tup [pi 0, pi 4]) else .tup [pi 0, pi (errI b (decide (-60 ≤ along ∧ along ≤ 60)))]) := by
  obtain ⟨R, hR⟩ : ∃ R, (if errI b (decide (-60 ≤ along ∧ along ≤ 60)) = 0 then (match leadI b (loadsI b) along with | some j => PV.tup [pi j, pi 0] | none => .tup [pi 0, pi 4]) else .tup [pi 0, pi (errI b (decide (-60 ≤ along ∧ along ≤ 60)))]) = R := ⟨_, rfl⟩
  rw [hR]
  refine semC_of_exec' mixed Try.func31 (by kernel_rfl) (by kernel_rfl) ac31_ok 2 rfl (by decide) [(.tmp 4), (.tmp 5)] (by kernel_rfl) ?_
  intro hr C hC hI
  unfold ac31
  simp only [go_sem, Nat.reduceBEq, Nat.reduceAdd]
  refine call_pure2 hC (within_sem along (-60) 60) rfl (PVleL_refl _) ?_
  rintro r rfl
  simp only [go_sem, Nat.reduceBEq]
  refine call_mem2 hC [] (trueHorse_sem k k2 b (decide (-60 ≤ along ∧ along ≤ 60)) _) rfl (by decide) rfl rfl rfl rfl (by simp) ?_
  rintro v L' ys' ⟨rfl, (⟨he2, rfl⟩ | ⟨he2, rfl, kl, rfl⟩)⟩ -
  · rw [if_neg he2] at hR
    simp only [go_sem, Nat.reduceBEq]
    exact ⟨fun _ => retQ_two rfl rfl hR, fun h => absurd h he2⟩
  · rw [if_pos he2] at hR
    obtain ⟨ho, hk⟩ := errI_ok he2
    have hlm := ok_lean ho
    simp only [decide_eq_true_eq] at hk
    have hh := loadsI_horse ho.fit
    simp only [go_sem, Nat.reduceBEq, Nat.reduceAdd, upd0, mAt_nil, ren_horseM2]
    refine ⟨fun h => h.elim, fun _ => ?_⟩
    refine loop_nat 100 (fun j => ∀ q : Nat, q < j → safeAllI b (leadL (loadsI b) q along) = false) (fun (j : Nat) => ⟨[(19, .p (pi j)), (6, .loc 4 0), (1, .p (pi along))],
      [.cells ((bookC k k2 b).map .p), .cells ((bookC k k2 b).map .p), .cells [.p (bookP k k2 .sh b)], .mp (memoC []), horseM false 3 (bookP k k2 .sh b) kl (loadsI b), .cells [.loc 4 0]], [], some [], 0⟩) (fun q hq => absurd hq (by omega)) (by simp [Wk, wkT, wkL, look, AV.lo, AV.lo.loL, horseM]) ?_
    rintro j ⟨hj, hok⟩
    simp only [go_sem, Nat.reduceBEq]
    refine ⟨fun h5 => ?_, fun h5 => ?_⟩
    · have hj2 : j < 100 := by omega
      refine call_mem2 hC [4, 3] (withLead_cut false k k2 .sh kl b (loadsI b) hh.small hh.few (errI_ne he2) [] j along (by omega) hk _) rfl (by decide) ?_ ?_ ?_ rfl (by simp) ?_
      · simp only [List.map_cons, List.map_nil, ren_horseM]; rfl
      · simp only [List.all_cons, List.all_nil, turn_horse]; rfl
      · simp only [List.all_cons, List.all_nil, List.length_cons, List.length_nil, Nat.zero_add, Nat.reduceAdd, lo_horse]; rfl
      rintro v L' ys' ⟨rfl, rfl, kl2, rfl⟩ -
      simp only [go_sem, Nat.reduceBEq, Nat.reduceAdd, upd2g, ren_horseM, ren_horseM2, mAt_nil, mAt_succ]
      refine call_mem2 hC [7, 6] (safeForAll_cut false k k2 .sh kl2 b (leadL (loadsI b) j along) (lead_horse ho.fit (by omega) hk) [] (by intro x hx; cases hx) (by omega) hlm.1 _) rfl (by decide) ?_ ?_ ?_ rfl (by simp) ?_
      · simp only [List.map_cons, List.map_nil, ren_horseM]; rfl
      · simp only [List.all_cons, List.all_nil, turn_horse]; rfl
      · simp only [List.all_cons, List.all_nil, List.length_cons, List.length_nil, Nat.zero_add, Nat.reduceAdd, lo_horse]; rfl
      rintro v L' ys' ⟨rfl, rfl, m', hm', rfl⟩ -
      simp only [go_sem, Nat.reduceBEq, Nat.reduceAdd, upd2g, ren_horseM]
      cases hsf : safeAllI b (leadL (loadsI b) j along)
      · simp only [go_sem, Nat.reduceBEq, wrap_succ (k := j) (by omega)]
        refine ⟨⟨j + 1, hj2, fun q hq => ?_⟩, by simp only; omega, ?_⟩
        · rcases Nat.lt_or_ge q j with h1 | h1
          · exact hok q h1
          · have : q = j := by omega
            subst this; exact hsf
        · simp [Wk, wkT, wkL, look, AV.lo, AV.lo.loL, horseM]
      · simp only [go_sem, Nat.reduceBEq]
        refine retQ_two rfl rfl ?_
        rw [← hR]
        have : leadI b (loadsI b) along = some j := by
          unfold leadI
          rw [List.find?_range_eq_some]
          refine ⟨hsf, List.mem_range.2 hj2, fun q hq => by rw [hok q hq]; rfl⟩
        rw [this]
    · have hjn : j = 100 := by omega
      subst hjn
      refine retQ_two rfl rfl ?_
      rw [← hR]
      have : leadI b (loadsI b) along = none := by
        unfold leadI
        rw [List.find?_eq_none]
        intro q hq
        rw [hok q (List.mem_range.1 hq)]
        simp
      rw [this]
end Go.Proofs.Ytaejmbmkkdkliaa
namespace Go.Proofs.Ytaejmbmkkdkliaa
open Go.RowKit Go.Shelf
theorem purL_p : ∀ (l : List PV) (f : Nat) (L : List ABlk), l.length + 1 ≤ f → purL f L (l.map .p) = some (l, L)
  | [], 0, _, h => by simp at h
  | [], f + 1, L, _ => by simp [purL]
  | x :: l, 0, _, h => by simp at h
  | x :: l, f + 1, L, h => by
    simp only [List.length_cons] at h
    cases f with
    | zero => omega
    | succ f =>
      rw [List.map_cons, purL]
      simp only [pur]
      rw [purL_p l (f + 1) L (by omega)]
theorem noMap_p : ∀ l : List PV, (l.map AV.p).any AV.isMap = false
  | [] => rfl
  | _ :: l => by rw [List.map_cons, List.any_cons, noMap_p l]; rfl
theorem pur_cells' {f i off : Nat} {L : List ABlk} {l : List PV} (h : L[i]? = some (.cells (l.map .p))) (hl : l.length + 1 ≤ f) : pur (f + 1) L (.loc i off) = some (.ptr l off, L.set i (.frz l)) := by
  rw [pur, h]
  simp only [purL_p l f L hl, h, noMap_p]
  rfl
theorem pur_cells {i off : Nat} {L : List ABlk} {l : List PV} (h : L[i]? = some (.cells (l.map .p))) (hl : l.length ≤ 98) : pur 100 L (.loc i off) = some (.ptr l off, L.set i (.frz l)) := pur_cells' (f := 99) h (by omega)
end Go.Proofs.Ytaejmbmkkdkliaa
namespace Go.Proofs.Ytaejmbmkkdkliaa
open Go.RowKit
theorem wide_fit {b : SBook} (ho : okBook b) {more : Int} (hm : 0 ≤ more ∧ more ≤ 20) : Fit (wideB b more) := by
  have hf := ho.fit
  have h1 := ho.1
  unfold okBase at h1
  refine ⟨hf.kind, ?_, hf.few, hf.parts, hf.trials, hf.many⟩
  have := hf.small
  unfold small at *
  unfold wideB
  simp only
  omega
theorem wide_horse {b : SBook} (ho : okBook b) {more : Int} (hm : 0 ≤ more ∧ more ≤ 20) : HorseOk (wideB b more) (loadsI b) := ⟨wide_fit ho hm, (loadsI_horse ho.fit).small, (loadsI_horse ho.fit).few⟩
theorem fz_horseM {t : Bool} {i n : Nat} {l : List PV} {bp : PV} {kl : SK} {ls : List SLoad} : ABlk.fz i l (horseM t n bp kl ls) = horseM t n bp kl ls := by cases t <;> rfl
def ac33 : AC := (AC.seq (AC.ops [(AOp.mk (some 1) (AK.box 10 (AX.t 0)) none 0 false true), (AOp.mk (some 2) (AK.mv (AX.c (PV.val (Value.int IntKind.i64 0)))) none 1 false true), (AOp.mk (some 3) (AK.mv (AX.c (PV.val (Value.int IntKind.i64 0)))) none 2 false true)]) (AC.seq (AC.ops [(AOp.mk (some 8) (AK.ld (some 10) (AX.t 1)) none 0 false true), (AOp.mk (some 9) (AK.call 68 [(AX.t 8), (AX.c (PV.val (Value.bool true)))]) none 1 false true), (AOp.mk (some 7) (AK.mv (AX.t 9)) none 2 false true), (AOp.mk (some 10) (AK.ext (AX.t 7) 0) none 3 false true), (AOp.mk (some 11) (AK.ext (AX.t 7) 1) none 4 false true), (AOp.mk (some 4) (AK.mv (AX.t 10)) none 5 false true), (AOp.mk (some 5) (AK.mv (AX.t 11)) none 6 false true)]) (AC.seq (AC.seq (AC.ops [(AOp.mk (some 12) (AK.mv (AX.t 5)) none 0 false true), (AOp.mk (some 13) (AK.bin false BinOp.neq (AX.t 12) (AX.c (PV.val (Value.int IntKind.i64 0)))) none 1 false true)]) (AC.cond (AX.t 13) (AC.seq (AC.ops [(AOp.mk (some 14) (AK.mv (AX.t 5)) none 0 false true), (AOp.mk (some 2) (AK.mv (AX.c (PV.val (Value.int IntKind.i64 0)))) none 1 false true), (AOp.mk (some 3) (AK.mv (AX.t 14)) none 2 false true)]) AC.ret) AC.skip)) (AC.seq (AC.seq (AC.ops [(AOp.mk (some 15) (AK.mv (AX.c (PV.val (Value.int IntKind.i64 0)))) none 0 false true)]) (AC.block 0 (AC.loop (AC.seq (AC.ops [(AOp.mk (some 16) (AK.bin false BinOp.lss (AX.t 15) (AX.c (PV.val (Value.int IntKind.i64 21)))) none 0 false true)]) (AC.seq (AC.cond (AX.t 16) AC.skip (AC.exit 0)) (AC.seq (AC.block 1 (AC.seq (AC.ops [(AOp.mk (some 17) (AK.mv (AX.t 15)) none 0 false true), (AOp.mk (some 6) (AK.mv (AX.t 17)) none 1 false true)]) (AC.seq (AC.ops [(AOp.mk (some 18) (AK.mv (AX.t 4)) none 0 false true), (AOp.mk (some 19) (AK.mv (AX.t 6)) none 1 false true), (AOp.mk (some 20) (AK.call 88 [(AX.t 18), (AX.t 19)]) none 2 false true), (AOp.mk (some 21) (AK.call 86 [(AX.t 20)]) none 3 false true)]) (AC.cond (AX.t 21) (AC.seq (AC.ops [(AOp.mk (some 22) (AK.mv (AX.t 6)) none 0 false true), (AOp.mk (some 2) (AK.mv (AX.t 22)) none 1 false true), (AOp.mk (some 3) (AK.mv (AX.c (PV.val (Value.int IntKind.i64 0)))) none 2 false true)]) AC.ret) AC.skip)))) (AC.ops [(AOp.mk (some 23) (AK.bin false BinOp.add (AX.t 15) (AX.c (PV.val (Value.int IntKind.i64 1)))) none 0 false true), (AOp.mk (some 15) (AK.mv (AX.t 23)) none 1 false true)]))))))) (AC.seq (AC.ops [(AOp.mk (some 2) (AK.mv (AX.c (PV.val (Value.int IntKind.i64 0)))) none 0 false true), (AOp.mk (some 3) (AK.mv (AX.c (PV.val (Value.int IntKind.i64 4)))) none 1 false true)]) AC.ret)))))
theorem ac33_ok : cCode Try.prog (fun _ => false) Try.f33.ntmps (Try.f33.body.getD .skip) = some ac33 := by kernel_rfl
/-- The least widening that makes the horse safe. -/
def widerI (b : SBook) (ls : List SLoad) : Option Nat := (List.range 21).find? fun j => safeAllI (wideB b j) ls
theorem Wider_sem (k k2 : SK) (b : SBook) : Sem1 33 [.agg (bookC k k2 b)]
    (if errI b true = 0 then (match widerI b (loadsI b) with | some j => .tup [pi j, pi 0] | none => .tup [pi 0, pi 4]) else .tup [pi 0, pi (errI b true)]) := by
  obtain ⟨R, hR⟩ : ∃ R, (if errI b true = 0 then (match widerI b (loadsI b) with | some j => PV.tup [pi j, pi 0] | none => .tup [pi 0, pi 4]) else .tup [pi 0, pi (errI b true)]) = R := ⟨_, rfl⟩
  rw [hR]
  refine semC_of_exec' mixed Try.func33 (by kernel_rfl) (by kernel_rfl) ac33_ok 1 rfl (by decide) [(.tmp 2), (.tmp 3)] (by kernel_rfl) ?_
  intro hr C hC hI
  unfold ac33
  simp only [go_sem, Nat.reduceBEq, Nat.reduceAdd]
  refine call_mem2 hC [] (trueHorse_sem k k2 b true _) rfl (by decide) rfl rfl rfl rfl (by simp) ?_
  rintro v L' ys' ⟨rfl, (⟨he2, rfl⟩ | ⟨he2, rfl, kl, rfl⟩)⟩ -
  · rw [if_neg he2] at hR
    simp only [go_sem, Nat.reduceBEq]
    exact ⟨fun _ => retQ_two rfl rfl hR, fun h => absurd h he2⟩
  · rw [if_pos he2] at hR
    obtain ⟨ho, hk⟩ := errI_ok he2
    have hlm := ok_lean ho
    have hh := loadsI_horse ho.fit
    simp only [go_sem, Nat.reduceBEq, Nat.reduceAdd, upd0, mAt_nil, ren_horseM2]
    refine ⟨fun h => h.elim, fun _ => ?_⟩
    refine loop_nat 21 (fun j => ∀ q : Nat, q < j → safeAllI (wideB b q) (loadsI b) = false) (fun (j : Nat) => ⟨[(15, .p (pi j)), (4, .loc 4 0)],
      [.cells ((bookC k k2 b).map .p), .cells ((bookC k k2 b).map .p), .cells [.p (bookP k k2 .sh b)], .mp (memoC []), horseM false 3 (bookP k k2 .sh b) kl (loadsI b), .cells [.loc 4 0]], [], some [], 0⟩) (fun q hq => absurd hq (by omega)) (by simp [Wk, wkT, wkL, look, AV.lo, AV.lo.loL, horseM]) ?_
    rintro j ⟨hj, hok⟩
    simp only [go_sem, Nat.reduceBEq]
    refine ⟨fun h5 => ?_, fun h5 => ?_⟩
    · have hj2 : j < 21 := by omega
      have hw := wide_horse (more := j) ho (by omega)
      refine call_mem2 hC [4, 3] (wider_sem false k k2 .sh kl b ho.fit (loadsI b) [] j (by omega) _) rfl (by decide) ?_ ?_ ?_ rfl (by simp) ?_
      · simp only [List.map_cons, List.map_nil, ren_horseM]; rfl
      · simp only [List.all_cons, List.all_nil, turn_horse]; rfl
      · simp only [List.all_cons, List.all_nil, List.length_cons, List.length_nil, Nat.zero_add, Nat.reduceAdd, lo_horse]; rfl
      rintro v L' ys' ⟨rfl, rfl, ks2, rfl⟩ -
      simp only [go_sem, Nat.reduceBEq, Nat.reduceAdd, upd2g, ren_horseM, mAt_nil, mAt_succ]
      refine call_frz hC 7 [pi (wideB b j).kind, pi (wideB b j).front, pi (wideB b j).back, pi (wideB b j).radius, .sl k 4 ((wideB b j).parts.map partC), pi (wideB b j).along, pi (wideB b j).high, pi (wideB b j).lean, pi (wideB b j).limit, .sl k2 3 ((wideB b j).trials.map trialC), .sl ks2 2 (sidesL b.kind)] (pur_cells rfl (by simp)) [9, 8]
        (safeForAll_cut false k k2 ks2 kl (wideB b j) (loadsI b) hw [] (by intro x hx; cases hx) (by have := hlm.2; unfold wideB; simp only; omega) hlm.1 _) rfl (by decide) ?_ ?_ ?_ rfl (by simp) ?_
      · simp only [List.map_cons, List.map_nil, ren_horseM]; rfl
      · simp only [List.all_cons, List.all_nil, turn_horse]; rfl
      · simp only [List.all_cons, List.all_nil, List.length_cons, List.length_nil, Nat.zero_add, Nat.reduceAdd, lo_horse]; rfl
      rintro v L' ys' ⟨rfl, rfl, m', hm', rfl⟩ -
      simp only [go_sem, Nat.reduceBEq, Nat.reduceAdd, Nat.reduceEqDiff, upd2g, ABlk.fz, AV.fz, ren_horseM]
      cases hsf : safeAllI (wideB b j) (loadsI b)
      · simp only [go_sem, Nat.reduceBEq, wrap_succ (k := j) (by omega)]
        refine ⟨⟨j + 1, hj2, fun q hq => ?_⟩, by simp only; omega, ?_⟩
        · rcases Nat.lt_or_ge q j with h1 | h1
          · exact hok q h1
          · have : q = j := by omega
            subst this; exact hsf
        · simp [Wk, wkT, wkL, look, AV.lo, AV.lo.loL, horseM, AV.fz]
      · simp only [go_sem, Nat.reduceBEq]
        refine retQ_two rfl rfl ?_
        rw [← hR]
        have : widerI b (loadsI b) = some j := by
          unfold widerI
          rw [List.find?_range_eq_some]
          refine ⟨hsf, List.mem_range.2 hj2, fun q hq => by rw [hok q hq]; rfl⟩
        rw [this]
    · have hjn : j = 21 := by omega
      subst hjn
      refine retQ_two rfl rfl ?_
      rw [← hR]
      have : widerI b (loadsI b) = none := by
        unfold widerI
        rw [List.find?_eq_none]
        intro q hq
        rw [hok q (List.mem_range.1 hq)]
        simp
      rw [this]
end Go.Proofs.Ytaejmbmkkdkliaa
namespace Go.Proofs.Ytaejmbmkkdkliaa
open Go.RowKit
/-- The top of a side. -/
def sideT (b : SBook) (back : Bool) (l : SLoad) : Int :=
  if b.kind = 0 then (if back then b.back * l.w + l.a else b.front * l.w - l.a)
  else (if back then b.back * (b.radius * l.w - l.h) + b.radius * l.a else b.front * (b.radius * l.w - l.h) - b.radius * l.a)
theorem topI_side (b : SBook) (l : SLoad) : topI b l = min (sideT b true l) (sideT b false l) := by
  unfold topI sideT maxI
  simp only [Bool.false_eq_true, if_false, if_true]
  split <;> (split <;> omega)
theorem topI_neg (b : SBook) (l : SLoad) : topI b l < 0 ↔ sideT b true l < 0 ∨ sideT b false l < 0 := by
  rw [topI_side]; omega
/-- What a weight adds to the top of a side: its part that does not lean, and its lean's part. -/
def unitT (b : SBook) (back : Bool) (a h : Int) : Int :=
  if b.kind = 0 then (if back then b.back + a else b.front - a)
  else (if back then b.back * (b.radius - h) + b.radius * a else b.front * (b.radius - h) - b.radius * a)
def slopeT (b : SBook) (back : Bool) : Int := if b.kind = 0 then (if back then 1 else -1) else (if back then b.radius else -b.radius)
theorem sideT_add (b : SBook) (back : Bool) (l : SLoad) (w a h : Int) : sideT b back (l.add w a h) = sideT b back l + w * unitT b back a h := by
  unfold sideT unitT SLoad.add
  cases back <;> by_cases hk : b.kind = 0
  all_goals
    simp only [hk, if_true, if_false, Bool.false_eq_true]
    grind
theorem unitT_lean (b : SBook) (back : Bool) (a n h : Int) : unitT b back (a + n) h = unitT b back a h + slopeT b back * n := by
  unfold unitT slopeT
  cases back <;> by_cases hk : b.kind = 0
  all_goals
    simp only [hk, if_true, if_false, Bool.false_eq_true]
    grind
theorem sideT_seat (b : SBook) (back : Bool) (l : SLoad) (w n : Int) : sideT b back (seatB b l w n) = sideT b back l + w * (unitT b back b.along b.high + slopeT b back * n) := by
  unfold seatB
  rw [sideT_add, unitT_lean]
theorem tipsI_iff (b : SBook) (l : SLoad) (w n : Int) : tipsI b l w n ↔ ∃ back, sideT b back (seatB b l w n) < 0 := by
  unfold tipsI
  rw [topI_neg]
  constructor
  · rintro (h | h)
    · exact ⟨true, h⟩
    · exact ⟨false, h⟩
  · rintro ⟨back, h⟩
    cases back
    · exact .inr h
    · exact .inl h
/-- What is linear in weight and lean is least at the corners. -/
theorem corner {A B C w n K L : Int} (hw : 1 ≤ w ∧ w ≤ K) (hn : -L ≤ n ∧ n ≤ L) (h1 : 0 ≤ A + 1 * (B + C * (-L))) (h2 : 0 ≤ A + 1 * (B + C * L)) (h3 : 0 ≤ A + K * (B + C * (-L))) (h4 : 0 ≤ A + K * (B + C * L)) : 0 ≤ A + w * (B + C * n) := by
  have key : ∀ D : Int, D ≤ B + C * n → 0 ≤ A + 1 * D → 0 ≤ A + K * D → 0 ≤ A + w * (B + C * n) := fun D hD k1 k2 => by
    have e1 : w * D ≤ w * (B + C * n) := Int.mul_le_mul_of_nonneg_left hD (by omega)
    rcases Int.le_total 0 D with h | h
    · have : 1 * D ≤ w * D := Int.mul_le_mul_of_nonneg_right hw.1 h
      omega
    · have : K * D ≤ w * D := Int.mul_le_mul_of_nonpos_right hw.2 h
      omega
  rcases Int.le_total 0 C with h | h
  · have : C * (-L) ≤ C * n := Int.mul_le_mul_of_nonneg_left hn.1 h
    exact key _ (by omega) h1 h3
  · have : C * L ≤ C * n := Int.mul_le_mul_of_nonpos_left h hn.2
    exact key _ (by omega) h2 h4
/-- Does the horse not tip, in any truth? -/
def holdsI (b : SBook) (ls : List SLoad) (w n : Int) : Prop := ∀ l ∈ ls, ¬ tipsI b l w n
theorem count_zero {b : SBook} {ls : List SLoad} {w n : Int} : countI b ls w n = 0 ↔ holdsI b ls w n := by
  unfold countI holdsI
  rw [List.countP_eq_zero]
  simp
theorem count_pos {b : SBook} {ls : List SLoad} {w n : Int} : ((0 : Int) < countI b ls w n) ↔ ¬ holdsI b ls w n := by
  rw [← count_zero]; omega
theorem count_all {b : SBook} {ls : List SLoad} {w n : Int} : countI b ls w n = ls.length ↔ ∀ l ∈ ls, tipsI b l w n := by
  unfold countI
  rw [List.countP_eq_length]
  simp
theorem count_le (b : SBook) (ls : List SLoad) (w n : Int) : countI b ls w n ≤ ls.length := List.countP_le_length
theorem safeI_iff {b : SBook} (hl : 0 ≤ b.lean) {ls : List SLoad} {w : Int} : safeI b ls w = true ↔ ∀ n, -b.lean ≤ n → n ≤ b.lean → holdsI b ls w n := by
  unfold safeI
  rw [List.all_eq_true]
  constructor
  · intro h n h1 h2
    have := h (n + b.lean).toNat (List.mem_range.2 (by omega))
    simp only [decide_eq_true_eq] at this
    rw [← count_zero]
    rwa [show (((n + b.lean).toNat : Int) - b.lean) = n by omega] at this
  · intro h q hq
    have := List.mem_range.1 hq
    simp only [decide_eq_true_eq]
    exact count_zero.2 (h _ (by omega) (by omega))
theorem endsI_iff {b : SBook} {ls : List SLoad} {w : Int} : endsI b ls w = true ↔ holdsI b ls w (-b.lean) ∧ holdsI b ls w b.lean := by
  unfold endsI
  rw [decide_eq_true_eq, count_zero, count_zero]
theorem safeAll_iff {b : SBook} (hl : 0 ≤ b.lean) (hm : 1 ≤ b.limit) {ls : List SLoad} : safeAllI b ls = true ↔ ∀ w n, 1 ≤ w → w ≤ b.limit → -b.lean ≤ n → n ≤ b.lean → holdsI b ls w n := by
  unfold safeAllI
  rw [Bool.and_eq_true, endsI_iff, endsI_iff]
  constructor
  · rintro ⟨⟨h1, h2⟩, h3, h4⟩ w n k1 k2 k3 k4 l hl' ht
    obtain ⟨back, hb⟩ := (tipsI_iff ..).1 ht
    have nn : ∀ {v m : Int}, holdsI b ls v m → 0 ≤ sideT b back (seatB b l v m) := fun {v m} h => by
      have := h l hl'
      rw [tipsI_iff] at this
      rcases Int.lt_or_le (sideT b back (seatB b l v m)) 0 with h | h
      · exact absurd ⟨back, h⟩ this
      · exact h
    have c1 := nn h1
    have c2 := nn h2
    have c3 := nn h3
    have c4 := nn h4
    rw [sideT_seat] at c1 c2 c3 c4 hb
    have := corner ⟨k1, k2⟩ ⟨k3, k4⟩ c1 c2 c3 c4
    omega
  · intro h
    exact ⟨⟨h _ _ (by omega) (by omega) (by omega) (by omega), h _ _ (by omega) (by omega) (by omega) (by omega)⟩, h _ _ (by omega) (by omega) (by omega) (by omega), h _ _ (by omega) (by omega) (by omega) (by omega)⟩
theorem leastI_none {b : SBook} (hl : 0 ≤ b.lean) {ls : List SLoad} : leastI b ls = none ↔ ∀ w n, 1 ≤ w → w ≤ b.limit → -b.lean ≤ n → n ≤ b.lean → holdsI b ls w n := by
  unfold leastI
  rw [List.find?_eq_none]
  constructor
  · intro h w n k1 k2 k3 k4
    have := h (w - 1).toNat (List.mem_range.2 (by omega))
    simp only [Bool.not_eq_true', Bool.not_eq_false] at this
    rw [show (((w - 1).toNat : Int) + 1) = w by omega] at this
    exact (safeI_iff hl).1 this n k3 k4
  · intro h q hq
    have := List.mem_range.1 hq
    simp only [Bool.not_eq_true', Bool.not_eq_false]
    exact (safeI_iff hl).2 fun n h1 h2 => h _ n (by omega) (by omega) h1 h2
theorem leastI_some {b : SBook} {ls : List SLoad} {j : Nat} : leastI b ls = some j ↔ j < b.limit.toNat ∧ safeI b ls (j + 1) = false ∧ ∀ q : Nat, q < j → safeI b ls (q + 1) = true := by
  unfold leastI
  rw [List.find?_range_eq_some]
  simp only [Bool.not_eq_true', List.mem_range]
  constructor
  · rintro ⟨h1, h2, h3⟩; exact ⟨h2, h1, fun q hq => by simpa using h3 q hq⟩
  · rintro ⟨h1, h2, h3⟩; exact ⟨h2, h1, fun q hq => by simpa using h3 q hq⟩
theorem least_safeAll {b : SBook} (hl : 0 ≤ b.lean) (hm : 1 ≤ b.limit) {ls : List SLoad} : leastI b ls = none ↔ safeAllI b ls = true := by
  rw [leastI_none hl, safeAll_iff hl hm]
end Go.Proofs.Ytaejmbmkkdkliaa
