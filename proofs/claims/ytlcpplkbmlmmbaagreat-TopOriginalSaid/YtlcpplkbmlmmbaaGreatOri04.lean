/- Contracts of maker: what is needed, two makers, where to look. Contracts of maker: what the package returns. Mathematics of mend: what can have been changed; all truths. Mathematics of mend: costs, shares, spans. -/
import Derived.Test.YtlcpplkbmlmmbaaGreatOri03
import Derived.Test.YtlcpplkbmlmmbaaGreatGa16
namespace Go.Proofs.YtlcpplkbmlmmbaaGreat.Mk
open Go.RowKit Ls
def ac83 : AC := (AC.seq (AC.ops [(AOp.mk (some 5) (AK.box 1 (AX.t 2)) none 0 false true), (AOp.mk (some 6) (AK.new (PV.val (Value.bool false))) none 1 false true)]) (AC.seq (AC.ops [(AOp.mk (some 10) (AK.mv (AX.t 0)) none 0 false true), (AOp.mk (some 11) (AK.call 117 [(AX.t 10), (AX.c (PV.sl SK.full 0 []))]) none 1 false true), (AOp.mk (some 7) (AK.new PV.nilp) none 2 false true), (AOp.mk none (AK.st 1 (AX.t 7) (AX.t 11)) none 3 false true)]) (AC.seq (AC.seq (AC.ops [(AOp.mk (some 12) (AK.ld none (AX.t 7)) none 0 false true), (AOp.mk (some 13) (AK.mv (AX.t 1)) none 1 false true), (AOp.mk (some 14) (AK.bslice false 3 1 1 [(PV.val (Value.int IntKind.i64 0))] [(0, (1, (AX.t 13)))]) none 2 false true), (AOp.mk (some 15) (AK.call 118 [(AX.t 12), (AX.t 14)]) none 3 false true)]) (AC.block 0 (AC.rng (AX.t 15) [16] (AC.ops [(AOp.mk (some 8) (AK.new (PV.agg [(PV.val (Value.int IntKind.i64 0)), (PV.sl SK.full 0 []), (PV.val (Value.int IntKind.i64 0)), (PV.val (Value.int IntKind.i64 0)), (PV.val (Value.int IntKind.i64 0)), (PV.val (Value.int IntKind.i64 0)), (PV.val (Value.int IntKind.i64 0)), (PV.val (Value.int IntKind.i64 0))])) none 0 false true), (AOp.mk none (AK.st 8 (AX.t 8) (AX.t 16)) none 1 false true)]) (AC.block 1 (AC.seq (AC.ops [(AOp.mk (some 17) (AK.ld none (AX.t 7)) none 0 false true), (AOp.mk (some 18) (AK.ld none (AX.t 5)) none 1 false true), (AOp.mk (some 19) (AK.bslice false 3 1 1 [(PV.val (Value.int IntKind.i64 0))] [(0, (1, (AX.t 18)))]) none 2 false true), (AOp.mk (some 20) (AK.call 118 [(AX.t 17), (AX.t 19)]) none 3 false true)]) (AC.block 2 (AC.rng (AX.t 20) [21] (AC.ops [(AOp.mk (some 9) (AK.new (PV.agg [(PV.val (Value.int IntKind.i64 0)), (PV.sl SK.full 0 []), (PV.val (Value.int IntKind.i64 0)), (PV.val (Value.int IntKind.i64 0)), (PV.val (Value.int IntKind.i64 0)), (PV.val (Value.int IntKind.i64 0)), (PV.val (Value.int IntKind.i64 0)), (PV.val (Value.int IntKind.i64 0))])) none 0 false true), (AOp.mk none (AK.st 8 (AX.t 9) (AX.t 21)) none 1 false true)]) (AC.block 3 (AC.seq (AC.ops [(AOp.mk (some 22) (AK.fadr 2 (AX.t 8)) none 0 false true), (AOp.mk (some 23) (AK.ld (some 6) (AX.t 22)) none 1 false true), (AOp.mk (some 24) (AK.fadr 2 (AX.t 9)) none 2 false true), (AOp.mk (some 25) (AK.ld (some 6) (AX.t 24)) none 3 false true), (AOp.mk (some 26) (AK.call 119 [(AX.t 23), (AX.t 25)]) none 4 false true), (AOp.mk (some 27) (AK.call 112 [(AX.t 26)]) none 5 false true), (AOp.mk (some 28) (AK.un UnOp.not (AX.t 27)) none 6 false true)]) (AC.cond (AX.t 28) (AC.seq (AC.ops [(AOp.mk none (AK.st 1 (AX.t 6) (AX.c (PV.val (Value.bool false)))) none 0 false true)]) AC.ret) AC.skip)))))))))) (AC.seq (AC.ops [(AOp.mk none (AK.st 1 (AX.t 6) (AX.c (PV.val (Value.bool true)))) none 0 false true)]) AC.ret))))
theorem ac83_ok : cCode Tryz.prog (fun _ => false) Tryz.f83.ntmps (Tryz.f83.body.getD .skip) = some ac83 := by kernel_rfl
def needsP (o : Option Nat) : PV := match o with | some z => .tup [pi (z : Nat), pb true] | none => .tup [pi 0, pb false]
def bothB (b : MBook) (o u : Nat) : Bool := (truthsL (unseenB b) o).any fun c1 => (truthsL (unseenB b) u).any fun c2 => !lackB fun q => valA (unseenB b) o c1 q &&& valA (unseenB b) u c2 q
theorem okC.bare {b : MBook} (ho : okC b) : okC (unseenB b) := ho.unseen [] fun _ h => by cases h
theorem withNil_sem (k k2 : SK) {b : MBook} (m : PV) (ho : okC b) : Sem1 117 [bookX k k2 b m, .sl .full 0 []] (bookP k .sh (unseenB b)) := by
  refine semC_of_exec' mixed Tryz.func117 (by kernel_rfl) (by kernel_rfl) ac117_ok 2 rfl (by decide) [(.tmp 4)] (by kernel_rfl) ?_
  intro hr C hC hI
  unfold ac117
  simp only [go_sem, Nat.reduceBEq, Nat.reduceAdd, Nat.reduceLeDiff, putCells]
  refine call_pure2 hC (bookOf_sem k .sh (b := unseenB b) ho.bare (by simp [unseenB])) rfl ⟨PVle.agg (show PVleL [_, _, _, _] [_, _, _, _] from ⟨PVle.refl _, PVle.nil _ _ _, PVle.refl _, PVle.refl _, trivial⟩), trivial⟩ ?_
  rintro r rfl
  simp only [go_sem, Nat.reduceBEq]
  exact retQ_one rfl rfl
theorem areTold_sem (k k2 : SK) {b : MBook} (ho : okC b) {o u : Nat} (hoo : o < b.makers.length) (hu : u < b.makers.length) : Sem1 83 [bookP k k2 b, pi o, pi u] (pb (!bothB b o u)) := by
  have hob := ho.bare
  obtain ⟨x, hx⟩ : ∃ x, unseenB b = x := ⟨_, rfl⟩
  have hox : o < x.makers.length := by rw [← hx]; exact hoo
  have hux : u < x.makers.length := by rw [← hx]; exact hu
  have hws := withNil_sem k k2 (b := b) (.mpf (ownE b)) ho
  have hbb : bothB b o u = (truthsL x o).any fun c1 => (truthsL x u).any fun c2 => !lackB fun q => valA x o c1 q &&& valA x u c2 q := by rw [← hx]; rfl
  rw [hx] at hob hws
  rw [hbb]
  clear hbb
  refine semC_of_exec' mixed Tryz.func83 (by kernel_rfl) (by kernel_rfl) ac83_ok 3 rfl (by decide) [(.cell 6 4)] (by kernel_rfl) ?_
  intro hr C hC hI
  unfold ac83
  simp only [go_sem, Nat.reduceBEq, Nat.reduceAdd]
  refine call_pure2 hC (hws) rfl (PVleL_refl _) ?_
  rintro r rfl
  simp only [go_sem, Nat.reduceBEq, Nat.reduceAdd, putCells]
  refine call_pure2 hC (truths_clo k .sh x _ [o] .full) rfl (PVleL_refl _) ?_
  rintro r rfl
  simp only [go_sem]
  refine rng_m (ι := Unit) (trL x [o]) (encTr x) [5, 6, 7] (fun _ _ => [.cells [.p (pi u)], .cells [.p (pb false)], .cells [.p (bookP k .sh x)]]) (fun _ _ => []) (fun _ => some []) (fun i _ => ∀ c1 ∈ (truthsL x o).take i, ((truthsL x u).any fun c2 => !lackB fun q => valA x o c1 q &&& valA x u c2 q) = false) () rfl rfl (hI _ _ _ (truths_it k .sh hob .full [o] (one_lt hox) (by simp))) ?_ (fun _ => rfl) (by simp [Wk, wkT, wkL, look, AV.lo, AV.lo.loL, keepS]) (by simp) ?_ ?_
  · simp only [show noY.noYR ((trL x [o]).map (encTr x)) = true from noY_trs x _, noY.noYL, noY, noY_pis2, noY_rowsC, noY_seenC, noY_ownE, Bool.and_true]
  · rintro i - hi hok
    obtain ⟨hl, e⟩ := tr_get hi
    rw [e]
    simp only [go_sem, Nat.reduceBEq, Nat.reduceAdd, encTr, truthC, putCells]
    refine call_pure2 hC (truths_clo k .sh x _ [u] .full) rfl (PVleL_refl _) ?_
    rintro r rfl
    simp only [go_sem]
    obtain ⟨c1, ec⟩ : ∃ c1, (truthsL x o)[i] = c1 := ⟨_, rfl⟩
    rw [ec]
    refine rng_m (ι := Unit) (trL x [u]) (encTr x) [5, 6, 7, 8] (fun _ _ => [.cells [.p (pi u)], .cells [.p (pb false)], .cells [.p (bookP k .sh x)], .cells ((truthC x o c1).map .p)]) (fun _ _ => []) (fun _ => some []) (fun j _ => ∀ c2 ∈ (truthsL x u).take j, (!lackB fun q => valA x o c1 q &&& valA x u c2 q) = false) () rfl rfl (hI _ _ _ (truths_it k .sh hob .full [u] (one_lt hux) (by simp))) ?_ (fun _ => rfl) (by simp [truthC, Wk, wkT, wkL, look, AV.lo, AV.lo.loL, keepS]) (by simp) ?_ ?_
    · simp only [show noY.noYR ((trL x [u]).map (encTr x)) = true from noY_trs x _, noY.noYL, noY, noY_pis2, noY_rowsC, noY_seenC, noY_ownE, Bool.and_true]
    · rintro j - hj hok2
      obtain ⟨hl2, e2⟩ := tr_get hj
      obtain ⟨c2, ec2⟩ : ∃ c2, (truthsL x u)[j] = c2 := ⟨_, rfl⟩
      rw [e2, ec2]
      simp only [go_sem, Nat.reduceBEq, Nat.reduceAdd, encTr, truthC, putCells, List.map_cons, List.map_nil]
      refine call_pure2 hC (common_sem (valA x o c1) (valA x u c2) (valA_le x o c1) (valA_le x u c2)) rfl (PVleL_refl _) ?_
      rintro r rfl
      simp only [go_sem, Nat.reduceBEq]
      refine call_pure2 hC (lacksSome_sem fun q => valA x o c1 q &&& valA x u c2 q) rfl (PVleL_refl _) ?_
      rintro r rfl
      simp only [go_sem, Nat.reduceBEq]
      cases hb : lackB fun q => valA x o c1 q &&& valA x u c2 q
      · have : ((truthsL x o).any fun c1 => (truthsL x u).any fun c2 => !lackB fun q => valA x o c1 q &&& valA x u c2 q) = true := List.any_eq_true.2 ⟨c1, ec ▸ List.getElem_mem hl, List.any_eq_true.2 ⟨c2, ec2 ▸ List.getElem_mem hl2, by rw [hb]; rfl⟩⟩
        rw [this]
        simp only [go_sem, Nat.reduceBEq, putCells]
        exact retQ_cell (n := none) (by kernel_rfl) rfl rfl
      · simp only [go_sem, Nat.reduceBEq]
        refine ⟨(), take_allG hl2 hok2 (by rw [ec2, hb]; rfl), ?_⟩
        simp [Wk, wkT, wkL, look, AV.lo, AV.lo.loL, ABlk.toZ]
    · rintro - hok2
      simp only [go_sem, Nat.reduceBEq]
      refine ⟨(), take_allG hl hok ?_, ?_⟩
      · rw [ec, List.any_eq_false]
        intro c2 hc
        have := hok2 c2 (by rw [trL_one, List.length_map, List.take_length]; exact hc)
        rw [this]
        decide
      · simp [Wk, wkT, wkL, look, AV.lo, AV.lo.loL, ABlk.toZ]
  · rintro - hok
    have : ((truthsL x o).any fun c1 => (truthsL x u).any fun c2 => !lackB fun q => valA x o c1 q &&& valA x u c2 q) = false := by
      rw [List.any_eq_false]
      intro c hc
      have := hok c (by rw [trL_one, List.length_map, List.take_length]; exact hc)
      rw [this]
      decide
    rw [this]
    simp only [go_sem, Nat.reduceBEq, putCells]
    exact retQ_cell (n := none) (by kernel_rfl) rfl rfl
theorem okC.know {b : MBook} (ho : okC b) {q v : Nat} (hq : q < nK b) (hv : v < 5) : okC (knowB b q v) := by
  obtain ⟨h1, h2, h3, h4, h5⟩ := ho
  refine ⟨h1, h2, h3, fun m hm => ?_, h5⟩
  rcases List.mem_append.1 hm with h | h
  · exact h4 m h
  · rw [List.mem_singleton] at h
    subst h
    have : v = 0 ∨ v = 1 ∨ v = 2 ∨ v = 3 ∨ v = 4 := by omega
    refine ⟨⟨by simp, by show (q : Int) < (nK b : Int); omega⟩, ?_⟩
    rcases this with rfl | rfl | rfl | rfl | rfl <;> (simp only; decide)
def cntL (b : MBook) (q : Nat) (l : List Nat) : List Nat := l.map fun v => (whoL (knowB b q v)).length
def bestK (b : MBook) (j : Nat) : Nat := (List.range j).foldl (fun best k => if worstN b k < worstN b best then k else best) 0
end Go.Proofs.YtlcpplkbmlmmbaaGreat.Mk
namespace Go.Proofs.YtlcpplkbmlmmbaaGreat.Mk
open Go.RowKit Ls
def ac81 : AC := (AC.seq (AC.ops [(AOp.mk (some 2) (AK.box 4 (AX.t 0)) none 0 false true), (AOp.mk (some 4) (AK.mv (AX.c PV.nilp)) none 1 false true), (AOp.mk (some 5) (AK.mv (AX.c (PV.val (Value.int IntKind.i64 0)))) none 2 false true)]) (AC.seq (AC.seq (AC.ops [(AOp.mk (some 7) (AK.ld (some 4) (AX.t 2)) none 0 false true), (AOp.mk (some 8) (AK.call 73 [(AX.t 7)]) none 1 false true), (AOp.mk (some 6) (AK.mv (AX.t 8)) none 2 false true)]) (AC.seq (AC.ops [(AOp.mk (some 9) (AK.mv (AX.t 6)) none 0 false true), (AOp.mk (some 10) (AK.bin false BinOp.neq (AX.t 9) (AX.c (PV.val (Value.int IntKind.i64 0)))) none 1 false true)]) (AC.cond (AX.t 10) (AC.seq (AC.ops [(AOp.mk (some 11) (AK.mv (AX.t 6)) none 0 false true), (AOp.mk (some 4) (AK.mv (AX.c PV.nilp)) none 1 false true), (AOp.mk (some 5) (AK.mv (AX.t 11)) none 2 false true)]) AC.ret) AC.skip))) (AC.seq (AC.seq (AC.ops [(AOp.mk (some 12) (AK.mv (AX.t 1)) none 0 false true), (AOp.mk (some 13) (AK.un UnOp.not (AX.t 12)) none 1 false true)]) (AC.cond (AX.t 13) (AC.seq (AC.ops [(AOp.mk (some 4) (AK.mv (AX.c PV.nilp)) none 0 false true), (AOp.mk (some 5) (AK.mv (AX.c (PV.val (Value.int IntKind.i64 51)))) none 1 false true)]) AC.ret) AC.skip)) (AC.seq (AC.ops [(AOp.mk (some 14) (AK.ld (some 4) (AX.t 2)) none 0 false true), (AOp.mk (some 15) (AK.call 115 [(AX.t 14)]) none 1 false true), (AOp.mk (some 4) (AK.mv (AX.t 15)) none 2 false true), (AOp.mk (some 5) (AK.mv (AX.c (PV.val (Value.int IntKind.i64 0)))) none 3 false true)]) AC.ret))))
theorem ac81_ok : cCode Tryz.prog (fun _ => false) Tryz.f81.ntmps (Tryz.f81.body.getD .skip) = some ac81 := by kernel_rfl
def ac78 : AC := (AC.seq (AC.ops [(AOp.mk (some 2) (AK.box 4 (AX.t 0)) none 0 false true), (AOp.mk (some 4) (AK.mv (AX.c PV.nilp)) none 1 false true), (AOp.mk (some 5) (AK.mv (AX.c (PV.val (Value.int IntKind.i64 0)))) none 2 false true)]) (AC.seq (AC.ops [(AOp.mk (some 9) (AK.ld (some 4) (AX.t 2)) none 0 false true), (AOp.mk (some 10) (AK.mv (AX.t 1)) none 1 false true), (AOp.mk (some 11) (AK.call 81 [(AX.t 9), (AX.t 10)]) none 2 false true), (AOp.mk (some 8) (AK.mv (AX.t 11)) none 3 false true), (AOp.mk (some 12) (AK.ext (AX.t 8) 0) none 4 false true), (AOp.mk (some 13) (AK.ext (AX.t 8) 1) none 5 false true), (AOp.mk (some 6) (AK.mv (AX.t 12)) none 6 false true), (AOp.mk (some 7) (AK.mv (AX.t 13)) none 7 false true)]) (AC.seq (AC.seq (AC.ops [(AOp.mk (some 14) (AK.mv (AX.t 7)) none 0 false true), (AOp.mk (some 15) (AK.bin false BinOp.neq (AX.t 14) (AX.c (PV.val (Value.int IntKind.i64 0)))) none 1 false true)]) (AC.cond (AX.t 15) (AC.seq (AC.ops [(AOp.mk (some 16) (AK.mv (AX.t 7)) none 0 false true), (AOp.mk (some 4) (AK.mv (AX.c PV.nilp)) none 1 false true), (AOp.mk (some 5) (AK.mv (AX.t 16)) none 2 false true)]) AC.ret) AC.skip)) (AC.seq (AC.seq (AC.ops [(AOp.mk (some 17) (AK.mv (AX.t 6)) none 0 false true), (AOp.mk (some 18) (AK.nilc (AX.t 17)) none 1 false true), (AOp.mk (some 19) (AK.fadr 4 (AX.t 18)) none 2 false true), (AOp.mk (some 20) (AK.ld (some 6) (AX.t 19)) none 3 false true), (AOp.mk (some 21) (AK.call 112 [(AX.t 20)]) none 4 false true)]) (AC.cond (AX.t 21) (AC.seq (AC.ops [(AOp.mk (some 4) (AK.mv (AX.c PV.nilp)) none 0 false true), (AOp.mk (some 5) (AK.mv (AX.c (PV.val (Value.int IntKind.i64 52)))) none 1 false true)]) AC.ret) AC.skip)) (AC.seq (AC.ops [(AOp.mk (some 22) (AK.mv (AX.t 6)) none 0 false true), (AOp.mk (some 4) (AK.mv (AX.t 22)) none 1 false true), (AOp.mk (some 5) (AK.mv (AX.c (PV.val (Value.int IntKind.i64 0)))) none 2 false true)]) AC.ret)))))
theorem ac78_ok : cCode Tryz.prog (fun _ => false) Tryz.f78.ntmps (Tryz.f78.body.getD .skip) = some ac78 := by kernel_rfl
def ac41 : AC := (AC.seq (AC.ops [(AOp.mk (some 1) (AK.box 4 (AX.t 0)) none 0 false true), (AOp.mk (some 2) (AK.mv (AX.c (PV.sl SK.full 0 []))) none 1 false true), (AOp.mk (some 3) (AK.mv (AX.c (PV.val (Value.int IntKind.i64 0)))) none 2 false true)]) (AC.seq (AC.ops [(AOp.mk (some 7) (AK.ld (some 4) (AX.t 1)) none 0 false true), (AOp.mk (some 8) (AK.call 78 [(AX.t 7), (AX.c (PV.val (Value.bool true)))]) none 1 false true), (AOp.mk (some 6) (AK.mv (AX.t 8)) none 2 false true), (AOp.mk (some 9) (AK.ext (AX.t 6) 0) none 3 false true), (AOp.mk (some 10) (AK.ext (AX.t 6) 1) none 4 false true), (AOp.mk (some 4) (AK.mv (AX.t 9)) none 5 false true), (AOp.mk (some 5) (AK.mv (AX.t 10)) none 6 false true)]) (AC.seq (AC.seq (AC.ops [(AOp.mk (some 11) (AK.mv (AX.t 5)) none 0 false true), (AOp.mk (some 12) (AK.bin false BinOp.neq (AX.t 11) (AX.c (PV.val (Value.int IntKind.i64 0)))) none 1 false true)]) (AC.cond (AX.t 12) (AC.seq (AC.ops [(AOp.mk (some 13) (AK.mv (AX.t 5)) none 0 false true), (AOp.mk (some 2) (AK.mv (AX.c (PV.sl SK.full 0 []))) none 1 false true), (AOp.mk (some 3) (AK.mv (AX.t 13)) none 2 false true)]) AC.ret) AC.skip)) (AC.seq (AC.ops [(AOp.mk (some 14) (AK.mv (AX.t 4)) none 0 false true), (AOp.mk (some 15) (AK.call 79 [(AX.t 14)]) none 1 false true), (AOp.mk (some 2) (AK.mv (AX.t 15)) none 2 false true), (AOp.mk (some 3) (AK.mv (AX.c (PV.val (Value.int IntKind.i64 0)))) none 3 false true)]) AC.ret))))
theorem ac41_ok : cCode Tryz.prog (fun _ => false) Tryz.f41.ntmps (Tryz.f41.body.getD .skip) = some ac41 := by kernel_rfl
def ac178 : AC := (AC.seq (AC.ops [(AOp.mk (some 3) (AK.box 4 (AX.t 0)) none 0 false true), (AOp.mk (some 6) (AK.mv (AX.c (PV.val (Value.int IntKind.i64 0)))) none 1 false true), (AOp.mk (some 7) (AK.mv (AX.c (PV.val (Value.int IntKind.i64 0)))) none 2 false true)]) (AC.seq (AC.ops [(AOp.mk (some 11) (AK.ld (some 4) (AX.t 3)) none 0 true false), (AOp.mk (some 12) (AK.ld (some 4) (AX.t 3)) none 1 true false), (AOp.mk (some 13) (AK.mv (AX.t 1)) none 2 true false), (AOp.mk (some 14) (AK.call 82 [(AX.t 12), (AX.t 13)]) none 3 false false), (AOp.mk (some 15) (AK.mv (AX.t 14)) none 4 true false), (AOp.mk (some 16) (AK.ld (some 4) (AX.t 3)) (some (15, true)) 5 true false), (AOp.mk (some 17) (AK.mv (AX.t 2)) (some (15, true)) 6 true false), (AOp.mk (some 18) (AK.call 110 [(AX.t 16), (AX.t 17)]) (some (15, true)) 7 false false), (AOp.mk (some 19) (AK.pick (AX.t 15) (AX.t 18) (AX.c (PV.val (Value.bool false)))) none 8 true false), (AOp.mk (some 20) (AK.call 78 [(AX.t 11), (AX.t 19)]) none 9 false true), (AOp.mk (some 10) (AK.mv (AX.t 20)) none 10 true true), (AOp.mk (some 21) (AK.ext (AX.t 10) 0) none 11 true false), (AOp.mk (some 22) (AK.ext (AX.t 10) 1) none 12 true false), (AOp.mk (some 8) (AK.mv (AX.t 21)) none 13 true false), (AOp.mk (some 9) (AK.mv (AX.t 22)) none 14 true true)]) (AC.seq (AC.seq (AC.ops [(AOp.mk (some 23) (AK.mv (AX.t 9)) none 0 false true), (AOp.mk (some 24) (AK.bin false BinOp.neq (AX.t 23) (AX.c (PV.val (Value.int IntKind.i64 0)))) none 1 false true)]) (AC.cond (AX.t 24) (AC.seq (AC.ops [(AOp.mk (some 25) (AK.mv (AX.t 9)) none 0 false true), (AOp.mk (some 6) (AK.mv (AX.c (PV.val (Value.int IntKind.i64 0)))) none 1 false true), (AOp.mk (some 7) (AK.mv (AX.t 25)) none 2 false true)]) AC.ret) AC.skip)) (AC.seq (AC.seq (AC.ops [(AOp.mk (some 26) (AK.mv (AX.t 8)) none 0 false true), (AOp.mk (some 27) (AK.mv (AX.t 1)) none 1 false true), (AOp.mk (some 28) (AK.call 114 [(AX.t 26), (AX.t 27)]) none 2 false true), (AOp.mk (some 29) (AK.un UnOp.not (AX.t 28)) none 3 false true)]) (AC.cond (AX.t 29) (AC.seq (AC.ops [(AOp.mk (some 6) (AK.mv (AX.c (PV.val (Value.int IntKind.i64 0)))) none 0 false true), (AOp.mk (some 7) (AK.mv (AX.c (PV.val (Value.int IntKind.i64 4)))) none 1 false true)]) AC.ret) AC.skip)) (AC.seq (AC.ops [(AOp.mk (some 30) (AK.mv (AX.t 8)) none 0 false true), (AOp.mk (some 31) (AK.mv (AX.t 1)) none 1 false true), (AOp.mk (some 32) (AK.mv (AX.t 2)) none 2 false true), (AOp.mk (some 33) (AK.build [(PV.val (Value.int IntKind.i64 0)), (PV.val (Value.int IntKind.i64 0))] [(0, (1, (AX.t 31))), (1, (1, (AX.t 32)))]) none 3 false true), (AOp.mk (some 34) (AK.call 182 [(AX.t 30), (AX.t 33)]) none 4 false true), (AOp.mk (some 6) (AK.mv (AX.t 34)) none 5 false true), (AOp.mk (some 7) (AK.mv (AX.c (PV.val (Value.int IntKind.i64 0)))) none 6 false true)]) AC.ret)))))
theorem ac178_ok : cCode Tryz.prog (fun _ => false) Tryz.f178.ntmps (Tryz.f178.body.getD .skip) = some ac178 := by kernel_rfl
def ac77 : AC := (AC.seq (AC.ops [(AOp.mk (some 2) (AK.box 4 (AX.t 0)) none 0 false true), (AOp.mk (some 4) (AK.mv (AX.c (PV.sl SK.full 0 []))) none 1 false true), (AOp.mk (some 5) (AK.mv (AX.c (PV.val (Value.int IntKind.i64 0)))) none 2 false true)]) (AC.seq (AC.ops [(AOp.mk (some 9) (AK.ld (some 4) (AX.t 2)) none 0 true false), (AOp.mk (some 10) (AK.ld (some 4) (AX.t 2)) none 1 true false), (AOp.mk (some 11) (AK.mv (AX.t 1)) none 2 true false), (AOp.mk (some 12) (AK.call 110 [(AX.t 10), (AX.t 11)]) none 3 false false), (AOp.mk (some 13) (AK.call 78 [(AX.t 9), (AX.t 12)]) none 4 false true), (AOp.mk (some 8) (AK.mv (AX.t 13)) none 5 true true), (AOp.mk (some 14) (AK.ext (AX.t 8) 0) none 6 true false), (AOp.mk (some 15) (AK.ext (AX.t 8) 1) none 7 true false), (AOp.mk (some 6) (AK.mv (AX.t 14)) none 8 true false), (AOp.mk (some 7) (AK.mv (AX.t 15)) none 9 true true)]) (AC.seq (AC.seq (AC.ops [(AOp.mk (some 16) (AK.mv (AX.t 7)) none 0 false true), (AOp.mk (some 17) (AK.bin false BinOp.neq (AX.t 16) (AX.c (PV.val (Value.int IntKind.i64 0)))) none 1 false true)]) (AC.cond (AX.t 17) (AC.seq (AC.ops [(AOp.mk (some 18) (AK.mv (AX.t 7)) none 0 false true), (AOp.mk (some 4) (AK.mv (AX.c (PV.sl SK.full 0 []))) none 1 false true), (AOp.mk (some 5) (AK.mv (AX.t 18)) none 2 false true)]) AC.ret) AC.skip)) (AC.seq (AC.ops [(AOp.mk (some 19) (AK.mv (AX.t 6)) none 0 false true), (AOp.mk (some 20) (AK.mv (AX.t 1)) none 1 false true), (AOp.mk (some 21) (AK.call 111 [(AX.t 19), (AX.t 20)]) none 2 false true), (AOp.mk (some 4) (AK.mv (AX.t 21)) none 3 false true), (AOp.mk (some 5) (AK.mv (AX.c (PV.val (Value.int IntKind.i64 0)))) none 4 false true)]) AC.ret))))
theorem ac77_ok : cCode Tryz.prog (fun _ => false) Tryz.f77.ntmps (Tryz.f77.body.getD .skip) = some ac77 := by kernel_rfl
def ac47 : AC := (AC.seq (AC.ops [(AOp.mk (some 3) (AK.box 4 (AX.t 0)) none 0 false true), (AOp.mk (some 6) (AK.mv (AX.c (PV.val (Value.bool false)))) none 1 false true), (AOp.mk (some 7) (AK.mv (AX.c (PV.val (Value.int IntKind.i64 0)))) none 2 false true)]) (AC.seq (AC.ops [(AOp.mk (some 11) (AK.ld (some 4) (AX.t 3)) none 0 true false), (AOp.mk (some 12) (AK.ld (some 4) (AX.t 3)) none 1 true false), (AOp.mk (some 13) (AK.mv (AX.t 1)) none 2 true false), (AOp.mk (some 14) (AK.call 82 [(AX.t 12), (AX.t 13)]) none 3 false false), (AOp.mk (some 15) (AK.mv (AX.t 14)) none 4 true false), (AOp.mk (some 16) (AK.ld (some 4) (AX.t 3)) (some (15, true)) 5 true false), (AOp.mk (some 17) (AK.mv (AX.t 2)) (some (15, true)) 6 true false), (AOp.mk (some 18) (AK.call 82 [(AX.t 16), (AX.t 17)]) (some (15, true)) 7 false false), (AOp.mk (some 19) (AK.pick (AX.t 15) (AX.t 18) (AX.c (PV.val (Value.bool false)))) none 8 true false), (AOp.mk (some 20) (AK.mv (AX.t 19)) none 9 true false), (AOp.mk (some 21) (AK.mv (AX.t 1)) (some (20, true)) 10 true false), (AOp.mk (some 22) (AK.mv (AX.t 2)) (some (20, true)) 11 true false), (AOp.mk (some 23) (AK.bin false BinOp.neq (AX.t 21) (AX.t 22)) (some (20, true)) 12 true false), (AOp.mk (some 24) (AK.pick (AX.t 20) (AX.t 23) (AX.c (PV.val (Value.bool false)))) none 13 true false), (AOp.mk (some 25) (AK.call 81 [(AX.t 11), (AX.t 24)]) none 14 false true), (AOp.mk (some 10) (AK.mv (AX.t 25)) none 15 true true), (AOp.mk (some 26) (AK.ext (AX.t 10) 0) none 16 true false), (AOp.mk (some 27) (AK.ext (AX.t 10) 1) none 17 true false), (AOp.mk (some 8) (AK.mv (AX.t 26)) none 18 true false), (AOp.mk (some 9) (AK.mv (AX.t 27)) none 19 true true)]) (AC.seq (AC.seq (AC.ops [(AOp.mk (some 28) (AK.mv (AX.t 9)) none 0 false true), (AOp.mk (some 29) (AK.bin false BinOp.neq (AX.t 28) (AX.c (PV.val (Value.int IntKind.i64 0)))) none 1 false true)]) (AC.cond (AX.t 29) (AC.seq (AC.ops [(AOp.mk (some 30) (AK.mv (AX.t 9)) none 0 false true), (AOp.mk (some 6) (AK.mv (AX.c (PV.val (Value.bool false)))) none 1 false true), (AOp.mk (some 7) (AK.mv (AX.t 30)) none 2 false true)]) AC.ret) AC.skip)) (AC.seq (AC.ops [(AOp.mk (some 31) (AK.mv (AX.t 8)) none 0 false true), (AOp.mk (some 32) (AK.mv (AX.t 1)) none 1 false true), (AOp.mk (some 33) (AK.mv (AX.t 2)) none 2 false true), (AOp.mk (some 34) (AK.call 83 [(AX.t 31), (AX.t 32), (AX.t 33)]) none 3 false true), (AOp.mk (some 6) (AK.mv (AX.t 34)) none 4 false true), (AOp.mk (some 7) (AK.mv (AX.c (PV.val (Value.int IntKind.i64 0)))) none 5 false true)]) AC.ret))))
theorem ac47_ok : cCode Tryz.prog (fun _ => false) Tryz.f47.ntmps (Tryz.f47.body.getD .skip) = some ac47 := by kernel_rfl
theorem real_row {args : List PV} {i j x : Nat} {cs : List PV} {k k' : SK} {sz sz' : Nat} {es es' : List (List PV)} (h : ∃ g w vs, Agree g w ∧ ArgsP g args vs) (hi : args[i]? = some (.agg cs)) (hj : cs[j]? = some (.sl k sz es)) (hx : es[x]? = some [.sl k' sz' es']) : es'.length ≤ 140737488355328 := by
  obtain ⟨g, w, vs, hA, ha⟩ := h
  have hlt : i < vs.length := by rw [← ha.len]; exact (List.getElem?_eq_some_iff.1 hi).1
  have := ha.at_ i _ _ hi (List.getElem?_eq_getElem hlt)
  generalize vs[i] = v at this
  cases this with
  | agg _ us hl h1 hh =>
    have hlt2 : j < us.size := by rw [← hl]; exact (List.getElem?_eq_some_iff.1 hj).1
    have := hh j _ _ hj (Array.getElem?_eq_getElem hlt2)
    generalize us[j] = u at this
    cases this with
    | sl _ _ _ ad n c f hl hn hc hm hk hz hat hh =>
      have := hh x 0 _ _ hx rfl
      generalize f x 0 = y at this
      cases this with
      | sl _ _ _ ad2 n2 c2 f2 hl2 hn2 hc2 hm2 hk2 hz2 hat2 hh2 => omega
theorem real_nK {k k2 : SK} {b : MBook} {r : List PV} (h : ∃ g w vs, Agree g w ∧ ArgsP g (.agg (bookC k k2 b) :: r) vs) : nK b ≤ 140737488355328 := by
  unfold nK
  cases hm : b.makers with
  | nil => simp
  | cons x l =>
    have := real_row (i := 0) (j := 0) (x := 0) (es' := x.map fun y => [pi y]) (k' := .sh) (sz' := 1) h rfl rfl (by rw [hm]; rfl)
    rw [List.length_map] at this
    exact this
def errA (b : MBook) (known : Bool) : Int := if okBook b then (if known then 0 else 51) else 50
def errR (b : MBook) (known : Bool) : Int := if okBook b then (if known then (if rightB b then 0 else 52) else 51) else 50
theorem askedBook_sem (k k2 : SK) (b : MBook) (known : Bool) : Sem1 81 [.agg (bookC k k2 b), pb known] (.tup [if errA b known = 0 then bookP k k2 b else .nilp, pi (errA b known)]) := by
  refine semC_of_exec' mixed Tryz.func81 (by kernel_rfl) (by kernel_rfl) ac81_ok 2 rfl (by decide) [(.tmp 4), (.tmp 5)] (by kernel_rfl) ?_
  intro hr C hC hI
  unfold ac81
  simp only [go_sem, Nat.reduceBEq, Nat.reduceAdd]
  refine call_pure2 hC (Check_sem k k2 b) rfl (PVleL_refl _) ?_
  rintro r rfl
  simp only [go_sem, Nat.reduceBEq]
  by_cases ho : okBook b
  · rw [if_pos ho]
    refine ⟨fun h => absurd rfl h, fun _ => ?_⟩
    cases known
    · have he : errA b false = 51 := by unfold errA; rw [if_pos ho]; rfl
      rw [he]
      simp only [go_sem, Nat.reduceBEq]
      exact retQ_two rfl rfl rfl
    · have he : errA b true = 0 := by unfold errA; rw [if_pos ho]; rfl
      rw [he]
      simp only [go_sem, Nat.reduceBEq, Nat.reduceAdd]
      refine call_pure2 hC (bookOf_sem k k2 ho.1 (by have := ho.2; omega)) rfl (PVleL_refl _) ?_
      rintro r rfl
      simp only [go_sem, Nat.reduceBEq]
      exact retQ_two rfl rfl rfl
  · have he : errA b known = 50 := by unfold errA; rw [if_neg ho]
    rw [if_neg ho, he]
    refine ⟨fun _ => retQ_two rfl rfl rfl, fun h => absurd h (by decide)⟩
theorem lack_right {b : MBook} (ho : okC b) : lackB (seenN b) = !rightB b := by
  rw [Bool.eq_iff_iff, lack_iff, Bool.not_eq_true', Bool.eq_false_iff, Ne]
  unfold rightB
  rw [List.all_eq_true]
  constructor
  · rintro ⟨k, hk, h⟩ H
    rcases Nat.lt_or_ge k (nK b) with hkn | hkn
    · have := H k (List.mem_range.2 hkn)
      rw [h] at this
      simp at this
    · rw [seen_out ho hkn] at h
      cases h
  · intro H
    refine Classical.byContradiction fun hn => H fun k hk => ?_
    have hk := List.mem_range.1 hk
    rw [decide_eq_true_eq]
    intro h0
    exact hn ⟨k, by have := ho.2.1; omega, h0⟩
theorem rightBook_sem (k k2 : SK) (b : MBook) (known : Bool) : Sem1 78 [.agg (bookC k k2 b), pb known] (.tup [if errR b known = 0 then bookP k k2 b else .nilp, pi (errR b known)]) := by
  refine semC_of_exec' mixed Tryz.func78 (by kernel_rfl) (by kernel_rfl) ac78_ok 2 rfl (by decide) [(.tmp 4), (.tmp 5)] (by kernel_rfl) ?_
  intro hr C hC hI
  unfold ac78
  simp only [go_sem, Nat.reduceBEq, Nat.reduceAdd]
  refine call_pure2 hC (askedBook_sem k k2 b known) rfl (PVleL_refl _) ?_
  rintro r rfl
  simp only [go_sem, Nat.reduceBEq]
  by_cases ho : okBook b
  · have hl := lack_right ho.1
    cases known
    · have he : errA b false = 51 := by unfold errA; rw [if_pos ho]; rfl
      have he2 : errR b false = 51 := by unfold errR; rw [if_pos ho]; rfl
      rw [he, he2]
      simp only [go_sem, decide_true, not_false_eq_true, false_implies, true_implies, Int.reduceEq]
      exact retQ_two rfl rfl rfl
    · have he : errA b true = 0 := by unfold errA; rw [if_pos ho]; rfl
      rw [he, if_pos rfl]
      simp only [go_sem, Nat.reduceBEq, Nat.reduceAdd, Nat.reduceLeDiff, decide_false, not_true_eq_false, false_implies, true_implies]
      refine call_pure2 hC (lacksSome_sem (seenN b)) rfl (PVleL_refl _) ?_
      rintro r rfl
      simp only [go_sem, Nat.reduceBEq]
      rw [hl]
      cases hr2 : rightB b
      · have he2 : errR b true = 52 := by unfold errR; rw [if_pos ho, hr2]; rfl
        rw [he2]
        simp only [go_sem]
        exact retQ_two rfl rfl rfl
      · have he2 : errR b true = 0 := by unfold errR; rw [if_pos ho, hr2]; rfl
        rw [he2, if_pos rfl]
        simp only [go_sem, Nat.reduceBEq]
        exact retQ_two rfl rfl rfl
  · have he : errA b known = 50 := by unfold errA; rw [if_neg ho]
    have he2 : errR b known = 50 := by unfold errR; rw [if_neg ho]
    rw [he, he2]
    simp only [go_sem, decide_true, not_false_eq_true, false_implies, true_implies, Int.reduceEq]
    exact retQ_two rfl rfl rfl
theorem askP {C : Con} (hC : ∀ f args rd K s, SemP Tryz.prog Fence.wide f args rd K s → C.call f args rd K s) (k k2 : SK) (b : MBook) (known : Bool) {rd : List Nat} {K : AV → AS → Prop} {s : AS}
    (h1 : errA b known ≠ 0 → K (.p (.tup [.nilp, pi (errA b known)])) s) (h2 : errA b known = 0 → K (.p (.tup [bookP k k2 b, pi 0])) s) : C.call 81 [.p (.agg (bookC k k2 b)), .p (pb known)] rd K s := by
  refine call_pure2 hC (askedBook_sem k k2 b known) rfl (PVleL_refl _) ?_
  rintro r rfl
  by_cases he : errA b known = 0
  · rw [if_pos he, he]; exact h2 he
  · rw [if_neg he]; exact h1 he
theorem rightP {C : Con} (hC : ∀ f args rd K s, SemP Tryz.prog Fence.wide f args rd K s → C.call f args rd K s) (k k2 : SK) (b : MBook) (known : Bool) {rd : List Nat} {K : AV → AS → Prop} {s : AS}
    (h1 : errR b known ≠ 0 → K (.p (.tup [.nilp, pi (errR b known)])) s) (h2 : errR b known = 0 → K (.p (.tup [bookP k k2 b, pi 0])) s) : C.call 78 [.p (.agg (bookC k k2 b)), .p (pb known)] rd K s := by
  refine call_pure2 hC (rightBook_sem k k2 b known) rfl (PVleL_refl _) ?_
  rintro r rfl
  by_cases he : errR b known = 0
  · rw [if_pos he, he]; exact h2 he
  · rw [if_neg he]; exact h1 he
theorem errA_ok {b : MBook} {known : Bool} (h : errA b known = 0) : okBook b ∧ known = true := by
  unfold errA at h
  split at h
  · rename_i ho
    split at h
    · rename_i hk; exact ⟨ho, hk⟩
    · omega
  · omega
theorem errR_ok {b : MBook} {known : Bool} (h : errR b known = 0) : okBook b ∧ known = true ∧ rightB b = true := by
  unfold errR at h
  split at h
  · rename_i ho
    split at h
    · rename_i hk
      split at h
      · rename_i hr; exact ⟨ho, hk, hr⟩
      · omega
    · omega
  · omega
def okM (b : MBook) (n : Int) : Bool := decide (0 ≤ n ∧ n < b.makers.length)
def okK (b : MBook) (n : Int) : Bool := decide (0 ≤ n ∧ n < (nK b : Int))
theorem okM_nat {b : MBook} {n : Int} (h : okM b n = true) : ∃ m : Nat, n = m ∧ m < b.makers.length := by
  have := of_decide_eq_true h
  exact ⟨n.toNat, by omega, by omega⟩
theorem okK_nat {b : MBook} {n : Int} (h : okK b n = true) : ∃ m : Nat, n = m ∧ m < nK b := by
  have := of_decide_eq_true h
  exact ⟨n.toNat, by omega, by omega⟩
theorem Who_sem (k k2 : SK) (b : MBook) : Sem1 41 [.agg (bookC k k2 b)] (if errR b true = 0 then .tup [pis (natL (whoL b)), pi 0] else .tup [pis [], pi (errR b true)]) := by
  refine semC_of_exec' mixed Tryz.func41 (by kernel_rfl) (by kernel_rfl) ac41_ok 1 rfl (by decide) [(.tmp 2), (.tmp 3)] (by kernel_rfl) ?_
  intro hr C hC hI
  unfold ac41
  simp only [go_sem, Nat.reduceBEq, Nat.reduceAdd]
  refine rightP hC k k2 b true (fun hne => ?_) (fun h0 => ?_)
  · rw [if_neg hne]
    simp only [go_sem, Nat.reduceBEq, eq_true hne, decide_true]
    exact retQ_two_le rfl rfl (PVle.nil _ _ _) (PVle.refl _) rfl
  · obtain ⟨ho, -⟩ := errR_ok h0
    rw [if_pos h0]
    simp only [go_sem, Nat.reduceBEq, decide_false, not_true_eq_false]
    refine call_pure2 hC (possible_sem k k2 ho.1) rfl (PVleL_refl _) ?_
    rintro r rfl
    simp only [go_sem, Nat.reduceBEq]
    exact retQ_two_le rfl rfl (PVle.sh _ _ _) (PVle.refl _) rfl
def needsR (o : Option Nat) : PV := match o with | some z => .tup [pi (z : Nat), pi 0] | none => .tup [pi 0, pi 4]
theorem hasM_sem (k k2 : SK) (b : MBook) (n : Int) (hl : b.makers.length ≤ 140737488355328) : Sem1 82 [.agg (bookC k k2 b), pi n] (pb (okM b n)) := hasMaker_sem k k2 b n hl
theorem hasK_sem (k k2 : SK) (b : MBook) (n : Int) (hl : nK b ≤ 140737488355328) : Sem1 110 [.agg (bookC k k2 b), pi n] (pb (okK b n)) := hasKind_sem k k2 b n hl
theorem Changed_sem (k k2 : SK) (b : MBook) (n p : Int) : Sem1 178 [.agg (bookC k k2 b), pi n, pi p] (if errR b (okM b n && okK b p) = 0 then (if possB b n.toNat then .tup [pi (verdictI b n.toNat p.toNat), pi 0] else .tup [pi 0, pi 4]) else .tup [pi 0, pi (errR b (okM b n && okK b p))]) := by
  refine semC_of_exec' mixed Tryz.func178 (by kernel_rfl) (by kernel_rfl) ac178_ok 3 rfl (by decide) [(.tmp 6), (.tmp 7)] (by kernel_rfl) ?_
  intro hr C hC hI
  unfold ac178
  simp only [go_sem, Nat.reduceBEq, Nat.reduceAdd]
  have hlen := real_aggL (i := 0) (j := 0) hr rfl rfl
  rw [List.length_map] at hlen
  have hlk := real_nK hr
  refine call_pure2 hC (hasM_sem k k2 b n hlen) rfl (PVleL_refl _) ?_
  rintro r rfl
  simp only [go_sem, Nat.reduceBEq]
  cases hM : okM b n
  · have hne : errR b false ≠ 0 := fun h => by have := (errR_ok h).2.1; cases this
    rw [Bool.false_and, if_neg hne]
    simp only [go_sem, Nat.reduceBEq]
    refine rightP hC k k2 b false (fun hne => ?_) (fun h0 => absurd h0 hne)
    simp only [go_sem, Nat.reduceBEq, eq_true hne, decide_true]
    exact retQ_two rfl rfl rfl
  · rw [Bool.true_and]
    simp only [go_sem, Nat.reduceBEq, Nat.reduceAdd]
    refine call_pure2 hC (hasK_sem k k2 b p hlk) rfl (PVleL_refl _) ?_
    rintro r rfl
    simp only [go_sem, Nat.reduceBEq]
    refine rightP hC k k2 b (okK b p) (fun hne => ?_) (fun h0 => ?_)
    · rw [if_neg hne]
      simp only [go_sem, Nat.reduceBEq, eq_true hne, decide_true]
      exact retQ_two rfl rfl rfl
    · obtain ⟨ho, hk, -⟩ := errR_ok h0
      obtain ⟨m, rfl, hm⟩ := okM_nat hM
      obtain ⟨q, rfl, hq⟩ := okK_nat hk
      rw [if_pos h0, Int.toNat_natCast, Int.toNat_natCast]
      simp only [go_sem, Nat.reduceBEq, decide_false, not_true_eq_false]
      refine call_pure2 hC (isPossible_sem k k2 ho.1 hm) rfl (PVleL_refl _) ?_
      rintro r rfl
      simp only [go_sem, Nat.reduceBEq]
      cases possB b m
      · simp only [go_sem, Nat.reduceBEq]
        exact retQ_two rfl rfl rfl
      · simp only [go_sem, Nat.reduceBEq, Nat.reduceAdd, Nat.reduceLeDiff]
        refine call_pure2 hC (verdict_sem k k2 ho.1 hm hq) rfl (PVleL_refl _) ?_
        rintro r rfl
        simp only [go_sem, Nat.reduceBEq]
        exact retQ_two rfl rfl rfl
theorem Values_sem (k k2 : SK) (b : MBook) (p : Int) : Sem1 77 [.agg (bookC k k2 b), pi p] (if errR b (okK b p) = 0 then .tup [pis (natL (valuesL b p.toNat)), pi 0] else .tup [pis [], pi (errR b (okK b p))]) := by
  refine semC_of_exec' mixed Tryz.func77 (by kernel_rfl) (by kernel_rfl) ac77_ok 2 rfl (by decide) [(.tmp 4), (.tmp 5)] (by kernel_rfl) ?_
  intro hr C hC hI
  unfold ac77
  simp only [go_sem, Nat.reduceBEq, Nat.reduceAdd]
  have hlk := real_nK hr
  refine call_pure2 hC (hasK_sem k k2 b p hlk) rfl (PVleL_refl _) ?_
  rintro r rfl
  simp only [go_sem, Nat.reduceBEq]
  refine rightP hC k k2 b (okK b p) (fun hne => ?_) (fun h0 => ?_)
  · rw [if_neg hne]
    simp only [go_sem, Nat.reduceBEq, eq_true hne, decide_true]
    exact retQ_two_le rfl rfl (PVle.nil _ _ _) (PVle.refl _) rfl
  · obtain ⟨ho, hk, -⟩ := errR_ok h0
    obtain ⟨q, rfl, hq⟩ := okK_nat hk
    rw [if_pos h0, Int.toNat_natCast]
    simp only [go_sem, Nat.reduceBEq, decide_false, not_true_eq_false]
    refine call_pure2 hC (values_sem k k2 ho.1 hq) rfl (PVleL_refl _) ?_
    rintro r rfl
    simp only [go_sem, Nat.reduceBEq]
    exact retQ_two_le rfl rfl (PVle.sh _ _ _) (PVle.refl _) rfl
def okT (b : MBook) (n p : Int) : Bool := okM b n && okM b p && decide (n ≠ p)
theorem Told_sem (k k2 : SK) (b : MBook) (n p : Int) : Sem1 47 [.agg (bookC k k2 b), pi n, pi p] (if errA b (okT b n p) = 0 then .tup [pb (!bothB b n.toNat p.toNat), pi 0] else .tup [pb false, pi (errA b (okT b n p))]) := by
  unfold okT
  refine semC_of_exec' mixed Tryz.func47 (by kernel_rfl) (by kernel_rfl) ac47_ok 3 rfl (by decide) [(.tmp 6), (.tmp 7)] (by kernel_rfl) ?_
  intro hr C hC hI
  unfold ac47
  simp only [go_sem, Nat.reduceBEq, Nat.reduceAdd]
  have hlen := real_aggL (i := 0) (j := 0) hr rfl rfl
  rw [List.length_map] at hlen
  have bad : errA b false ≠ 0 := fun h => by have := (errA_ok h).2; cases this
  refine call_pure2 hC (hasM_sem k k2 b n hlen) rfl (PVleL_refl _) ?_
  rintro r rfl
  simp only [go_sem, Nat.reduceBEq]
  cases hM : okM b n
  · rw [Bool.false_and, Bool.false_and, if_neg bad]
    simp only [go_sem, Nat.reduceBEq]
    refine askP hC k k2 b false (fun hne => ?_) (fun h0 => absurd h0 bad)
    simp only [go_sem, Nat.reduceBEq, eq_true hne, decide_true]
    exact retQ_two rfl rfl rfl
  · rw [Bool.true_and]
    simp only [go_sem, Nat.reduceBEq, Nat.reduceAdd]
    refine call_pure2 hC (hasM_sem k k2 b p hlen) rfl (PVleL_refl _) ?_
    rintro r rfl
    simp only [go_sem, Nat.reduceBEq]
    cases hP : okM b p
    · rw [Bool.false_and, if_neg bad]
      simp only [go_sem, Nat.reduceBEq]
      refine askP hC k k2 b false (fun hne => ?_) (fun h0 => absurd h0 bad)
      simp only [go_sem, Nat.reduceBEq, eq_true hne, decide_true]
      exact retQ_two rfl rfl rfl
    · rw [Bool.true_and]
      simp only [go_sem, Nat.reduceBEq]
      refine askP hC k k2 b (decide (n ≠ p)) (fun hne => ?_) (fun h0 => ?_)
      · rw [if_neg hne]
        simp only [go_sem, Nat.reduceBEq, eq_true hne, decide_true]
        exact retQ_two rfl rfl rfl
      · obtain ⟨ho, -⟩ := errA_ok h0
        obtain ⟨m, rfl, hm⟩ := okM_nat hM
        obtain ⟨u, rfl, hu⟩ := okM_nat hP
        rw [if_pos h0, Int.toNat_natCast, Int.toNat_natCast]
        simp only [go_sem, Nat.reduceBEq, decide_false, not_true_eq_false]
        refine call_pure2 hC (areTold_sem k k2 ho.1 hm hu) rfl (PVleL_refl _) ?_
        rintro r rfl
        simp only [go_sem, Nat.reduceBEq]
        exact retQ_two rfl rfl rfl
end Go.Proofs.YtlcpplkbmlmmbaaGreat.Mk
namespace Go.Proofs.YtlcpplkbmlmmbaaGreat.Mk.Me
open Go.RowKit Ls
def setP (p : Nat → Bool) (n : Nat) : Nat := (List.range n).foldl (fun s k => if p k then s ||| 2 ^ k else s) 0
theorem setP_next (p : Nat → Bool) (n : Nat) : setP p (n + 1) = if p n then setP p n ||| 2 ^ n else setP p n := by
  unfold setP
  rw [List.range_succ, List.foldl_append]
  rfl
theorem bit_pow (k i : Nat) : (2 ^ k).testBit i = decide (k = i) := Nat.testBit_two_pow
theorem or_bit (s k i : Nat) : (s ||| 2 ^ k).testBit i = (s.testBit i || decide (k = i)) := by rw [Nat.testBit_or, bit_pow]
theorem setP_bit (p : Nat → Bool) (i : Nat) : ∀ n, (setP p n).testBit i = (decide (i < n) && p i)
  | 0 => by simp [setP]
  | n + 1 => by
    rw [setP_next]
    have ih := setP_bit p i n
    by_cases e : n = i
    · subst e
      cases hp : p n
      · rw [if_neg (by decide), ih]
        simp [hp]
      · rw [if_pos rfl, or_bit, ih]
        simp
    · have h2 : decide (i < n + 1) = decide (i < n) := decide_eq_decide.2 (by omega)
      split
      · rw [or_bit, ih, h2, decide_eq_false e, Bool.or_false]
      · rw [ih, h2]
theorem setP_lt (p : Nat → Bool) (n : Nat) : setP p n < 2 ^ n := by
  refine Nat.lt_of_not_le fun h => ?_
  have h0 : setP p n ≠ 0 := fun e => by rw [e] at h; have := Nat.two_pow_pos n; omega
  obtain ⟨i, hi, hb⟩ := Nat.exists_ge_and_testBit_of_ge_two_pow h
  rw [setP_bit] at hb
  simp at hb
  omega
def chg2 (can : Nat) (rep : Int) (K : Nat) : Nat → Nat → List Nat
  | 0, _ => []
  | r + 1, t => (if can.testBit (K - (r + 1)) && !t.testBit (K - (r + 1)) && decide ((cntN (t ||| 2 ^ (K - (r + 1))) 6 : Int) ≤ rep) then (t ||| 2 ^ (K - (r + 1))) :: chg2 can rep K r (t ||| 2 ^ (K - (r + 1))) else []) ++ chg2 can rep K r t
theorem cnt_mono {s t n : Nat} (h : ∀ i, s.testBit i = true → t.testBit i = true) : cntN s n ≤ cntN t n := filt_le fun k _ hk => h k hk
theorem or_old {s k : Nat} (h : s.testBit k = true) : s ||| 2 ^ k = s := by
  refine Nat.eq_of_testBit_eq fun i => ?_
  rw [or_bit]
  by_cases e : k = i
  · subst e
    rw [h]
    rfl
  · rw [decide_eq_false e, Bool.or_false]
theorem mem_chg {can : Nat} {rep : Int} {K : Nat} : ∀ (r : Nat) (t s : Nat), r ≤ K → (s ∈ t :: chg2 can rep K r t ↔ (∀ i, t.testBit i = true → s.testBit i = true) ∧ (∀ i, s.testBit i = true → t.testBit i = true ∨ (K - r ≤ i ∧ i < K ∧ can.testBit i = true)) ∧ (s = t ∨ (cntN s 6 : Int) ≤ rep))
  | 0, t, s, _ => by
    rw [chg2, List.mem_singleton]
    constructor
    · rintro rfl
      exact ⟨fun _ h => h, fun _ h => .inl h, .inl rfl⟩
    · rintro ⟨h1, h2, -⟩
      refine Nat.eq_of_testBit_eq fun i => ?_
      rw [Bool.eq_iff_iff]
      refine ⟨fun h => ?_, h1 i⟩
      rcases h2 i h with h | ⟨h3, h4, -⟩
      · exact h
      · omega
  | r + 1, t, s, hr => by
    obtain ⟨q, hq⟩ : ∃ q, q = K - (r + 1) := ⟨_, rfl⟩
    have ih1 := mem_chg (can := can) (rep := rep) (K := K) r (t ||| 2 ^ q) s (by omega)
    have ih2 := mem_chg (can := can) (rep := rep) (K := K) r t s (by omega)
    have e : s ∈ t :: chg2 can rep K (r + 1) t ↔ ((can.testBit q && !t.testBit q && decide ((cntN (t ||| 2 ^ q) 6 : Int) ≤ rep)) = true ∧ s ∈ (t ||| 2 ^ q) :: chg2 can rep K r (t ||| 2 ^ q)) ∨ s ∈ t :: chg2 can rep K r t := by
      rw [chg2, ← hq]
      cases (can.testBit q && !t.testBit q && decide ((cntN (t ||| 2 ^ q) 6 : Int) ≤ rep))
      · simp
      · simp only [if_true, List.mem_cons, List.mem_append, true_and]
        constructor
        · rintro (h | (h | h) | h)
          · exact .inr (.inl h)
          · exact .inl (.inl h)
          · exact .inl (.inr h)
          · exact .inr (.inr h)
        · rintro ((h | h) | h | h)
          · exact .inr (.inl (.inl h))
          · exact .inr (.inl (.inr h))
          · exact .inl h
          · exact .inr (.inr h)
    rw [e, ih1, ih2]
    simp only [Bool.and_eq_true, Bool.not_eq_true', decide_eq_true_eq]
    constructor
    · rintro (⟨⟨⟨hc, hn⟩, hk⟩, h1, h2, h3⟩ | ⟨h1, h2, h3⟩)
      · refine ⟨fun i hi => h1 i (by rw [or_bit, hi]; rfl), fun i hi => ?_, .inr ?_⟩
        · rcases h2 i hi with h | ⟨h4, h5, h6⟩
          · rw [or_bit, Bool.or_eq_true, decide_eq_true_eq] at h
            rcases h with h | rfl
            · exact .inl h
            · exact .inr ⟨by omega, by omega, hc⟩
          · exact .inr ⟨by omega, h5, h6⟩
        · rcases h3 with rfl | h3
          · exact hk
          · exact h3
      · refine ⟨h1, fun i hi => ?_, h3⟩
        rcases h2 i hi with h | ⟨h4, h5, h6⟩
        · exact .inl h
        · exact .inr ⟨by omega, h5, h6⟩
    · rintro ⟨h1, h2, h3⟩
      by_cases hs : s.testBit q = true ∧ t.testBit q = false
      · obtain ⟨hs1, hs2⟩ := hs
        have hne : s ≠ t := fun e => by rw [e, hs2] at hs1; cases hs1
        have hcnt := h3.resolve_left hne
        have hsub : ∀ i, (t ||| 2 ^ q).testBit i = true → s.testBit i = true := fun i hi => by
          rw [or_bit, Bool.or_eq_true, decide_eq_true_eq] at hi
          rcases hi with hi | rfl
          · exact h1 i hi
          · exact hs1
        have hcan : can.testBit q = true := by
          rcases h2 q hs1 with h | ⟨-, -, h⟩
          · rw [hs2] at h; cases h
          · exact h
        refine .inl ⟨⟨⟨hcan, hs2⟩, ?_⟩, hsub, fun i hi => ?_, .inr hcnt⟩
        · have := cnt_mono (n := 6) hsub
          omega
        · rw [or_bit]
          by_cases e : q = i
          · exact .inl (by simp [e])
          · rcases h2 i hi with h | ⟨h4, h5, h6⟩
            · exact .inl (by rw [h]; rfl)
            · exact .inr ⟨by omega, h5, h6⟩
      · refine .inr ⟨h1, fun i hi => ?_, h3⟩
        rcases h2 i hi with h | ⟨h4, h5, h6⟩
        · exact .inl h
        · by_cases e : i = q
          · refine .inl ?_
            rw [e] at hi ⊢
            cases ht : t.testBit q
            · exact absurd ⟨hi, ht⟩ hs
            · rfl
          · exact .inr ⟨by omega, h5, h6⟩
theorem cnt_six {c n : Nat} (hn : n ≤ 6) (hc : c < 2 ^ n) : cntN c 6 = cntN c n := by
  unfold cntN
  rw [show (6 : Nat) = n + (6 - n) by omega, List.range_add, List.filter_append]
  have : ((List.range (6 - n)).map (n + ·)).filter c.testBit = [] := by
    rw [List.filter_eq_nil_iff]
    intro k hk
    obtain ⟨q, -, rfl⟩ := List.mem_map.1 hk
    rw [Nat.testBit_lt_two_pow (Nat.lt_of_lt_of_le hc (Nat.pow_le_pow_right (by decide) (by omega)))]
    decide
  rw [this, List.append_nil]
def canQ (b : MBook) (m q : Nat) : Bool := zeroB b m q || (!(fixN b).testBit q && decide ((zeros b m : Int) < b.repairs))
def mustS (b : MBook) (m : Nat) : Nat := setP (zeroB b m) (nK b)
def canS (b : MBook) (m : Nat) : Nat := setP (canQ b m) (nK b)
def setsL (b : MBook) (m : Nat) : List Nat := mustS b m :: chg2 (canS b m) b.repairs (nK b) (nK b) (mustS b m)
structure CSet (b : MBook) (m s : Nat) : Prop where
  must : ∀ q, q < nK b → zeroB b m q = true → s.testBit q = true
  can : ∀ q, s.testBit q = true → q < nK b ∧ canQ b m q = true
  cnt : (cntN s (nK b) : Int) ≤ b.repairs
theorem cnt_must (b : MBook) (m : Nat) : cntN (mustS b m) (nK b) = zeros b m := by
  unfold zeros
  refine cnt_bits fun k hk => ?_
  unfold mustS
  rw [setP_bit, decide_eq_true hk, Bool.true_and]
theorem CSet.lt {b : MBook} {m s : Nat} (h : CSet b m s) : s < 2 ^ nK b := by
  refine Nat.lt_of_not_le fun h2 => ?_
  obtain ⟨i, hi, hb⟩ := Nat.exists_ge_and_testBit_of_ge_two_pow h2
  have := (h.can i hb).1
  omega
theorem mem_sets {b : MBook} (h6 : nK b ≤ 6) {m s : Nat} (hp : possB b m = true) : s ∈ setsL b m ↔ CSet b m s := by
  have h3 := (poss_eq.1 hp).2.2
  have hm6 : cntN (mustS b m) 6 = zeros b m := by rw [cnt_six h6 (show mustS b m < 2 ^ nK b from setP_lt _ _), cnt_must]
  unfold setsL
  rw [mem_chg _ _ _ (Nat.le_refl _)]
  constructor
  · rintro ⟨h1, h2, hc⟩
    have hlt : ∀ q, s.testBit q = true → q < nK b ∧ canQ b m q = true := fun q hq => by
      rcases h2 q hq with h | ⟨-, h4, h5⟩
      · unfold mustS at h
        rw [setP_bit, Bool.and_eq_true, decide_eq_true_eq] at h
        exact ⟨h.1, by unfold canQ; rw [h.2]; rfl⟩
      · unfold canS at h5
        rw [setP_bit, Bool.and_eq_true] at h5
        exact ⟨h4, h5.2⟩
    have hs : s < 2 ^ nK b := by
      refine Nat.lt_of_not_le fun h2 => ?_
      obtain ⟨i, hi, hb⟩ := Nat.exists_ge_and_testBit_of_ge_two_pow h2
      have := (hlt i hb).1
      omega
    refine ⟨fun q hq hz => h1 q ?_, hlt, ?_⟩
    · unfold mustS
      rw [setP_bit, decide_eq_true hq, hz]
      rfl
    · rw [← cnt_six h6 hs]
      rcases hc with rfl | hc
      · rw [hm6]
        exact h3
      · exact hc
  · intro h
    refine ⟨fun q hq => ?_, fun q hq => ?_, .inr ?_⟩
    · unfold mustS at hq
      rw [setP_bit, Bool.and_eq_true, decide_eq_true_eq] at hq
      exact h.must q hq.1 hq.2
    · obtain ⟨h4, h5⟩ := h.can q hq
      refine .inr ⟨by omega, h4, ?_⟩
      unfold canS
      rw [setP_bit, decide_eq_true h4, h5]
      rfl
    · rw [cnt_six h6 h.lt]
      exact h.cnt
theorem sets_len (b : MBook) (m : Nat) : (setsL b m).length ≤ 2 ^ nK b := by
  have : ∀ (can : Nat) (rep : Int) (K r t : Nat), (chg2 can rep K r t).length + 1 ≤ 2 ^ r := by
    intro can rep K r
    induction r with
    | zero => intro t; simp [chg2]
    | succ r ih =>
      intro t
      have h1 := ih t
      have h2 := ih (t ||| 2 ^ (K - (r + 1)))
      rw [chg2, List.length_append, Nat.pow_succ]
      split
      · rw [List.length_cons]; omega
      · rw [List.length_nil]; omega
  have := this (canS b m) b.repairs (nK b) (nK b) (mustS b m)
  unfold setsL
  rw [List.length_cons]
  exact this
theorem sets_lt {b : MBook} {m s : Nat} (h : s ∈ setsL b m) : s < 2 ^ nK b := by
  obtain ⟨-, h2, -⟩ := (mem_chg _ _ _ (Nat.le_refl _)).1 h
  refine Nat.lt_of_not_le fun h3 => ?_
  obtain ⟨i, hi, hb⟩ := Nat.exists_ge_and_testBit_of_ge_two_pow h3
  rcases h2 i hb with h | ⟨-, h4, -⟩
  · unfold mustS at h
    rw [setP_bit, Bool.and_eq_true, decide_eq_true_eq] at h
    omega
  · omega
def ddupF {α : Type} [DecidableEq α] (acc : List α) (x : α) : List α := if x ∈ acc then acc else acc ++ [x]
def ddup {α : Type} [DecidableEq α] (l : List α) : List α := l.foldl ddupF []
theorem ddup_fold {α : Type} [DecidableEq α] : ∀ (l acc : List α), (l.foldl ddupF acc).Sublist (acc ++ l) ∧ ∀ x, x ∈ l.foldl ddupF acc ↔ x ∈ acc ∨ x ∈ l
  | [], acc => ⟨by simp, by simp⟩
  | y :: l, acc => by
    obtain ⟨h1, h2⟩ := ddup_fold l (ddupF acc y)
    rw [List.foldl_cons]
    by_cases hy : y ∈ acc
    · have e : ddupF acc y = acc := if_pos hy
      rw [e] at h1 h2 ⊢
      refine ⟨h1.trans (List.Sublist.append_left (List.sublist_cons_self ..) _), fun x => ?_⟩
      rw [h2, List.mem_cons]
      constructor
      · rintro (h | h)
        · exact .inl h
        · exact .inr (.inr h)
      · rintro (h | rfl | h)
        · exact .inl h
        · exact .inl hy
        · exact .inr h
    · have e : ddupF acc y = acc ++ [y] := if_neg hy
      rw [e] at h1 h2 ⊢
      refine ⟨by simpa using h1, fun x => ?_⟩
      rw [h2, List.mem_append, List.mem_singleton, List.mem_cons, or_assoc]
theorem ddup_mem {α : Type} [DecidableEq α] {l : List α} {x : α} : x ∈ ddup l ↔ x ∈ l := by
  unfold ddup
  rw [(ddup_fold l []).2]
  simp
theorem ddup_sub {α : Type} [DecidableEq α] (l : List α) : (ddup l).Sublist l := by
  have := (ddup_fold l []).1
  rwa [List.nil_append] at this
end Go.Proofs.YtlcpplkbmlmmbaaGreat.Mk.Me
namespace Go.Proofs.YtlcpplkbmlmmbaaGreat.Mk.Me
open Go.RowKit Ls
structure Job where
  kind : Int
  hl : Int
  hh : Int
  pl : Int
  ph : Int
  cap : Int
structure EBook where
  mb : MBook
  jobs : List Job
  rate : Int
  extra : List Int
  coins : List Int
def okJob (b : EBook) (j : Job) : Prop := (0 ≤ j.kind ∧ j.kind < (nK b.mb : Int)) ∧ (0 ≤ j.hl ∧ j.hl ≤ j.hh ∧ j.hh ≤ 20 ∧ j.hh - j.hl ≤ 3) ∧ (0 ≤ j.pl ∧ j.pl ≤ j.ph ∧ j.ph ≤ 99 ∧ j.ph - j.pl ≤ 4) ∧ (-1 ≤ j.cap ∧ j.cap ≤ 999)
instance (b : EBook) (j : Job) : Decidable (okJob b j) := by unfold okJob; exact inferInstance
def okTail : Int → List Int → Prop
  | _, [] => True
  | x, y :: l => (x + 1 ≤ y ∧ y ≤ 240) ∧ okTail y l
instance decTail : ∀ (x : Int) (l : List Int), Decidable (okTail x l)
  | _, [] => isTrue trivial
  | x, y :: l => by
    have := decTail y l
    unfold okTail
    exact inferInstance
def okCoins : List Int → Prop
  | [] => False
  | x :: l => (x :: l).length ≤ 4 ∧ x = 1 ∧ okTail x l
instance (l : List Int) : Decidable (okCoins l) := by
  cases l with
  | nil => exact isFalse fun h => h
  | cons x l => unfold okCoins; exact inferInstance
def okE (b : EBook) : Prop := okBook b.mb ∧ (1 ≤ b.jobs.length ∧ b.jobs.length ≤ 4) ∧ b.extra.length = b.mb.makers.length ∧ (∀ j ∈ b.jobs, okJob b j) ∧ (∀ x ∈ b.extra, 0 ≤ x ∧ x ≤ 50) ∧ (0 ≤ b.rate ∧ b.rate ≤ 20) ∧ okCoins b.coins
instance (b : EBook) : Decidable (okE b) := by unfold okE; exact inferInstance
def mendS (b : EBook) : Nat := b.jobs.foldl (fun s j => s ||| 2 ^ j.kind.toNat) 0
def allE (b : EBook) : List (Nat × Nat) := (whoL b.mb).flatMap fun m => (setsL b.mb m).map fun s => (m, s &&& mendS b)
def known (b : EBook) : List (Nat × Nat) := ddup (allE b)
theorem mem_known {b : EBook} (h6 : nK b.mb ≤ 6) {m s : Nat} : (m, s) ∈ known b ↔ ∃ c, m ∈ whoL b.mb ∧ CSet b.mb m c ∧ s = c &&& mendS b := by
  unfold known
  rw [ddup_mem]
  unfold allE
  rw [List.mem_flatMap]
  constructor
  · rintro ⟨m', hm, h⟩
    obtain ⟨c, hc, e⟩ := List.mem_map.1 h
    cases e
    exact ⟨c, hm, (mem_sets h6 (mem_who.1 hm).2).1 hc, rfl⟩
  · rintro ⟨c, hm, hc, rfl⟩
    exact ⟨m, hm, List.mem_map.2 ⟨c, (mem_sets h6 (mem_who.1 hm).2).2 hc, rfl⟩⟩
theorem known_who {b : EBook} {t : Nat × Nat} (h : t ∈ known b) : t.1 ∈ whoL b.mb := by
  unfold known at h
  rw [ddup_mem] at h
  unfold allE at h
  obtain ⟨m, hm, h⟩ := List.mem_flatMap.1 h
  obtain ⟨c, hc, rfl⟩ := List.mem_map.1 h
  exact hm
theorem who_known {b : EBook} {m : Nat} (h : m ∈ whoL b.mb) : ∃ s, (m, s) ∈ known b := by
  refine ⟨mustS b.mb m &&& mendS b, ?_⟩
  unfold known
  rw [ddup_mem]
  unfold allE
  exact List.mem_flatMap.2 ⟨m, h, List.mem_map.2 ⟨mustS b.mb m, List.mem_cons_self .., rfl⟩⟩
theorem known_ne {b : EBook} (h : whoL b.mb ≠ []) : known b ≠ [] := by
  obtain ⟨m, l, e⟩ := List.exists_cons_of_ne_nil h
  obtain ⟨s, hs⟩ := who_known (b := b) (m := m) (by rw [e]; exact List.mem_cons_self ..)
  intro e2
  rw [e2] at hs
  exact absurd hs (by simp)
theorem allE_len {b : EBook} (ho : okC b.mb) : (allE b).length ≤ 320 := by
  have h1 := flat_len (f := fun m => (setsL b.mb m).map fun s => (m, s &&& mendS b)) (m := 64) (fun m => by
    rw [List.length_map]
    exact Nat.le_trans (sets_len b.mb m) (pow_le64 ho)) (whoL b.mb)
  have h2 := who_len b.mb
  have h3 := ho.1.2
  unfold allE
  omega
theorem known_len {b : EBook} (ho : okC b.mb) : (known b).length ≤ 320 := Nat.le_trans (ddup_sub (allE b)).length_le (allE_len ho)
def extraI (b : EBook) (t : Nat × Nat) (j : Job) : Int := if t.2.testBit j.kind.toNat then 0 else b.extra.getD t.1 0
def costI (b : EBook) (t : Nat × Nat) (j : Job) (h p : Int) : Int := h * b.rate + p + extraI b t j
def paidI (j : Job) (c : Int) : Int := if j.cap = -1 then c else min c j.cap
def shareI (w : Nat) (j : Job) (c : Int) : Int := if w = 0 then c else if w = 1 then paidI j c else c - paidI j c
def sumI (l : List Int) : Int := l.foldl (· + ·) 0
theorem sum_fold : ∀ (l : List Int) (s : Int), l.foldl (· + ·) s = s + sumI l
  | [], s => by simp [sumI]
  | x :: l, s => by
    have h1 := sum_fold l (s + x)
    have h2 := sum_fold l (0 + x)
    have h3 : sumI (x :: l) = l.foldl (· + ·) (0 + x) := rfl
    rw [List.foldl_cons, h1, h3, h2]
    omega
theorem sum_cons (x : Int) (l : List Int) : sumI (x :: l) = x + sumI l := by
  have := sum_fold l (0 + x)
  have h3 : sumI (x :: l) = l.foldl (· + ·) (0 + x) := rfl
  omega
theorem sum_app (l : List Int) (x : Int) : sumI (l ++ [x]) = sumI l + x := by
  unfold sumI
  rw [List.foldl_append]
  rfl
theorem sum_take {l : List Int} {i : Nat} (h : i < l.length) : sumI (l.take (i + 1)) = sumI (l.take i) + l[i] := by
  rw [List.take_succ_eq_append_getElem h, sum_app]
theorem sum_bound {m : Int} : ∀ {l : List Int}, (∀ x ∈ l, 0 ≤ x ∧ x ≤ m) → 0 ≤ sumI l ∧ sumI l ≤ l.length * m
  | [], _ => by simp [sumI]
  | x :: l, h => by
    have h1 := h x (List.mem_cons_self ..)
    have h2 := sum_bound (m := m) (l := l) fun y hy => h y (List.mem_cons_of_mem _ hy)
    rw [sum_cons, List.length_cons]
    have e : ((l.length + 1 : Nat) : Int) * m = l.length * m + m := by rw [Int.natCast_add, Int.add_mul]; omega
    omega
theorem paid_le {j : Job} (hj : -1 ≤ j.cap) {c : Int} (hc : 0 ≤ c) : 0 ≤ paidI j c ∧ paidI j c ≤ c := by
  unfold paidI
  split <;> omega
theorem share_le {j : Job} (hj : -1 ≤ j.cap) (w : Nat) {c : Int} (hc : 0 ≤ c) : 0 ≤ shareI w j c ∧ shareI w j c ≤ c := by
  have := paid_le hj hc
  unfold shareI
  split
  · omega
  · split <;> omega
theorem extra_le {b : EBook} (ho : okE b) (t : Nat × Nat) (j : Job) : 0 ≤ extraI b t j ∧ extraI b t j ≤ 50 := by
  unfold extraI
  split
  · omega
  · by_cases h : t.1 < b.extra.length
    · rw [List.getD_eq_getElem?_getD, List.getElem?_eq_getElem h]
      exact ho.2.2.2.2.1 _ (List.getElem_mem h)
    · rw [List.getD_eq_getElem?_getD, List.getElem?_eq_none (by omega)]
      decide
theorem mul_mono {a c r : Int} (hr : 0 ≤ r) (h : a ≤ c) : a * r ≤ c * r := Int.mul_le_mul_of_nonneg_right h hr
theorem cost_le {b : EBook} (ho : okE b) (t : Nat × Nat) (j : Job) {h p : Int} (h1 : 0 ≤ h ∧ h ≤ 20) (h2 : 0 ≤ p ∧ p ≤ 99) : (0 ≤ h * b.rate ∧ h * b.rate ≤ 400) ∧ 0 ≤ costI b t j h p ∧ costI b t j h p ≤ 549 := by
  have hr := ho.2.2.2.2.2.1
  have h3 := extra_le ho t j
  have h4 : 0 ≤ h * b.rate := Int.mul_nonneg h1.1 hr.1
  have h5 : h * b.rate ≤ 20 * 20 := Int.le_trans (mul_mono hr.1 h1.2) (by omega)
  unfold costI
  omega
def endH (lo : Bool) (j : Job) : Int := if lo then j.hl else j.hh
def endPt (lo : Bool) (j : Job) : Int := if lo then j.pl else j.ph
def eachI (lo : Bool) (b : EBook) (w : Nat) (t : Nat × Nat) (j : Job) : Int := shareI w j (costI b t j (endH lo j) (endPt lo j))
def jobsI (lo : Bool) (b : EBook) (w : Nat) (js : List Job) (t : Nat × Nat) : Int := sumI (js.map (eachI lo b w t))
def minF : List Int → Int
  | [] => 0
  | x :: l => l.foldl min x
def maxF : List Int → Int
  | [] => 0
  | x :: l => l.foldl max x
def ampl (lo : Bool) (l : List Int) : Int := if lo then minF l else maxF l
def outI (lo : Bool) (b : EBook) (w : Nat) (js : List Job) : Int := ampl lo ((known b).map (jobsI lo b w js))
theorem foldl_min : ∀ (l : List Int) (x : Int), (l.foldl min x ≤ x ∧ ∀ y ∈ l, l.foldl min x ≤ y) ∧ (l.foldl min x = x ∨ l.foldl min x ∈ l)
  | [], x => by simp
  | y :: l, x => by
    obtain ⟨⟨h1, h2⟩, h3⟩ := foldl_min l (min x y)
    rw [List.foldl_cons]
    refine ⟨⟨by omega, fun z hz => ?_⟩, ?_⟩
    · rcases List.mem_cons.1 hz with rfl | hz
      · omega
      · exact h2 z hz
    · rcases h3 with h3 | h3
      · rw [h3]
        by_cases e : x ≤ y
        · exact .inl (by omega)
        · exact .inr (List.mem_cons.2 (.inl (by omega)))
      · exact .inr (List.mem_cons_of_mem _ h3)
theorem foldl_max : ∀ (l : List Int) (x : Int), (x ≤ l.foldl max x ∧ ∀ y ∈ l, y ≤ l.foldl max x) ∧ (l.foldl max x = x ∨ l.foldl max x ∈ l)
  | [], x => by simp
  | y :: l, x => by
    obtain ⟨⟨h1, h2⟩, h3⟩ := foldl_max l (max x y)
    rw [List.foldl_cons]
    refine ⟨⟨by omega, fun z hz => ?_⟩, ?_⟩
    · rcases List.mem_cons.1 hz with rfl | hz
      · omega
      · exact h2 z hz
    · rcases h3 with h3 | h3
      · rw [h3]
        by_cases e : y ≤ x
        · exact .inl (by omega)
        · exact .inr (List.mem_cons.2 (.inl (by omega)))
      · exact .inr (List.mem_cons_of_mem _ h3)
theorem min_facts {l : List Int} (h : l ≠ []) : minF l ∈ l ∧ ∀ y ∈ l, minF l ≤ y := by
  obtain ⟨x, r, rfl⟩ := List.exists_cons_of_ne_nil h
  obtain ⟨⟨h1, h2⟩, h3⟩ := foldl_min r x
  refine ⟨List.mem_cons.2 h3, fun y hy => ?_⟩
  rcases List.mem_cons.1 hy with rfl | hy
  · exact h1
  · exact h2 y hy
theorem max_facts {l : List Int} (h : l ≠ []) : maxF l ∈ l ∧ ∀ y ∈ l, y ≤ maxF l := by
  obtain ⟨x, r, rfl⟩ := List.exists_cons_of_ne_nil h
  obtain ⟨⟨h1, h2⟩, h3⟩ := foldl_max r x
  refine ⟨List.mem_cons.2 h3, fun y hy => ?_⟩
  rcases List.mem_cons.1 hy with rfl | hy
  · exact h1
  · exact h2 y hy
end Go.Proofs.YtlcpplkbmlmmbaaGreat.Mk.Me
