/- Contracts of stand's statements: the chapter's books and examples. Contracts of stand's statements: the chapter's examples hold. Contracts of stand's statements: which books are sound. Contracts of stand, of sound books. -/
import Derived.Test.YtaejmbmkkdkliaaGa21
namespace Go.Proofs.Ytaejmbmkkdkliaa
open Go.RowKit
def ac47 : AC := (AC.seq (AC.ops [(AOp.mk (some 6) (AK.new (PV.agg [(PV.val (Value.int IntKind.i64 0)), (PV.val (Value.int IntKind.i64 0)), (PV.val (Value.bool false))])) none 0 false true)]) (AC.seq (AC.ops [(AOp.mk (some 7) (AK.mv (AX.t 0)) none 0 false true), (AOp.mk (some 8) (AK.mv (AX.t 1)) none 1 false true), (AOp.mk (some 9) (AK.mv (AX.t 2)) none 2 false true), (AOp.mk (some 10) (AK.build [(PV.val (Value.int IntKind.i64 0)), (PV.val (Value.int IntKind.i64 0)), (PV.val (Value.bool false))] [(0, (1, (AX.t 7))), (1, (1, (AX.t 8))), (2, (1, (AX.t 9)))]) none 3 false true), (AOp.mk none (AK.st 3 (AX.t 6) (AX.t 10)) none 4 false true)]) AC.ret))
theorem ac47_ok : cCode Try.prog (fun _ => false) Try.f47.ntmps (Try.f47.body.getD .skip) = some ac47 := by kernel_rfl
def ac57 : AC := (AC.seq (AC.ops [(AOp.mk (some 2) (AK.new (PV.agg [(PV.val (Value.int IntKind.i64 0)), (PV.val (Value.int IntKind.i64 0)), (PV.val (Value.int IntKind.i64 0)), (PV.val (Value.int IntKind.i64 0)), (PV.sl SK.full 0 []), (PV.val (Value.int IntKind.i64 0)), (PV.val (Value.int IntKind.i64 0)), (PV.val (Value.int IntKind.i64 0)), (PV.val (Value.int IntKind.i64 0)), (PV.sl SK.full 0 [])])) none 0 false true)]) (AC.seq (AC.ops [(AOp.mk (some 3) (AK.call 46 [(AX.c (PV.val (Value.int IntKind.i64 20))), (AX.c (PV.val (Value.int IntKind.i64 22)))]) none 0 false true), (AOp.mk (some 4) (AK.build [(PV.val (Value.int IntKind.i64 0)), (PV.val (Value.int IntKind.i64 0)), (PV.val (Value.int IntKind.i64 0)), (PV.val (Value.int IntKind.i64 0))] [(0, (2, (AX.t 3))), (3, (1, (AX.c (PV.val (Value.int IntKind.i64 30)))))]) none 1 false true), (AOp.mk (some 5) (AK.call 46 [(AX.c (PV.val (Value.int IntKind.i64 4))), (AX.c (PV.val (Value.int IntKind.i64 5)))]) none 2 false true), (AOp.mk (some 6) (AK.build [(PV.val (Value.int IntKind.i64 0)), (PV.val (Value.int IntKind.i64 0)), (PV.val (Value.int IntKind.i64 0)), (PV.val (Value.int IntKind.i64 0))] [(0, (2, (AX.t 5))), (2, (1, (AX.c (PV.val (Value.int IntKind.i64 15))))), (3, (1, (AX.c (PV.val (Value.int IntKind.i64 40)))))]) none 3 false true), (AOp.mk (some 7) (AK.bslice false 70 4 2 [(PV.val (Value.int IntKind.i64 0)), (PV.val (Value.int IntKind.i64 0)), (PV.val (Value.int IntKind.i64 0)), (PV.val (Value.int IntKind.i64 0))] [(0, (4, (AX.t 4))), (4, (4, (AX.t 6)))]) none 4 false true), (AOp.mk (some 8) (AK.mv (AX.t 0)) none 5 false true), (AOp.mk (some 9) (AK.build [(PV.val (Value.int IntKind.i64 0)), (PV.val (Value.int IntKind.i64 0)), (PV.val (Value.int IntKind.i64 0)), (PV.val (Value.int IntKind.i64 0)), (PV.sl SK.full 0 []), (PV.val (Value.int IntKind.i64 0)), (PV.val (Value.int IntKind.i64 0)), (PV.val (Value.int IntKind.i64 0)), (PV.val (Value.int IntKind.i64 0)), (PV.sl SK.full 0 [])] [(0, (1, (AX.c (PV.val (Value.int IntKind.i64 0))))), (1, (1, (AX.c (PV.val (Value.int IntKind.i64 10))))), (2, (1, (AX.c (PV.val (Value.int IntKind.i64 4))))), (4, (1, (AX.t 7))), (5, (1, (AX.c (PV.val (Value.int IntKind.i64 (-4)))))), (6, (1, (AX.c (PV.val (Value.int IntKind.i64 36))))), (7, (1, (AX.c (PV.val (Value.int IntKind.i64 8))))), (8, (1, (AX.c (PV.val (Value.int IntKind.i64 30))))), (9, (1, (AX.t 8)))]) none 6 false true), (AOp.mk none (AK.st 10 (AX.t 2) (AX.t 9)) none 7 false true)]) AC.ret))
theorem ac57_ok : cCode Try.prog (fun _ => false) Try.f57.ntmps (Try.f57.body.getD .skip) = some ac57 := by kernel_rfl
def ac55 : AC := (AC.seq (AC.ops [(AOp.mk (some 0) (AK.new (PV.agg [(PV.val (Value.int IntKind.i64 0)), (PV.val (Value.int IntKind.i64 0)), (PV.val (Value.int IntKind.i64 0)), (PV.val (Value.int IntKind.i64 0)), (PV.sl SK.full 0 []), (PV.val (Value.int IntKind.i64 0)), (PV.val (Value.int IntKind.i64 0)), (PV.val (Value.int IntKind.i64 0)), (PV.val (Value.int IntKind.i64 0)), (PV.sl SK.full 0 [])])) none 0 false true)]) (AC.seq (AC.ops [(AOp.mk (some 1) (AK.call 57 [(AX.c (PV.sl SK.full 0 []))]) none 0 false true), (AOp.mk none (AK.st 10 (AX.t 0) (AX.t 1)) none 1 false true)]) AC.ret))
theorem ac55_ok : cCode Try.prog (fun _ => false) Try.f55.ntmps (Try.f55.body.getD .skip) = some ac55 := by kernel_rfl
def ac59 : AC := (AC.seq (AC.ops [(AOp.mk (some 0) (AK.new (PV.agg [(PV.val (Value.int IntKind.i64 0)), (PV.val (Value.int IntKind.i64 0)), (PV.val (Value.int IntKind.i64 0)), (PV.val (Value.int IntKind.i64 0)), (PV.sl SK.full 0 []), (PV.val (Value.int IntKind.i64 0)), (PV.val (Value.int IntKind.i64 0)), (PV.val (Value.int IntKind.i64 0)), (PV.val (Value.int IntKind.i64 0)), (PV.sl SK.full 0 [])])) none 0 false true)]) (AC.seq (AC.ops [(AOp.mk (some 1) (AK.call 47 [(AX.c (PV.val (Value.int IntKind.i64 21))), (AX.c (PV.val (Value.int IntKind.i64 (-8)))), (AX.c (PV.val (Value.bool false)))]) none 0 false true), (AOp.mk (some 2) (AK.bslice false 65 3 1 [(PV.val (Value.int IntKind.i64 0)), (PV.val (Value.int IntKind.i64 0)), (PV.val (Value.bool false))] [(0, (3, (AX.t 1)))]) none 1 false true), (AOp.mk (some 3) (AK.call 57 [(AX.t 2)]) none 2 false true), (AOp.mk none (AK.st 10 (AX.t 0) (AX.t 3)) none 3 false true)]) AC.ret))
theorem ac59_ok : cCode Try.prog (fun _ => false) Try.f59.ntmps (Try.f59.body.getD .skip) = some ac59 := by kernel_rfl
def ac58 : AC := (AC.seq (AC.ops [(AOp.mk (some 0) (AK.new (PV.agg [(PV.val (Value.int IntKind.i64 0)), (PV.val (Value.int IntKind.i64 0)), (PV.val (Value.int IntKind.i64 0)), (PV.val (Value.int IntKind.i64 0)), (PV.sl SK.full 0 []), (PV.val (Value.int IntKind.i64 0)), (PV.val (Value.int IntKind.i64 0)), (PV.val (Value.int IntKind.i64 0)), (PV.val (Value.int IntKind.i64 0)), (PV.sl SK.full 0 [])])) none 0 false true)]) (AC.seq (AC.ops [(AOp.mk (some 1) (AK.call 47 [(AX.c (PV.val (Value.int IntKind.i64 21))), (AX.c (PV.val (Value.int IntKind.i64 (-8)))), (AX.c (PV.val (Value.bool false)))]) none 0 false true), (AOp.mk (some 2) (AK.call 47 [(AX.c (PV.val (Value.int IntKind.i64 20))), (AX.c (PV.val (Value.int IntKind.i64 (-8)))), (AX.c (PV.val (Value.bool true)))]) none 1 false true), (AOp.mk (some 3) (AK.bslice false 65 3 2 [(PV.val (Value.int IntKind.i64 0)), (PV.val (Value.int IntKind.i64 0)), (PV.val (Value.bool false))] [(0, (3, (AX.t 1))), (3, (3, (AX.t 2)))]) none 2 false true), (AOp.mk (some 4) (AK.call 57 [(AX.t 3)]) none 3 false true), (AOp.mk none (AK.st 10 (AX.t 0) (AX.t 4)) none 4 false true)]) AC.ret))
theorem ac58_ok : cCode Try.prog (fun _ => false) Try.f58.ntmps (Try.f58.body.getD .skip) = some ac58 := by kernel_rfl
def ac56 : AC := (AC.seq (AC.ops [(AOp.mk (some 0) (AK.new (PV.agg [(PV.val (Value.int IntKind.i64 0)), (PV.val (Value.int IntKind.i64 0)), (PV.val (Value.int IntKind.i64 0)), (PV.val (Value.int IntKind.i64 0)), (PV.sl SK.full 0 []), (PV.val (Value.int IntKind.i64 0)), (PV.val (Value.int IntKind.i64 0)), (PV.val (Value.int IntKind.i64 0)), (PV.val (Value.int IntKind.i64 0)), (PV.sl SK.full 0 [])])) none 0 false true)]) (AC.seq (AC.ops [(AOp.mk (some 2) (AK.call 55 []) none 0 false true), (AOp.mk (some 1) (AK.new (PV.agg [(PV.val (Value.int IntKind.i64 0)), (PV.val (Value.int IntKind.i64 0)), (PV.val (Value.int IntKind.i64 0)), (PV.val (Value.int IntKind.i64 0)), (PV.sl SK.full 0 []), (PV.val (Value.int IntKind.i64 0)), (PV.val (Value.int IntKind.i64 0)), (PV.val (Value.int IntKind.i64 0)), (PV.val (Value.int IntKind.i64 0)), (PV.sl SK.full 0 [])])) none 1 false true), (AOp.mk none (AK.st 10 (AX.t 1) (AX.t 2)) none 2 false true)]) (AC.seq (AC.ops [(AOp.mk (some 3) (AK.fadr 0 (AX.t 1)) none 0 false true), (AOp.mk none (AK.st 1 (AX.t 3) (AX.c (PV.val (Value.int IntKind.i64 1)))) none 1 false true), (AOp.mk (some 4) (AK.fadr 3 (AX.t 1)) none 2 false true), (AOp.mk none (AK.st 1 (AX.t 4) (AX.c (PV.val (Value.int IntKind.i64 60)))) none 3 false true), (AOp.mk (some 5) (AK.fadr 1 (AX.t 1)) none 4 false true), (AOp.mk none (AK.st 1 (AX.t 5) (AX.c (PV.val (Value.int IntKind.i64 12)))) none 5 false true), (AOp.mk (some 6) (AK.fadr 2 (AX.t 1)) none 6 false true), (AOp.mk none (AK.st 1 (AX.t 6) (AX.c (PV.val (Value.int IntKind.i64 12)))) none 7 false true)]) (AC.seq (AC.ops [(AOp.mk (some 7) (AK.ld (some 10) (AX.t 1)) none 0 false true), (AOp.mk none (AK.st 10 (AX.t 0) (AX.t 7)) none 1 false true)]) AC.ret))))
theorem ac56_ok : cCode Try.prog (fun _ => false) Try.f56.ntmps (Try.f56.body.getD .skip) = some ac56 := by kernel_rfl
def ac60 : AC := (AC.seq (AC.ops [(AOp.mk (some 4) (AK.new (PV.agg [(PV.val (Value.int IntKind.i64 0)), (PV.val (Value.int IntKind.i64 0))])) none 0 false true)]) (AC.seq (AC.ops [(AOp.mk (some 5) (AK.mv (AX.t 0)) none 0 false true), (AOp.mk (some 6) (AK.mv (AX.t 1)) none 1 false true), (AOp.mk (some 7) (AK.build [(PV.val (Value.int IntKind.i64 0)), (PV.val (Value.int IntKind.i64 0))] [(0, (1, (AX.t 5))), (1, (1, (AX.t 6)))]) none 2 false true), (AOp.mk none (AK.st 2 (AX.t 4) (AX.t 7)) none 3 false true)]) AC.ret))
theorem ac60_ok : cCode Try.prog (fun _ => false) Try.f60.ntmps (Try.f60.body.getD .skip) = some ac60 := by kernel_rfl
theorem retQ_cell_le {P : Program} {t : Nat} {ty : TypeId} {n : Option Nat} {R : PV → Prop} {s : AS} {x y : PV} (hs : shapeN P ty = some n) (h : stillV s (.ld n (.t t)) = some (.p x)) (hle : PVle x y) (hR : R y) : retQ P [.cell t ty] R s :=
  ⟨[.p x], [x], s.loc, y, by simp [resA, hs, h], rfl, hle, hR⟩
def bookB (ts : List STrial) : SBook := ⟨0, 10, 4, 0, [⟨20, 22, 0, 30⟩, ⟨4, 5, 15, 40⟩], -4, 36, 8, 30, ts⟩
def ownB : SBook := bookB []
def onceB : SBook := bookB [⟨21, -8, false⟩]
def tornB : SBook := bookB [⟨21, -8, false⟩, ⟨20, -8, true⟩]
def rockB : SBook := ⟨1, 12, 12, 60, [⟨20, 22, 0, 30⟩, ⟨4, 5, 15, 40⟩], -4, 36, 8, 30, []⟩
theorem tried_sem (w n : Int) (t : Bool) : Sem1 47 [pi w, pi n, pb t] (.agg [pi w, pi n, pb t]) := by
  refine semC_of_exec' mixed Try.func47 (by kernel_rfl) (by kernel_rfl) ac47_ok 3 rfl (by decide) [(.cell 6 65)] (by kernel_rfl) ?_
  intro hr C hC hI
  unfold ac47
  simp only [go_sem, Nat.reduceBEq, Nat.reduceAdd, Nat.reduceLeDiff]
  exact retQ_cell (n := some 3) (by kernel_rfl) rfl rfl
theorem ratio_sem (w n : Int) : Sem1 60 [pi w, pi n] (.agg [pi w, pi n]) := by
  refine semC_of_exec' mixed Try.func60 (by kernel_rfl) (by kernel_rfl) ac60_ok 2 rfl (by decide) [(.cell 4 34)] (by kernel_rfl) ?_
  intro hr C hC hI
  unfold ac60
  simp only [go_sem, Nat.reduceBEq, Nat.reduceAdd, Nat.reduceLeDiff]
  exact retQ_cell (n := some 2) (by kernel_rfl) rfl rfl
theorem book_sem (ts : List STrial) : Sem1 57 [.sl .sh 3 (ts.map trialC)] (.agg (bookC .sh .sh (bookB ts))) := by
  refine semC_of_exec' mixed Try.func57 (by kernel_rfl) (by kernel_rfl) ac57_ok 1 rfl (by decide) [(.cell 2 25)] (by kernel_rfl) ?_
  intro hr C hC hI
  unfold ac57
  simp only [go_sem]
  refine call_pure2 hC (From_sem 20 22) rfl (PVleL_refl _) ?_
  rintro r rfl
  simp only [go_sem, Nat.reduceBEq, Nat.reduceAdd, Nat.reduceLeDiff]
  refine call_pure2 hC (From_sem 4 5) rfl (PVleL_refl _) ?_
  rintro r rfl
  simp only [go_sem, Nat.reduceBEq, Nat.reduceAdd, Nat.reduceLeDiff]
  refine retQ_cell_le (n := some 10) (by kernel_rfl) rfl ?_ rfl
  exact PVle.agg ⟨PVle.refl _, PVle.refl _, PVle.refl _, PVle.refl _, PVle.sh _ _ _, PVle.refl _, PVle.refl _, PVle.refl _, PVle.refl _, PVle.refl _, trivial⟩
theorem own_sem : Sem1 55 [] (.agg (bookC .sh .sh ownB)) := by
  refine semC_of_exec' mixed Try.func55 (by kernel_rfl) (by kernel_rfl) ac55_ok 0 rfl (by decide) [(.cell 0 25)] (by kernel_rfl) ?_
  intro hr C hC hI
  unfold ac55
  simp only [go_sem]
  refine call_pure2 hC (book_sem []) rfl ⟨PVle.nil _ _ _, trivial⟩ ?_
  rintro r rfl
  simp only [go_sem, Nat.reduceBEq, Nat.reduceAdd]
  exact retQ_cell (n := some 10) (by kernel_rfl) rfl rfl
theorem once_sem : Sem1 59 [] (.agg (bookC .sh .sh onceB)) := by
  refine semC_of_exec' mixed Try.func59 (by kernel_rfl) (by kernel_rfl) ac59_ok 0 rfl (by decide) [(.cell 0 25)] (by kernel_rfl) ?_
  intro hr C hC hI
  unfold ac59
  simp only [go_sem]
  refine call_pure2 hC (tried_sem 21 (-8) false) rfl (PVleL_refl _) ?_
  rintro r rfl
  simp only [go_sem, Nat.reduceBEq, Nat.reduceAdd]
  refine call_pure2 hC (book_sem [⟨21, -8, false⟩]) rfl ⟨PVle.sh _ _ _, trivial⟩ ?_
  rintro r rfl
  simp only [go_sem, Nat.reduceBEq, Nat.reduceAdd]
  exact retQ_cell (n := some 10) (by kernel_rfl) rfl rfl
theorem torn_sem : Sem1 58 [] (.agg (bookC .sh .sh tornB)) := by
  refine semC_of_exec' mixed Try.func58 (by kernel_rfl) (by kernel_rfl) ac58_ok 0 rfl (by decide) [(.cell 0 25)] (by kernel_rfl) ?_
  intro hr C hC hI
  unfold ac58
  simp only [go_sem]
  refine call_pure2 hC (tried_sem 21 (-8) false) rfl (PVleL_refl _) ?_
  rintro r rfl
  simp only [go_sem]
  refine call_pure2 hC (tried_sem 20 (-8) true) rfl (PVleL_refl _) ?_
  rintro r rfl
  simp only [go_sem, Nat.reduceBEq, Nat.reduceAdd, Nat.reduceLeDiff]
  refine call_pure2 hC (book_sem [⟨21, -8, false⟩, ⟨20, -8, true⟩]) rfl ⟨PVle.sh _ _ _, trivial⟩ ?_
  rintro r rfl
  simp only [go_sem, Nat.reduceBEq, Nat.reduceAdd]
  exact retQ_cell (n := some 10) (by kernel_rfl) rfl rfl
theorem rock_sem : Sem1 56 [] (.agg (bookC .sh .sh rockB)) := by
  refine semC_of_exec' mixed Try.func56 (by kernel_rfl) (by kernel_rfl) ac56_ok 0 rfl (by decide) [(.cell 0 25)] (by kernel_rfl) ?_
  intro hr C hC hI
  unfold ac56
  simp only [go_sem]
  refine call_pure2 hC (own_sem) rfl (PVleL_refl _) ?_
  rintro r rfl
  simp only [go_sem, Nat.reduceBEq, Nat.reduceAdd, Nat.reduceLeDiff, ownB, bookB]
  exact retQ_cell (n := some 10) (by kernel_rfl) rfl rfl
/- What is told of them. -/
theorem ev_tips : Sem1 20 [.agg (bookC .sh .sh ownB), pi 20, pi (-8)] (.tup [pi 1, pi 0]) :=
  (Tips_any .sh .sh ownB 20 (-8)).mono fun _ h => h.trans (by kernel_rfl)
theorem ev_margin : Sem1 22 [.agg (bookC .sh .sh ownB), pi 10, pi (-8)] (.tup [.agg [pi 38, pi 17], pi 0]) :=
  (Margin_any .sh .sh ownB 10 (-8)).mono fun _ h => h.trans (by kernel_rfl)
theorem ev_least : Sem1 27 [.agg (bookC .sh .sh onceB)] (.tup [pi 22, pi 0]) :=
  (Least_sem .sh .sh onceB).mono fun _ h => h.trans (by kernel_rfl)
theorem ev_room : Sem1 29 [.agg (bookC .sh .sh ownB), pi 20] (.tup [psp (-7) 8, pi 0]) :=
  (Room_sem .sh .sh ownB 20).mono fun _ h => h.trans (by kernel_rfl)
theorem ev_lead : Sem1 31 [.agg (bookC .sh .sh ownB), pi 10] (.tup [pi 6, pi 0]) :=
  (Lead_sem .sh .sh ownB 10).mono fun _ h => h.trans (by kernel_rfl)
theorem ev_wider : Sem1 33 [.agg (bookC .sh .sh ownB)] (.tup [pi 2, pi 0]) :=
  (Wider_sem .sh .sh ownB).mono fun _ h => h.trans (by kernel_rfl)
theorem ev_wrong : Sem1 35 [.agg (bookC .sh .sh tornB)] (.tup [pis [0], pi 0]) :=
  (Wrong_sem .sh .sh tornB).mono fun _ h => h.trans (by kernel_rfl)
theorem ev_safe : Sem1 25 [.agg (bookC .sh .sh ownB), pi 19] (.tup [pb true, pi 0]) :=
  (Safe_sem .sh .sh ownB 19).mono fun _ h => h.trans (by kernel_rfl)
theorem ev_right : Sem1 16 [.agg (bookC .sh .sh ownB)] (.tup [pb true, pi 0]) :=
  (Right_sem .sh .sh ownB).mono fun _ h => h.trans (by kernel_rfl)
theorem ev_margin2 : Sem1 22 [.agg (bookC .sh .sh rockB), pi 30, pi (-8)] (.tup [.agg [pi (-200), pi 9], pi 0]) :=
  (Margin_any .sh .sh rockB 30 (-8)).mono fun _ h => h.trans (by kernel_rfl)
end Go.Proofs.Ytaejmbmkkdkliaa
namespace Go.Proofs.Ytaejmbmkkdkliaa
open Go.RowKit
def ac24 : AC := (AC.seq (AC.ops [(AOp.mk (some 0) (AK.mv (AX.c (PV.val (Value.bool false)))) none 0 false true)]) (AC.seq (AC.ops [(AOp.mk (some 17) (AK.call 55 []) none 0 false true), (AOp.mk (some 18) (AK.call 20 [(AX.t 17), (AX.c (PV.val (Value.int IntKind.i64 20))), (AX.c (PV.val (Value.int IntKind.i64 (-8))))]) none 1 false true), (AOp.mk (some 16) (AK.mv (AX.t 18)) none 2 false true), (AOp.mk (some 19) (AK.ext (AX.t 16) 0) none 3 false true), (AOp.mk (some 20) (AK.ext (AX.t 16) 1) none 4 false true), (AOp.mk (some 1) (AK.mv (AX.t 19)) none 5 false true), (AOp.mk (some 2) (AK.mv (AX.t 20)) none 6 false true)]) (AC.seq (AC.ops [(AOp.mk (some 22) (AK.call 55 []) none 0 false true), (AOp.mk (some 23) (AK.call 22 [(AX.t 22), (AX.c (PV.val (Value.int IntKind.i64 10))), (AX.c (PV.val (Value.int IntKind.i64 (-8))))]) none 1 false true), (AOp.mk (some 21) (AK.mv (AX.t 23)) none 2 false true), (AOp.mk (some 24) (AK.ext (AX.t 21) 0) none 3 false true), (AOp.mk (some 25) (AK.ext (AX.t 21) 1) none 4 false true), (AOp.mk (some 3) (AK.new (PV.agg [(PV.val (Value.int IntKind.i64 0)), (PV.val (Value.int IntKind.i64 0))])) none 5 false true), (AOp.mk none (AK.st 2 (AX.t 3) (AX.t 24)) none 6 false true), (AOp.mk (some 4) (AK.mv (AX.t 25)) none 7 false true)]) (AC.seq (AC.ops [(AOp.mk (some 27) (AK.call 59 []) none 0 false true), (AOp.mk (some 28) (AK.call 27 [(AX.t 27)]) none 1 false true), (AOp.mk (some 26) (AK.mv (AX.t 28)) none 2 false true), (AOp.mk (some 29) (AK.ext (AX.t 26) 0) none 3 false true), (AOp.mk (some 30) (AK.ext (AX.t 26) 1) none 4 false true), (AOp.mk (some 5) (AK.mv (AX.t 29)) none 5 false true), (AOp.mk (some 6) (AK.mv (AX.t 30)) none 6 false true)]) (AC.seq (AC.ops [(AOp.mk (some 32) (AK.call 55 []) none 0 false true), (AOp.mk (some 33) (AK.call 29 [(AX.t 32), (AX.c (PV.val (Value.int IntKind.i64 20)))]) none 1 false true), (AOp.mk (some 31) (AK.mv (AX.t 33)) none 2 false true), (AOp.mk (some 34) (AK.ext (AX.t 31) 0) none 3 false true), (AOp.mk (some 35) (AK.ext (AX.t 31) 1) none 4 false true), (AOp.mk (some 7) (AK.new (PV.agg [(PV.val (Value.int IntKind.i64 0)), (PV.val (Value.int IntKind.i64 0))])) none 5 false true), (AOp.mk none (AK.st 2 (AX.t 7) (AX.t 34)) none 6 false true), (AOp.mk (some 8) (AK.mv (AX.t 35)) none 7 false true)]) (AC.seq (AC.ops [(AOp.mk (some 37) (AK.call 55 []) none 0 false true), (AOp.mk (some 38) (AK.call 31 [(AX.t 37), (AX.c (PV.val (Value.int IntKind.i64 10)))]) none 1 false true), (AOp.mk (some 36) (AK.mv (AX.t 38)) none 2 false true), (AOp.mk (some 39) (AK.ext (AX.t 36) 0) none 3 false true), (AOp.mk (some 40) (AK.ext (AX.t 36) 1) none 4 false true), (AOp.mk (some 9) (AK.mv (AX.t 39)) none 5 false true), (AOp.mk (some 10) (AK.mv (AX.t 40)) none 6 false true)]) (AC.seq (AC.seq (AC.ops [(AOp.mk (some 41) (AK.mv (AX.t 2)) none 0 true false), (AOp.mk (some 42) (AK.bin false BinOp.neq (AX.t 41) (AX.c (PV.val (Value.int IntKind.i64 0)))) none 1 true false), (AOp.mk (some 43) (AK.mv (AX.t 42)) none 2 true false), (AOp.mk (some 44) (AK.mv (AX.t 4)) (some (43, false)) 3 true false), (AOp.mk (some 45) (AK.bin false BinOp.neq (AX.t 44) (AX.c (PV.val (Value.int IntKind.i64 0)))) (some (43, false)) 4 true false), (AOp.mk (some 46) (AK.pick (AX.t 43) (AX.c (PV.val (Value.bool true))) (AX.t 45)) none 5 true false), (AOp.mk (some 47) (AK.mv (AX.t 46)) none 6 true false), (AOp.mk (some 48) (AK.mv (AX.t 6)) (some (47, false)) 7 true false), (AOp.mk (some 49) (AK.bin false BinOp.neq (AX.t 48) (AX.c (PV.val (Value.int IntKind.i64 0)))) (some (47, false)) 8 true false), (AOp.mk (some 50) (AK.pick (AX.t 47) (AX.c (PV.val (Value.bool true))) (AX.t 49)) none 9 true false), (AOp.mk (some 51) (AK.mv (AX.t 50)) none 10 true false), (AOp.mk (some 52) (AK.mv (AX.t 8)) (some (51, false)) 11 true false), (AOp.mk (some 53) (AK.bin false BinOp.neq (AX.t 52) (AX.c (PV.val (Value.int IntKind.i64 0)))) (some (51, false)) 12 true false), (AOp.mk (some 54) (AK.pick (AX.t 51) (AX.c (PV.val (Value.bool true))) (AX.t 53)) none 13 true false), (AOp.mk (some 55) (AK.mv (AX.t 54)) none 14 true false), (AOp.mk (some 56) (AK.mv (AX.t 10)) (some (55, false)) 15 true false), (AOp.mk (some 57) (AK.bin false BinOp.neq (AX.t 56) (AX.c (PV.val (Value.int IntKind.i64 0)))) (some (55, false)) 16 true false), (AOp.mk (some 58) (AK.pick (AX.t 55) (AX.c (PV.val (Value.bool true))) (AX.t 57)) none 17 true false), (AOp.mk (some 59) (AK.mv (AX.t 58)) none 18 true false), (AOp.mk (some 60) (AK.mv (AX.t 1)) (some (59, false)) 19 true false), (AOp.mk (some 61) (AK.bin false BinOp.neq (AX.t 60) (AX.c (PV.val (Value.int IntKind.i64 1)))) (some (59, false)) 20 true false), (AOp.mk (some 62) (AK.pick (AX.t 59) (AX.c (PV.val (Value.bool true))) (AX.t 61)) none 21 true false), (AOp.mk (some 63) (AK.mv (AX.t 62)) none 22 true false), (AOp.mk (some 64) (AK.ld (some 2) (AX.t 3)) (some (63, false)) 23 true false), (AOp.mk (some 65) (AK.call 60 [(AX.c (PV.val (Value.int IntKind.i64 38))), (AX.c (PV.val (Value.int IntKind.i64 17)))]) (some (63, false)) 24 false false), (AOp.mk (some 66) (AK.eqs [CK.i, CK.i] true (AX.t 64) (AX.t 65)) (some (63, false)) 25 true false), (AOp.mk (some 67) (AK.pick (AX.t 63) (AX.c (PV.val (Value.bool true))) (AX.t 66)) none 26 true false), (AOp.mk (some 68) (AK.mv (AX.t 67)) none 27 true false), (AOp.mk (some 69) (AK.mv (AX.t 5)) (some (68, false)) 28 true false), (AOp.mk (some 70) (AK.bin false BinOp.neq (AX.t 69) (AX.c (PV.val (Value.int IntKind.i64 22)))) (some (68, false)) 29 true false), (AOp.mk (some 71) (AK.pick (AX.t 68) (AX.c (PV.val (Value.bool true))) (AX.t 70)) none 30 true false), (AOp.mk (some 72) (AK.mv (AX.t 71)) none 31 true false), (AOp.mk (some 73) (AK.ld (some 2) (AX.t 7)) (some (72, false)) 32 true false), (AOp.mk (some 74) (AK.call 46 [(AX.c (PV.val (Value.int IntKind.i64 (-7)))), (AX.c (PV.val (Value.int IntKind.i64 8)))]) (some (72, false)) 33 false false), (AOp.mk (some 75) (AK.eqs [CK.i, CK.i] true (AX.t 73) (AX.t 74)) (some (72, false)) 34 true false), (AOp.mk (some 76) (AK.pick (AX.t 72) (AX.c (PV.val (Value.bool true))) (AX.t 75)) none 35 true false), (AOp.mk (some 77) (AK.mv (AX.t 76)) none 36 true false), (AOp.mk (some 78) (AK.mv (AX.t 9)) (some (77, false)) 37 true false), (AOp.mk (some 79) (AK.bin false BinOp.neq (AX.t 78) (AX.c (PV.val (Value.int IntKind.i64 6)))) (some (77, false)) 38 true false), (AOp.mk (some 80) (AK.pick (AX.t 77) (AX.c (PV.val (Value.bool true))) (AX.t 79)) none 39 true false)]) (AC.cond (AX.t 80) (AC.seq (AC.ops [(AOp.mk (some 0) (AK.mv (AX.c (PV.val (Value.bool false)))) none 0 false true)]) AC.ret) AC.skip)) (AC.seq (AC.ops [(AOp.mk (some 82) (AK.call 55 []) none 0 false true), (AOp.mk (some 83) (AK.call 33 [(AX.t 82)]) none 1 false true), (AOp.mk (some 81) (AK.mv (AX.t 83)) none 2 false true), (AOp.mk (some 84) (AK.ext (AX.t 81) 0) none 3 false true), (AOp.mk (some 85) (AK.ext (AX.t 81) 1) none 4 false true), (AOp.mk (some 11) (AK.mv (AX.t 84)) none 5 false true), (AOp.mk (some 2) (AK.mv (AX.t 85)) none 6 false true)]) (AC.seq (AC.ops [(AOp.mk (some 87) (AK.call 58 []) none 0 false true), (AOp.mk (some 88) (AK.call 35 [(AX.t 87)]) none 1 false true), (AOp.mk (some 86) (AK.mv (AX.t 88)) none 2 false true), (AOp.mk (some 89) (AK.ext (AX.t 86) 0) none 3 false true), (AOp.mk (some 90) (AK.ext (AX.t 86) 1) none 4 false true), (AOp.mk (some 12) (AK.mv (AX.t 89)) none 5 false true), (AOp.mk (some 4) (AK.mv (AX.t 90)) none 6 false true)]) (AC.seq (AC.ops [(AOp.mk (some 92) (AK.call 55 []) none 0 false true), (AOp.mk (some 93) (AK.call 25 [(AX.t 92), (AX.c (PV.val (Value.int IntKind.i64 19)))]) none 1 false true), (AOp.mk (some 91) (AK.mv (AX.t 93)) none 2 false true), (AOp.mk (some 94) (AK.ext (AX.t 91) 0) none 3 false true), (AOp.mk (some 95) (AK.ext (AX.t 91) 1) none 4 false true), (AOp.mk (some 13) (AK.mv (AX.t 94)) none 5 false true), (AOp.mk (some 6) (AK.mv (AX.t 95)) none 6 false true)]) (AC.seq (AC.ops [(AOp.mk (some 97) (AK.call 55 []) none 0 false true), (AOp.mk (some 98) (AK.call 16 [(AX.t 97)]) none 1 false true), (AOp.mk (some 96) (AK.mv (AX.t 98)) none 2 false true), (AOp.mk (some 99) (AK.ext (AX.t 96) 0) none 3 false true), (AOp.mk (some 100) (AK.ext (AX.t 96) 1) none 4 false true), (AOp.mk (some 14) (AK.mv (AX.t 99)) none 5 false true), (AOp.mk (some 8) (AK.mv (AX.t 100)) none 6 false true)]) (AC.seq (AC.ops [(AOp.mk (some 102) (AK.call 56 []) none 0 false true), (AOp.mk (some 103) (AK.call 22 [(AX.t 102), (AX.c (PV.val (Value.int IntKind.i64 30))), (AX.c (PV.val (Value.int IntKind.i64 (-8))))]) none 1 false true), (AOp.mk (some 101) (AK.mv (AX.t 103)) none 2 false true), (AOp.mk (some 104) (AK.ext (AX.t 101) 0) none 3 false true), (AOp.mk (some 105) (AK.ext (AX.t 101) 1) none 4 false true), (AOp.mk (some 15) (AK.new (PV.agg [(PV.val (Value.int IntKind.i64 0)), (PV.val (Value.int IntKind.i64 0))])) none 5 false true), (AOp.mk none (AK.st 2 (AX.t 15) (AX.t 104)) none 6 false true), (AOp.mk (some 10) (AK.mv (AX.t 105)) none 7 false true)]) (AC.seq (AC.ops [(AOp.mk (some 106) (AK.mv (AX.t 2)) none 0 true false), (AOp.mk (some 107) (AK.bin false BinOp.eql (AX.t 106) (AX.c (PV.val (Value.int IntKind.i64 0)))) none 1 true false), (AOp.mk (some 108) (AK.mv (AX.t 107)) none 2 true false), (AOp.mk (some 109) (AK.mv (AX.t 4)) (some (108, true)) 3 true false), (AOp.mk (some 110) (AK.bin false BinOp.eql (AX.t 109) (AX.c (PV.val (Value.int IntKind.i64 0)))) (some (108, true)) 4 true false), (AOp.mk (some 111) (AK.pick (AX.t 108) (AX.t 110) (AX.c (PV.val (Value.bool false)))) none 5 true false), (AOp.mk (some 112) (AK.mv (AX.t 111)) none 6 true false), (AOp.mk (some 113) (AK.mv (AX.t 6)) (some (112, true)) 7 true false), (AOp.mk (some 114) (AK.bin false BinOp.eql (AX.t 113) (AX.c (PV.val (Value.int IntKind.i64 0)))) (some (112, true)) 8 true false), (AOp.mk (some 115) (AK.pick (AX.t 112) (AX.t 114) (AX.c (PV.val (Value.bool false)))) none 9 true false), (AOp.mk (some 116) (AK.mv (AX.t 115)) none 10 true false), (AOp.mk (some 117) (AK.mv (AX.t 8)) (some (116, true)) 11 true false), (AOp.mk (some 118) (AK.bin false BinOp.eql (AX.t 117) (AX.c (PV.val (Value.int IntKind.i64 0)))) (some (116, true)) 12 true false), (AOp.mk (some 119) (AK.pick (AX.t 116) (AX.t 118) (AX.c (PV.val (Value.bool false)))) none 13 true false), (AOp.mk (some 120) (AK.mv (AX.t 119)) none 14 true false), (AOp.mk (some 121) (AK.mv (AX.t 10)) (some (120, true)) 15 true false), (AOp.mk (some 122) (AK.bin false BinOp.eql (AX.t 121) (AX.c (PV.val (Value.int IntKind.i64 0)))) (some (120, true)) 16 true false), (AOp.mk (some 123) (AK.pick (AX.t 120) (AX.t 122) (AX.c (PV.val (Value.bool false)))) none 17 true false), (AOp.mk (some 124) (AK.mv (AX.t 123)) none 18 true false), (AOp.mk (some 125) (AK.mv (AX.t 11)) (some (124, true)) 19 true false), (AOp.mk (some 126) (AK.bin false BinOp.eql (AX.t 125) (AX.c (PV.val (Value.int IntKind.i64 2)))) (some (124, true)) 20 true false), (AOp.mk (some 127) (AK.pick (AX.t 124) (AX.t 126) (AX.c (PV.val (Value.bool false)))) none 21 true false), (AOp.mk (some 128) (AK.mv (AX.t 127)) none 22 true false), (AOp.mk (some 129) (AK.mv (AX.t 12)) (some (128, true)) 23 true false), (AOp.mk (some 130) (AK.bslice false 3 1 1 [(PV.val (Value.int IntKind.i64 0))] [(0, (1, (AX.c (PV.val (Value.int IntKind.i64 0)))))]) (some (128, true)) 24 false false), (AOp.mk (some 131) (AK.call 37 [(AX.t 129), (AX.t 130)]) (some (128, true)) 25 false false), (AOp.mk (some 132) (AK.pick (AX.t 128) (AX.t 131) (AX.c (PV.val (Value.bool false)))) none 26 true false), (AOp.mk (some 133) (AK.mv (AX.t 132)) none 27 true false), (AOp.mk (some 134) (AK.mv (AX.t 13)) (some (133, true)) 28 true false), (AOp.mk (some 135) (AK.pick (AX.t 133) (AX.t 134) (AX.c (PV.val (Value.bool false)))) none 29 true false), (AOp.mk (some 136) (AK.mv (AX.t 135)) none 30 true false), (AOp.mk (some 137) (AK.mv (AX.t 14)) (some (136, true)) 31 true false), (AOp.mk (some 138) (AK.pick (AX.t 136) (AX.t 137) (AX.c (PV.val (Value.bool false)))) none 32 true false), (AOp.mk (some 139) (AK.mv (AX.t 138)) none 33 true false), (AOp.mk (some 140) (AK.ld (some 2) (AX.t 15)) (some (139, true)) 34 true false), (AOp.mk (some 141) (AK.call 60 [(AX.c (PV.val (Value.int IntKind.i64 (-200)))), (AX.c (PV.val (Value.int IntKind.i64 9)))]) (some (139, true)) 35 false false), (AOp.mk (some 142) (AK.eqs [CK.i, CK.i] false (AX.t 140) (AX.t 141)) (some (139, true)) 36 true false), (AOp.mk (some 143) (AK.pick (AX.t 139) (AX.t 142) (AX.c (PV.val (Value.bool false)))) none 37 true false), (AOp.mk (some 0) (AK.mv (AX.t 143)) none 38 true true)]) AC.ret)))))))))))))
theorem ac24_ok : cCode Try.prog (fun _ => false) Try.f24.ntmps (Try.f24.body.getD .skip) = some ac24 := by kernel_rfl
set_option maxRecDepth 100000 in
theorem stood_sem : Sem1 24 [] (pb true) := by
  refine semC_of_exec' mixed Try.func24 (by kernel_rfl) (by kernel_rfl) ac24_ok 0 rfl (by decide) [(.tmp 0)] (by kernel_rfl) ?_
  intro hr C hC hI
  unfold ac24
  simp only [go_sem]
  refine call_pure2 hC (own_sem) rfl (PVleL_refl _) ?_
  rintro r rfl
  simp only [go_sem, Nat.reduceBEq]
  refine call_pure2 hC (ev_tips) rfl (PVleL_refl _) ?_
  rintro r rfl
  simp only [go_sem, Nat.reduceBEq]
  refine call_pure2 hC (own_sem) rfl (PVleL_refl _) ?_
  rintro r rfl
  simp only [go_sem, Nat.reduceBEq]
  refine call_pure2 hC (ev_margin) rfl (PVleL_refl _) ?_
  rintro r rfl
  simp only [go_sem, Nat.reduceBEq, Nat.reduceAdd, putCells]
  refine call_pure2 hC (once_sem) rfl (PVleL_refl _) ?_
  rintro r rfl
  simp only [go_sem, Nat.reduceBEq]
  refine call_pure2 hC (ev_least) rfl (PVleL_refl _) ?_
  rintro r rfl
  simp only [go_sem, Nat.reduceBEq]
  refine call_pure2 hC (own_sem) rfl (PVleL_refl _) ?_
  rintro r rfl
  simp only [go_sem, Nat.reduceBEq]
  refine call_pure2 hC (ev_room) rfl (PVleL_refl _) ?_
  rintro r rfl
  simp only [go_sem, Nat.reduceBEq, Nat.reduceAdd, putCells]
  refine call_pure2 hC (own_sem) rfl (PVleL_refl _) ?_
  rintro r rfl
  simp only [go_sem, Nat.reduceBEq]
  refine call_pure2 hC (ev_lead) rfl (PVleL_refl _) ?_
  rintro r rfl
  simp only [go_sem, Nat.reduceBEq, Nat.reduceAdd, decide_false, not_true_eq_false]
  refine call_pure2 hC (ratio_sem 38 17) rfl (PVleL_refl _) ?_
  rintro r rfl
  simp only [go_sem, Nat.reduceBEq, Nat.reduceAdd, decide_true, decide_false, not_true_eq_false, Bool.true_and]
  refine call_pure2 hC (From_sem (-7) 8) rfl (PVleL_refl _) ?_
  rintro r rfl
  simp only [go_sem, Nat.reduceBEq, decide_true, decide_false, not_true_eq_false, Bool.true_and]
  refine call_pure2 hC (own_sem) rfl (PVleL_refl _) ?_
  rintro r rfl
  simp only [go_sem, Nat.reduceBEq]
  refine call_pure2 hC (ev_wider) rfl (PVleL_refl _) ?_
  rintro r rfl
  simp only [go_sem, Nat.reduceBEq]
  refine call_pure2 hC (torn_sem) rfl (PVleL_refl _) ?_
  rintro r rfl
  simp only [go_sem, Nat.reduceBEq]
  refine call_pure2 hC (ev_wrong) rfl (PVleL_refl _) ?_
  rintro r rfl
  simp only [go_sem, Nat.reduceBEq]
  refine call_pure2 hC (own_sem) rfl (PVleL_refl _) ?_
  rintro r rfl
  simp only [go_sem, Nat.reduceBEq]
  refine call_pure2 hC (ev_safe) rfl (PVleL_refl _) ?_
  rintro r rfl
  simp only [go_sem, Nat.reduceBEq]
  refine call_pure2 hC (own_sem) rfl (PVleL_refl _) ?_
  rintro r rfl
  simp only [go_sem, Nat.reduceBEq]
  refine call_pure2 hC (ev_right) rfl (PVleL_refl _) ?_
  rintro r rfl
  simp only [go_sem, Nat.reduceBEq]
  refine call_pure2 hC (rock_sem) rfl (PVleL_refl _) ?_
  rintro r rfl
  simp only [go_sem, Nat.reduceBEq]
  refine call_pure2 hC (ev_margin2) rfl (PVleL_refl _) ?_
  rintro r rfl
  simp only [go_sem, Nat.reduceBEq, Nat.reduceAdd, putCells, decide_true]
  refine call_pure2 hC (Equal_sem [0] [0]) rfl ⟨PVle.refl _, PVle.sh _ _ _, trivial⟩ ?_
  rintro r rfl
  simp only [go_sem, Nat.reduceBEq, Nat.reduceAdd, decide_true]
  refine call_pure2 hC (ratio_sem (-200) 9) rfl (PVleL_refl _) ?_
  rintro r rfl
  simp only [go_sem, Nat.reduceBEq, decide_true, Bool.true_and]
  exact retQ_one rfl rfl
end Go.Proofs.Ytaejmbmkkdkliaa
namespace Go.Proofs.Ytaejmbmkkdkliaa
open Go.RowKit
def ac38 : AC := (AC.seq (AC.ops [(AOp.mk (some 1) (AK.box 10 (AX.t 0)) none 0 false true), (AOp.mk (some 2) (AK.mv (AX.c (PV.val (Value.bool false)))) none 1 false true)]) (AC.seq (AC.ops [(AOp.mk (some 7) (AK.ld (some 10) (AX.t 1)) none 0 false true), (AOp.mk (some 8) (AK.call 18 [(AX.t 7)]) none 1 false true), (AOp.mk (some 9) (AK.bin false BinOp.eql (AX.t 8) (AX.c (PV.val (Value.int IntKind.i64 0)))) none 2 false true), (AOp.mk (some 10) (AK.mv (AX.t 9)) none 3 false true), (AOp.mk (some 11) (AK.fadr 0 (AX.t 1)) (some (10, true)) 4 false true), (AOp.mk (some 12) (AK.ld none (AX.t 11)) (some (10, true)) 5 false true), (AOp.mk (some 13) (AK.call 43 [(AX.t 12), (AX.c (PV.val (Value.int IntKind.i64 0))), (AX.c (PV.val (Value.int IntKind.i64 1)))]) (some (10, true)) 6 false true), (AOp.mk (some 14) (AK.pick (AX.t 10) (AX.t 13) (AX.c (PV.val (Value.bool false)))) none 7 false true), (AOp.mk (some 15) (AK.mv (AX.t 14)) none 8 false true), (AOp.mk (some 16) (AK.fadr 1 (AX.t 1)) (some (15, true)) 9 false true), (AOp.mk (some 17) (AK.ld none (AX.t 16)) (some (15, true)) 10 false true), (AOp.mk (some 18) (AK.call 43 [(AX.t 17), (AX.c (PV.val (Value.int IntKind.i64 1))), (AX.c (PV.val (Value.int IntKind.i64 60)))]) (some (15, true)) 11 false true), (AOp.mk (some 19) (AK.pick (AX.t 15) (AX.t 18) (AX.c (PV.val (Value.bool false)))) none 12 false true), (AOp.mk (some 20) (AK.mv (AX.t 19)) none 13 false true), (AOp.mk (some 21) (AK.fadr 2 (AX.t 1)) (some (20, true)) 14 false true), (AOp.mk (some 22) (AK.ld none (AX.t 21)) (some (20, true)) 15 false true), (AOp.mk (some 23) (AK.call 43 [(AX.t 22), (AX.c (PV.val (Value.int IntKind.i64 1))), (AX.c (PV.val (Value.int IntKind.i64 60)))]) (some (20, true)) 16 false true), (AOp.mk (some 24) (AK.pick (AX.t 20) (AX.t 23) (AX.c (PV.val (Value.bool false)))) none 17 false true), (AOp.mk (some 25) (AK.mv (AX.t 24)) none 18 false true), (AOp.mk (some 26) (AK.fadr 3 (AX.t 1)) (some (25, true)) 19 false true), (AOp.mk (some 27) (AK.ld none (AX.t 26)) (some (25, true)) 20 false true), (AOp.mk (some 28) (AK.call 43 [(AX.t 27), (AX.c (PV.val (Value.int IntKind.i64 0))), (AX.c (PV.val (Value.int IntKind.i64 120)))]) (some (25, true)) 21 false true), (AOp.mk (some 29) (AK.pick (AX.t 25) (AX.t 28) (AX.c (PV.val (Value.bool false)))) none 22 false true), (AOp.mk (some 30) (AK.mv (AX.t 29)) none 23 false true), (AOp.mk (some 31) (AK.fadr 4 (AX.t 1)) (some (30, true)) 24 false true), (AOp.mk (some 32) (AK.ld none (AX.t 31)) (some (30, true)) 25 false true), (AOp.mk (some 33) (AK.len (AX.t 32)) (some (30, true)) 26 false true), (AOp.mk (some 34) (AK.call 43 [(AX.t 33), (AX.c (PV.val (Value.int IntKind.i64 1))), (AX.c (PV.val (Value.int IntKind.i64 4)))]) (some (30, true)) 27 false true), (AOp.mk (some 35) (AK.pick (AX.t 30) (AX.t 34) (AX.c (PV.val (Value.bool false)))) none 28 false true), (AOp.mk (some 36) (AK.mv (AX.t 35)) none 29 false true), (AOp.mk (some 37) (AK.fadr 5 (AX.t 1)) (some (36, true)) 30 false true), (AOp.mk (some 38) (AK.ld none (AX.t 37)) (some (36, true)) 31 false true), (AOp.mk (some 39) (AK.call 43 [(AX.t 38), (AX.c (PV.val (Value.int IntKind.i64 (-60)))), (AX.c (PV.val (Value.int IntKind.i64 60)))]) (some (36, true)) 32 false true), (AOp.mk (some 40) (AK.pick (AX.t 36) (AX.t 39) (AX.c (PV.val (Value.bool false)))) none 33 false true), (AOp.mk (some 41) (AK.mv (AX.t 40)) none 34 false true), (AOp.mk (some 42) (AK.fadr 6 (AX.t 1)) (some (41, true)) 35 false true), (AOp.mk (some 43) (AK.ld none (AX.t 42)) (some (41, true)) 36 false true), (AOp.mk (some 44) (AK.call 43 [(AX.t 43), (AX.c (PV.val (Value.int IntKind.i64 0))), (AX.c (PV.val (Value.int IntKind.i64 60)))]) (some (41, true)) 37 false true), (AOp.mk (some 45) (AK.pick (AX.t 41) (AX.t 44) (AX.c (PV.val (Value.bool false)))) none 38 false true), (AOp.mk (some 46) (AK.mv (AX.t 45)) none 39 false true), (AOp.mk (some 47) (AK.fadr 7 (AX.t 1)) (some (46, true)) 40 false true), (AOp.mk (some 48) (AK.ld none (AX.t 47)) (some (46, true)) 41 false true), (AOp.mk (some 49) (AK.call 43 [(AX.t 48), (AX.c (PV.val (Value.int IntKind.i64 0))), (AX.c (PV.val (Value.int IntKind.i64 12)))]) (some (46, true)) 42 false true), (AOp.mk (some 50) (AK.pick (AX.t 46) (AX.t 49) (AX.c (PV.val (Value.bool false)))) none 43 false true), (AOp.mk (some 51) (AK.mv (AX.t 50)) none 44 false true), (AOp.mk (some 52) (AK.fadr 8 (AX.t 1)) (some (51, true)) 45 false true), (AOp.mk (some 53) (AK.ld none (AX.t 52)) (some (51, true)) 46 false true), (AOp.mk (some 54) (AK.call 43 [(AX.t 53), (AX.c (PV.val (Value.int IntKind.i64 1))), (AX.c (PV.val (Value.int IntKind.i64 60)))]) (some (51, true)) 47 false true), (AOp.mk (some 55) (AK.pick (AX.t 51) (AX.t 54) (AX.c (PV.val (Value.bool false)))) none 48 false true), (AOp.mk (some 56) (AK.mv (AX.t 55)) none 49 false true), (AOp.mk (some 57) (AK.fadr 9 (AX.t 1)) (some (56, true)) 50 false true), (AOp.mk (some 58) (AK.ld none (AX.t 57)) (some (56, true)) 51 false true), (AOp.mk (some 59) (AK.len (AX.t 58)) (some (56, true)) 52 false true), (AOp.mk (some 60) (AK.bin false BinOp.leq (AX.t 59) (AX.c (PV.val (Value.int IntKind.i64 5)))) (some (56, true)) 53 false true), (AOp.mk (some 61) (AK.pick (AX.t 56) (AX.t 60) (AX.c (PV.val (Value.bool false)))) none 54 false true), (AOp.mk (some 3) (AK.mv (AX.t 61)) none 55 false true)]) (AC.seq (AC.seq (AC.ops [(AOp.mk (some 4) (AK.mv (AX.c (PV.val (Value.int IntKind.i64 0)))) none 0 false true)]) (AC.block 0 (AC.loop (AC.seq (AC.seq (AC.ops [(AOp.mk (some 62) (AK.mv (AX.t 3)) none 0 false true), (AOp.mk (some 63) (AK.mv (AX.t 62)) none 1 false true), (AOp.mk (some 64) (AK.mv (AX.t 4)) (some (63, true)) 2 false true), (AOp.mk (some 65) (AK.fadr 4 (AX.t 1)) (some (63, true)) 3 false true), (AOp.mk (some 66) (AK.ld none (AX.t 65)) (some (63, true)) 4 false true), (AOp.mk (some 67) (AK.len (AX.t 66)) (some (63, true)) 5 false true), (AOp.mk (some 68) (AK.bin false BinOp.lss (AX.t 64) (AX.t 67)) (some (63, true)) 6 false true), (AOp.mk (some 69) (AK.pick (AX.t 63) (AX.t 68) (AX.c (PV.val (Value.bool false)))) none 7 false true)]) (AC.cond (AX.t 69) AC.skip (AC.exit 0))) (AC.seq (AC.block 1 (AC.seq (AC.ops [(AOp.mk (some 72) (AK.fadr 4 (AX.t 1)) none 0 false true), (AOp.mk (some 73) (AK.ld none (AX.t 72)) none 1 false true), (AOp.mk (some 74) (AK.mv (AX.t 4)) none 2 false true), (AOp.mk (some 75) (AK.iadrS 4 (AX.t 73) (AX.t 74)) none 3 false true), (AOp.mk (some 76) (AK.ld (some 4) (AX.t 75)) none 4 false true), (AOp.mk (some 5) (AK.new (PV.agg [(PV.val (Value.int IntKind.i64 0)), (PV.val (Value.int IntKind.i64 0)), (PV.val (Value.int IntKind.i64 0)), (PV.val (Value.int IntKind.i64 0))])) none 5 false true), (AOp.mk none (AK.st 4 (AX.t 5) (AX.t 76)) none 6 false true)]) (AC.ops [(AOp.mk (some 77) (AK.fadr 0 (AX.t 5)) none 0 false true), (AOp.mk (some 78) (AK.ld (some 2) (AX.t 77)) none 1 false true), (AOp.mk (some 79) (AK.call 91 [(AX.t 78), (AX.c (PV.val (Value.int IntKind.i64 1))), (AX.c (PV.val (Value.int IntKind.i64 99)))]) none 2 false true), (AOp.mk (some 80) (AK.mv (AX.t 79)) none 3 false true), (AOp.mk (some 81) (AK.fadr 2 (AX.t 5)) (some (80, true)) 4 false true), (AOp.mk (some 82) (AK.ld none (AX.t 81)) (some (80, true)) 5 false true), (AOp.mk (some 83) (AK.call 43 [(AX.t 82), (AX.c (PV.val (Value.int IntKind.i64 (-60)))), (AX.c (PV.val (Value.int IntKind.i64 60)))]) (some (80, true)) 6 false true), (AOp.mk (some 84) (AK.pick (AX.t 80) (AX.t 83) (AX.c (PV.val (Value.bool false)))) none 7 false true), (AOp.mk (some 85) (AK.mv (AX.t 84)) none 8 false true), (AOp.mk (some 86) (AK.fadr 3 (AX.t 5)) (some (85, true)) 9 false true), (AOp.mk (some 87) (AK.ld none (AX.t 86)) (some (85, true)) 10 false true), (AOp.mk (some 88) (AK.call 43 [(AX.t 87), (AX.c (PV.val (Value.int IntKind.i64 0))), (AX.c (PV.val (Value.int IntKind.i64 60)))]) (some (85, true)) 11 false true), (AOp.mk (some 89) (AK.pick (AX.t 85) (AX.t 88) (AX.c (PV.val (Value.bool false)))) none 12 false true), (AOp.mk (some 3) (AK.mv (AX.t 89)) none 13 false true)]))) (AC.ops [(AOp.mk (some 70) (AK.mv (AX.t 4)) none 0 false true), (AOp.mk (some 71) (AK.bin false BinOp.add (AX.t 70) (AX.c (PV.val (Value.int IntKind.i64 1)))) none 1 false true), (AOp.mk (some 4) (AK.mv (AX.t 71)) none 2 false true)])))))) (AC.seq (AC.seq (AC.ops [(AOp.mk (some 6) (AK.mv (AX.c (PV.val (Value.int IntKind.i64 0)))) none 0 false true)]) (AC.block 2 (AC.loop (AC.seq (AC.seq (AC.ops [(AOp.mk (some 90) (AK.mv (AX.t 3)) none 0 false true), (AOp.mk (some 91) (AK.mv (AX.t 90)) none 1 false true), (AOp.mk (some 92) (AK.mv (AX.t 6)) (some (91, true)) 2 false true), (AOp.mk (some 93) (AK.fadr 9 (AX.t 1)) (some (91, true)) 3 false true), (AOp.mk (some 94) (AK.ld none (AX.t 93)) (some (91, true)) 4 false true), (AOp.mk (some 95) (AK.len (AX.t 94)) (some (91, true)) 5 false true), (AOp.mk (some 96) (AK.bin false BinOp.lss (AX.t 92) (AX.t 95)) (some (91, true)) 6 false true), (AOp.mk (some 97) (AK.pick (AX.t 91) (AX.t 96) (AX.c (PV.val (Value.bool false)))) none 7 false true)]) (AC.cond (AX.t 97) AC.skip (AC.exit 2))) (AC.seq (AC.block 3 (AC.ops [(AOp.mk (some 100) (AK.fadr 9 (AX.t 1)) none 0 true false), (AOp.mk (some 101) (AK.ld none (AX.t 100)) none 1 true false), (AOp.mk (some 102) (AK.mv (AX.t 6)) none 2 true false), (AOp.mk (some 103) (AK.iadrS 3 (AX.t 101) (AX.t 102)) none 3 true false), (AOp.mk (some 104) (AK.fadr 0 (AX.t 103)) none 4 true false), (AOp.mk (some 105) (AK.ld none (AX.t 104)) none 5 true false), (AOp.mk (some 106) (AK.fadr 8 (AX.t 1)) none 6 true false), (AOp.mk (some 107) (AK.ld none (AX.t 106)) none 7 true false), (AOp.mk (some 108) (AK.call 43 [(AX.t 105), (AX.c (PV.val (Value.int IntKind.i64 1))), (AX.t 107)]) none 8 false false), (AOp.mk (some 109) (AK.mv (AX.t 108)) none 9 true false), (AOp.mk (some 110) (AK.fadr 9 (AX.t 1)) (some (109, true)) 10 true false), (AOp.mk (some 111) (AK.ld none (AX.t 110)) (some (109, true)) 11 true false), (AOp.mk (some 112) (AK.mv (AX.t 6)) (some (109, true)) 12 true false), (AOp.mk (some 113) (AK.iadrS 3 (AX.t 111) (AX.t 112)) (some (109, true)) 13 true false), (AOp.mk (some 114) (AK.fadr 1 (AX.t 113)) (some (109, true)) 14 true false), (AOp.mk (some 115) (AK.ld none (AX.t 114)) (some (109, true)) 15 true false), (AOp.mk (some 116) (AK.fadr 7 (AX.t 1)) (some (109, true)) 16 true false), (AOp.mk (some 117) (AK.ld none (AX.t 116)) (some (109, true)) 17 true false), (AOp.mk (some 118) (AK.un UnOp.neg (AX.t 117)) (some (109, true)) 18 true false), (AOp.mk (some 119) (AK.fadr 7 (AX.t 1)) (some (109, true)) 19 true false), (AOp.mk (some 120) (AK.ld none (AX.t 119)) (some (109, true)) 20 true false), (AOp.mk (some 121) (AK.call 43 [(AX.t 115), (AX.t 118), (AX.t 120)]) (some (109, true)) 21 false false), (AOp.mk (some 122) (AK.pick (AX.t 109) (AX.t 121) (AX.c (PV.val (Value.bool false)))) none 22 true false), (AOp.mk (some 3) (AK.mv (AX.t 122)) none 23 true true)])) (AC.ops [(AOp.mk (some 98) (AK.mv (AX.t 6)) none 0 false true), (AOp.mk (some 99) (AK.bin false BinOp.add (AX.t 98) (AX.c (PV.val (Value.int IntKind.i64 1)))) none 1 false true), (AOp.mk (some 6) (AK.mv (AX.t 99)) none 2 false true)])))))) (AC.seq (AC.ops [(AOp.mk (some 123) (AK.mv (AX.t 3)) none 0 false true), (AOp.mk (some 2) (AK.mv (AX.t 123)) none 1 false true)]) AC.ret)))))
theorem ac38_ok : cCode Try.prog (fun _ => false) Try.f38.ntmps (Try.f38.body.getD .skip) = some ac38 := by kernel_rfl
theorem sound_sem (k k2 : SK) (b : SBook) : Sem1 38 [.agg (bookC k k2 b)] (pb (decide (okBook b))) := by
  refine semC_of_exec' mixed Try.func38 (by kernel_rfl) (by kernel_rfl) ac38_ok 1 rfl (by decide) [(.tmp 2)] (by kernel_rfl) ?_
  intro hr C hC hI
  unfold ac38
  simp only [go_sem, Nat.reduceBEq, Nat.reduceAdd]
  refine call_pure2 hC (Check_sem ..) rfl (PVleL_refl _) ?_
  rintro r rfl
  simp only [go_sem, Nat.reduceBEq]
  by_cases ho : okBook b
  · simp only [if_pos ho, decide_eq_true ho]
    obtain ⟨⟨h1, h2, h3⟩, ⟨⟨h4, h5⟩, h6, h7⟩, h8, h9, h10, h11⟩ := id ho
    refine ⟨fun _ => ?_, fun h => absurd trivial h⟩
    refine call_pure2 hC (In_sem ..) rfl (PVleL_refl _) ?_
    rintro r rfl
    simp only [go_sem, Nat.reduceBEq, decide_eq_true (show 0 ≤ b.kind ∧ b.kind ≤ 1 by omega)]
    refine call_pure2 hC (In_sem ..) rfl (PVleL_refl _) ?_
    rintro r rfl
    simp only [go_sem, Nat.reduceBEq, decide_eq_true (show 1 ≤ b.front ∧ b.front ≤ 60 by omega)]
    refine call_pure2 hC (In_sem ..) rfl (PVleL_refl _) ?_
    rintro r rfl
    simp only [go_sem, Nat.reduceBEq, decide_eq_true (show 1 ≤ b.back ∧ b.back ≤ 60 by omega)]
    refine call_pure2 hC (In_sem ..) rfl (PVleL_refl _) ?_
    rintro r rfl
    simp only [go_sem, Nat.reduceBEq, decide_eq_true (show 0 ≤ b.radius ∧ b.radius ≤ 120 by omega), List.length_map]
    refine call_pure2 hC (In_sem ..) rfl (PVleL_refl _) ?_
    rintro r rfl
    simp only [go_sem, Nat.reduceBEq, decide_eq_true (show (1 : Int) ≤ b.parts.length ∧ (b.parts.length : Int) ≤ 4 by omega)]
    refine call_pure2 hC (In_sem ..) rfl (PVleL_refl _) ?_
    rintro r rfl
    simp only [go_sem, Nat.reduceBEq, decide_eq_true (show -60 ≤ b.along ∧ b.along ≤ 60 by omega)]
    refine call_pure2 hC (In_sem ..) rfl (PVleL_refl _) ?_
    rintro r rfl
    simp only [go_sem, Nat.reduceBEq, decide_eq_true (show 0 ≤ b.high ∧ b.high ≤ 60 by omega)]
    refine call_pure2 hC (In_sem ..) rfl (PVleL_refl _) ?_
    rintro r rfl
    simp only [go_sem, Nat.reduceBEq, decide_eq_true (show 0 ≤ b.lean ∧ b.lean ≤ 12 by omega)]
    refine call_pure2 hC (In_sem ..) rfl (PVleL_refl _) ?_
    rintro r rfl
    simp only [go_sem, Nat.reduceBEq, decide_eq_true (show 1 ≤ b.limit ∧ b.limit ≤ 60 by omega), List.length_map, decide_eq_true (show (b.trials.length : Int) ≤ 5 by omega)]
    refine loop_nat b.parts.length (fun _ => True) (fun (j : Nat) => ⟨[(4, .p (pi j)), (3, .p (pb true)), (1, .loc 0 0)], [.cells ((bookC k k2 b).map .p)], [], some [], 0⟩) trivial (by simp [Wk, wkT, wkL, look, AV.lo, AV.lo.loL]) ?_
    rintro j ⟨hj, -⟩
    simp only [go_sem, Nat.reduceBEq, List.length_map]
    refine ⟨fun h5 => ?_, fun h5 => ?_⟩
    · have hj2 : j < b.parts.length := by omega
      have hp := h10 _ (List.getElem_mem hj2)
      have e := iadr_map (f := partC) (kd := k) (sz := 4) hj2
      obtain ⟨P, hP⟩ : ∃ P, b.parts[j] = P := ⟨_, rfl⟩
      rw [hP] at hp e
      unfold okPart at hp
      simp only [go_sem, Nat.reduceBEq, Nat.reduceAdd, Nat.reduceLeDiff, e, partC, putCells]
      refine call_pure2 hC (Ordered_sem ..) rfl (PVleL_refl _) ?_
      rintro r rfl
      simp only [go_sem, Nat.reduceBEq, decide_eq_true (show 1 ≤ P.lo ∧ P.lo ≤ P.hi ∧ P.hi ≤ 99 by omega)]
      refine call_pure2 hC (In_sem ..) rfl (PVleL_refl _) ?_
      rintro r rfl
      simp only [go_sem, Nat.reduceBEq, decide_eq_true (show -60 ≤ P.along ∧ P.along ≤ 60 by omega)]
      refine call_pure2 hC (In_sem ..) rfl (PVleL_refl _) ?_
      rintro r rfl
      simp only [go_sem, Nat.reduceBEq, decide_eq_true (show 0 ≤ P.high ∧ P.high ≤ 60 by omega), wrap_succ (k := j) (by omega)]
      exact ⟨⟨j + 1, hj2, trivial⟩, by simp only; omega, by simp [Wk, wkT, wkL, look, AV.lo, AV.lo.loL]⟩
    · refine loop_nat b.trials.length (fun _ => True) (fun (j : Nat) => ⟨[(6, .p (pi j)), (3, .p (pb true)), (1, .loc 0 0)], [.cells ((bookC k k2 b).map .p)], [], some [], 0⟩) trivial (by simp [Wk, wkT, wkL, look, AV.lo, AV.lo.loL]) ?_
      rintro i ⟨hi, -⟩
      simp only [go_sem, Nat.reduceBEq, List.length_map]
      refine ⟨fun h5 => ?_, fun h5 => ?_⟩
      · have hi2 : i < b.trials.length := by omega
        have hp := h11 _ (List.getElem_mem hi2)
        have e := iadr_map (f := trialC) (kd := k2) (sz := 3) hi2
        obtain ⟨P, hP⟩ : ∃ P, b.trials[i] = P := ⟨_, rfl⟩
        rw [hP] at hp e
        unfold okTrial at hp
        simp only [go_sem, Nat.reduceBEq, e, trialC]
        refine call_pure2 hC (In_sem ..) rfl (PVleL_refl _) ?_
        rintro r rfl
        simp only [go_sem, Nat.reduceBEq, decide_eq_true (show 1 ≤ P.weight ∧ P.weight ≤ b.limit by omega), e, trialC, wrap_id (n := 0 - b.lean) (by omega) (by omega)]
        refine call_pure2 hC (In_sem ..) rfl (PVleL_refl _) ?_
        rintro r rfl
        simp only [go_sem, Nat.reduceBEq, decide_eq_true (show 0 - b.lean ≤ P.lean ∧ P.lean ≤ b.lean by omega), wrap_succ (k := i) (by omega)]
        exact ⟨⟨i + 1, hi2, trivial⟩, by simp only; omega, by simp [Wk, wkT, wkL, look, AV.lo, AV.lo.loL]⟩
      · exact retQ_one rfl rfl
  · simp only [if_neg ho, decide_eq_false ho]
    refine ⟨fun h => absurd h (by decide), fun _ => ?_⟩
    refine loop_nat 0 (fun _ => True) (fun (j : Nat) => ⟨[(4, .p (pi 0)), (3, .p (pb false)), (1, .loc 0 0)], [.cells ((bookC k k2 b).map .p)], [], some [], 0⟩) trivial (by simp [Wk, wkT, wkL, look, AV.lo, AV.lo.loL]) ?_
    rintro j ⟨hj, -⟩
    simp only [go_sem, Nat.reduceBEq]
    refine loop_nat 0 (fun _ => True) (fun (j : Nat) => ⟨[(6, .p (pi 0)), (3, .p (pb false)), (1, .loc 0 0)], [.cells ((bookC k k2 b).map .p)], [], some [], 0⟩) trivial (by simp [Wk, wkT, wkL, look, AV.lo, AV.lo.loL]) ?_
    rintro i ⟨hi, -⟩
    simp only [go_sem, Nat.reduceBEq]
    exact retQ_one rfl rfl
end Go.Proofs.Ytaejmbmkkdkliaa
namespace Go.Proofs.Ytaejmbmkkdkliaa
open Go.RowKit
section
variable {k k2 : SK} {b : SBook}
theorem err_F (ho : okBook b) (hT : truthL b = []) : errI b true = 22 := by unfold errI; rw [if_pos ho, if_pos rfl, if_pos hT]
theorem err_T (ho : okBook b) (hT : truthL b ≠ []) : errI b true = 0 := by unfold errI; rw [if_pos ho, if_pos rfl, if_neg hT]
theorem child_ok {w n : Int} (hw : 1 ≤ w ∧ w ≤ b.limit) (hn : -b.lean ≤ n ∧ n ≤ b.lean) : childI b w n = true := by unfold childI; rw [decide_eq_true hw, decide_eq_true hn]; rfl
theorem Check_ok (ho : okBook b) : Sem1 18 [.agg (bookC k k2 b)] (pi 0) :=
  (Check_sem k k2 b).mono fun _ h => h.trans (by rw [if_pos ho])
theorem Right_ok (ho : okBook b) : Sem1 16 [.agg (bookC k k2 b)] (.tup [pb (decide (truthL b ≠ [])), pi 0]) :=
  (Right_sem k k2 b).mono fun _ h => h.trans (by rw [if_pos ho])
theorem Tips_F (ho : okBook b) (hT : truthL b = []) {w n : Int} (hw : 1 ≤ w ∧ w ≤ b.limit) (hn : -b.lean ≤ n ∧ n ≤ b.lean) : Sem1 20 [.agg (bookC k k2 b), pi w, pi n] (.tup [pi 0, pi 22]) :=
  (Tips_any k k2 b w n).mono fun _ h => h.trans (by rw [child_ok hw hn, err_F ho hT]; rfl)
theorem Tips_T (ho : okBook b) (hT : truthL b ≠ []) {w n : Int} (hw : 1 ≤ w ∧ w ≤ b.limit) (hn : -b.lean ≤ n ∧ n ≤ b.lean) : Sem1 20 [.agg (bookC k k2 b), pi w, pi n] (.tup [pi (answerI b (loadsI b) w n), pi 0]) :=
  (Tips_any k k2 b w n).mono fun _ h => h.trans (by rw [child_ok hw hn, err_T ho hT]; rfl)
theorem Margin_F (ho : okBook b) (hT : truthL b = []) {w n : Int} (hw : 1 ≤ w ∧ w ≤ b.limit) (hn : -b.lean ≤ n ∧ n ≤ b.lean) : Sem1 22 [.agg (bookC k k2 b), pi w, pi n] (.tup [.agg [pi 0, pi 0], pi 22]) :=
  (Margin_any k k2 b w n).mono fun _ h => h.trans (by rw [child_ok hw hn, err_F ho hT]; rfl)
theorem Margin_T (ho : okBook b) (hT : truthL b ≠ []) {w n : Int} (hw : 1 ≤ w ∧ w ≤ b.limit) (hn : -b.lean ≤ n ∧ n ≤ b.lean) : Sem1 22 [.agg (bookC k k2 b), pi w, pi n] (.tup [.agg [pi (lmI b w n (loadsI b)).2.1, pi (lmI b w n (loadsI b)).2.2], pi 0]) :=
  (Margin_any k k2 b w n).mono fun _ h => h.trans (by rw [child_ok hw hn, err_T ho hT]; rfl)
theorem Safe_F (ho : okBook b) (hT : truthL b = []) {w : Int} (hw : 1 ≤ w ∧ w ≤ b.limit) : Sem1 25 [.agg (bookC k k2 b), pi w] (.tup [pb false, pi 22]) :=
  (Safe_sem k k2 b w).mono fun _ h => h.trans (by rw [decide_eq_true hw, err_F ho hT]; rfl)
theorem Safe_T (ho : okBook b) (hT : truthL b ≠ []) {w : Int} (hw : 1 ≤ w ∧ w ≤ b.limit) : Sem1 25 [.agg (bookC k k2 b), pi w] (.tup [pb (safeI b (loadsI b) w), pi 0]) :=
  (Safe_sem k k2 b w).mono fun _ h => h.trans (by rw [decide_eq_true hw, err_T ho hT]; rfl)
theorem Least_F (ho : okBook b) (hT : truthL b = []) : Sem1 27 [.agg (bookC k k2 b)] (.tup [pi 0, pi 22]) :=
  (Least_sem k k2 b).mono fun _ h => h.trans (by rw [err_F ho hT]; rfl)
theorem Least_N (ho : okBook b) (hT : truthL b ≠ []) (hL : leastI b (loadsI b) = none) : Sem1 27 [.agg (bookC k k2 b)] (.tup [pi 0, pi 4]) :=
  (Least_sem k k2 b).mono fun _ h => h.trans (by rw [err_T ho hT, hL]; rfl)
theorem Least_S (ho : okBook b) (hT : truthL b ≠ []) {j : Nat} (hL : leastI b (loadsI b) = some j) : Sem1 27 [.agg (bookC k k2 b)] (.tup [pi (j + 1), pi 0]) :=
  (Least_sem k k2 b).mono fun _ h => h.trans (by rw [err_T ho hT, hL]; rfl)
theorem Room_F (ho : okBook b) (hT : truthL b = []) {w : Int} (hw : 1 ≤ w ∧ w ≤ b.limit) : Sem1 29 [.agg (bookC k k2 b), pi w] (.tup [.agg [pi 0, pi 0], pi 22]) :=
  (Room_sem k k2 b w).mono fun _ h => h.trans (by rw [decide_eq_true hw, err_F ho hT]; rfl)
theorem Room_N (ho : okBook b) (hT : truthL b ≠ []) {w : Int} (hw : 1 ≤ w ∧ w ≤ b.limit) (hc : ¬ holdsI b (loadsI b) w 0) : Sem1 29 [.agg (bookC k k2 b), pi w] (.tup [.agg [pi 0, pi 0], pi 4]) :=
  (Room_sem k k2 b w).mono fun _ h => h.trans (by rw [decide_eq_true hw, err_T ho hT, if_pos rfl]; unfold roomI; rw [if_pos (count_pos.2 hc)])
theorem Room_S (ho : okBook b) (hT : truthL b ≠ []) {w : Int} (hw : 1 ≤ w ∧ w ≤ b.limit) (hc : holdsI b (loadsI b) w 0) : Sem1 29 [.agg (bookC k k2 b), pi w] (.tup [.agg [pi (farI b (loadsI b) w (-1) b.lean.toNat 0), pi (farI b (loadsI b) w 1 b.lean.toNat 0)], pi 0]) :=
  (Room_sem k k2 b w).mono fun _ h => h.trans (by rw [decide_eq_true hw, err_T ho hT, if_pos rfl]; unfold roomI; rw [if_neg (fun h => count_pos.1 h hc)])
theorem Lead_F (ho : okBook b) (hT : truthL b = []) {a : Int} (ha : -60 ≤ a ∧ a ≤ 60) : Sem1 31 [.agg (bookC k k2 b), pi a] (.tup [pi 0, pi 22]) :=
  (Lead_sem k k2 b a).mono fun _ h => h.trans (by rw [decide_eq_true ha, err_F ho hT]; rfl)
theorem Lead_N (ho : okBook b) (hT : truthL b ≠ []) {a : Int} (ha : -60 ≤ a ∧ a ≤ 60) (hL : leadI b (loadsI b) a = none) : Sem1 31 [.agg (bookC k k2 b), pi a] (.tup [pi 0, pi 4]) :=
  (Lead_sem k k2 b a).mono fun _ h => h.trans (by rw [decide_eq_true ha, err_T ho hT, hL]; rfl)
theorem Lead_S (ho : okBook b) (hT : truthL b ≠ []) {a : Int} (ha : -60 ≤ a ∧ a ≤ 60) {j : Nat} (hL : leadI b (loadsI b) a = some j) : Sem1 31 [.agg (bookC k k2 b), pi a] (.tup [pi j, pi 0]) :=
  (Lead_sem k k2 b a).mono fun _ h => h.trans (by rw [decide_eq_true ha, err_T ho hT, hL]; rfl)
theorem Wider_F (ho : okBook b) (hT : truthL b = []) : Sem1 33 [.agg (bookC k k2 b)] (.tup [pi 0, pi 22]) :=
  (Wider_sem k k2 b).mono fun _ h => h.trans (by rw [err_F ho hT]; rfl)
theorem Wider_N (ho : okBook b) (hT : truthL b ≠ []) (hL : widerJ b (loadsI b) = none) : Sem1 33 [.agg (bookC k k2 b)] (.tup [pi 0, pi 4]) :=
  (Wider_sem k k2 b).mono fun _ h => h.trans (by rw [err_T ho hT, show widerI b (loadsI b) = none from hL]; rfl)
theorem Wider_S (ho : okBook b) (hT : truthL b ≠ []) {j : Nat} (hL : widerJ b (loadsI b) = some j) : Sem1 33 [.agg (bookC k k2 b)] (.tup [pi j, pi 0]) :=
  (Wider_sem k k2 b).mono fun _ h => h.trans (by rw [err_T ho hT, show widerI b (loadsI b) = some j from hL]; rfl)
theorem Wrong_ok (ho : okBook b) : Sem1 35 [.agg (bookC k k2 b)] (.tup [pis (fewI b), pi 0]) :=
  (Wrong_sem k k2 b).mono fun _ h => h.trans (by rw [if_pos ho])
end
theorem ok_rng {b : SBook} (ho : okBook b) : 1 ≤ b.limit ∧ b.limit ≤ 60 ∧ 0 ≤ b.lean ∧ b.lean ≤ 12 := by
  have := ho.2.1
  unfold okSeat at this
  omega
end Go.Proofs.Ytaejmbmkkdkliaa
