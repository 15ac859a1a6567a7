/- Law: DappleKnown. -/
import Derived.Test.YthibnlfbdbidjaaKv05
namespace Go.Proofs.Ythibnlfbdbidjaa
open Go.RowKit
def acw58 : AC := (AC.seq (AC.ops [(AOp.mk (some 0) (AK.new (PV.agg [(PV.val (Value.int IntKind.i64 0)), (PV.sl SK.full 0 [])])) none 0 false true)]) (AC.seq (AC.ops [(AOp.mk (some 1) (AK.bslice true 3 1 4 [(PV.val (Value.int IntKind.i64 0))] [(0, (1, (AX.c (PV.val (Value.int IntKind.i64 2))))), (1, (1, (AX.c (PV.val (Value.int IntKind.i64 1))))), (2, (1, (AX.c (PV.val (Value.int IntKind.i64 4))))), (3, (1, (AX.c (PV.val (Value.int IntKind.i64 1)))))]) none 0 false true), (AOp.mk (some 2) (AK.bslice true 3 1 4 [(PV.val (Value.int IntKind.i64 0))] [(0, (1, (AX.c (PV.val (Value.int IntKind.i64 4))))), (1, (1, (AX.c (PV.val (Value.int IntKind.i64 1))))), (2, (1, (AX.c (PV.val (Value.int IntKind.i64 2))))), (3, (1, (AX.c (PV.val (Value.int IntKind.i64 1)))))]) none 1 false true), (AOp.mk (some 3) (AK.bslice true 3 1 4 [(PV.val (Value.int IntKind.i64 0))] [(0, (1, (AX.c (PV.val (Value.int IntKind.i64 3))))), (1, (1, (AX.c (PV.val (Value.int IntKind.i64 4))))), (2, (1, (AX.c (PV.val (Value.int IntKind.i64 1))))), (3, (1, (AX.c (PV.val (Value.int IntKind.i64 2)))))]) none 2 false true), (AOp.mk (some 4) (AK.bslice true 3 1 4 [(PV.val (Value.int IntKind.i64 0))] [(0, (1, (AX.c (PV.val (Value.int IntKind.i64 8))))), (1, (1, (AX.c (PV.val (Value.int IntKind.i64 8))))), (2, (1, (AX.c (PV.val (Value.int IntKind.i64 8))))), (3, (1, (AX.c (PV.val (Value.int IntKind.i64 8)))))]) none 3 false true), (AOp.mk (some 5) (AK.bslice true 26 1 4 [(PV.sl SK.full 0 [])] [(0, (1, (AX.t 1))), (1, (1, (AX.t 2))), (2, (1, (AX.t 3))), (3, (1, (AX.t 4)))]) none 4 false true), (AOp.mk (some 6) (AK.build [(PV.val (Value.int IntKind.i64 0)), (PV.sl SK.full 0 [])] [(0, (1, (AX.c (PV.val (Value.int IntKind.i64 4))))), (1, (1, (AX.t 5)))]) none 5 false true), (AOp.mk none (AK.st 2 (AX.t 0) (AX.t 6)) none 6 false true)]) AC.ret))
theorem acw58_ok : cCode Try.prog (fun d => d == 1 || d == 2 || d == 3 || d == 4 || d == 5) Try.f58.ntmps (Try.f58.body.getD .skip) = some acw58 := by kernel_rfl
abbrev cellsI (l : List Int) : ABlk := .cells (l.map fun x => .p (pi x))
theorem upd0 {M L : List ABlk} : updL M [] L = M ++ L.map (ABlk.ren (mAt [] M.length)) := by cases L <;> simp [updL, setAll]
def ownL : List ABlk := [.cells [.p (pi 4), .sli 5 4 1], .cells [.p (pi 2), .p (pi 1), .p (pi 4), .p (pi 1)], .cells [.p (pi 4), .p (pi 1), .p (pi 2), .p (pi 1)], .cells [.p (pi 3), .p (pi 4), .p (pi 1), .p (pi 2)], .cells [.p (pi 8), .p (pi 8), .p (pi 8), .p (pi 8)], .cells [.sli 1 4 1, .sli 2 4 1, .sli 3 4 1, .sli 4 4 1]]
theorem own_semM : SemM Try.prog Fence.wide 58 [] [] (some []) (fun r L ys => r = .agg [.p (pi 4), .sli 5 4 1] ∧ L = ownL ∧ ys = some []) := by
  refine semM_of_exec' mixed Try.func58 (by kernel_rfl) (by kernel_rfl) acw58_ok 0 rfl (by decide) [(.cell 0 24)] (by kernel_rfl) ?_
  intro C hC hI
  unfold acw58
  simp only [go_sem, Nat.reduceBEq, Nat.reduceAdd, Nat.reduceLeDiff, putCells]
  refine ⟨[.agg [.p (pi 4), .sli 5 4 1]], _, ?_, rfl, rfl, rfl, rfl⟩
  have hsh : shapeN Try.prog 24 = some (some 2) := by kernel_rfl
  simp only [resA, hsh]
  rfl
theorem bad_Check (k : SK) {b : DBook} (ho : ¬ okBook b) : Sem1 21 [.agg (bookC k b)] (pi 70) := (Check_sem k b).mono fun _ e => e.trans (by rw [if_neg ho])
theorem bad_err {b : DBook} (ho : ¬ okBook b) (x : Bool) : errI b x = 70 := by unfold errI; rw [if_neg ho]
theorem bad_Turns (k : SK) {b : DBook} (ho : ¬ okBook b) (n m : Int) : Sem1 18 [.agg (bookC k b), pi n, pi m] (.tup [pis [], pi 70]) := (Turns_sem k b n m).mono fun _ e => e.trans (by rw [bad_err ho, if_neg (by decide)])
theorem bad_Same (k : SK) {b : DBook} (ho : ¬ okBook b) (n m : Int) : Sem1 23 [.agg (bookC k b), pi n, pi m] (.tup [pi 0, pi 70]) := (Same_sem k b n m).mono fun _ e => e.trans (by rw [bad_err ho, if_neg (by decide)])
theorem bad_Clash (k : SK) {b : DBook} (ho : ¬ okBook b) : Sem1 30 [.agg (bookC k b)] (.tup [pi 0, pi 0, pi 70]) := (Clash_sem k b).mono fun _ e => e.trans (by unfold twoE; rw [if_neg ho])
theorem bad_Sure (k : SK) {b : DBook} (ho : ¬ okBook b) : Sem1 32 [.agg (bookC k b)] (.tup [pi 0, pi 0, pi 70]) := (Sure_sem k b).mono fun _ e => e.trans (by unfold twoE; rw [if_neg ho])
theorem bad_Whose (k : SK) {b : DBook} (ho : ¬ okBook b) (r : List Int) : Sem1 26 [.agg (bookC k b), pis r] (.tup [pis [], pi 70]) := (Whose_sem k b r).mono fun _ e => e.trans (by rw [bad_err ho, if_neg (by decide)])
theorem bad_New (k : SK) {b : DBook} (ho : ¬ okBook b) : Sem1 28 [.agg (bookC k b)] (.tup [pis [], pi 70]) := (New_sem k b).mono fun _ e => e.trans (by unfold newR; rw [if_neg ho])
theorem bad_Drop (k : SK) {b : DBook} (ho : ¬ okBook b) : Sem1 34 [.agg (bookC k b)] (.tup [pis [], pi 70]) := (Drop_sem k b).mono fun _ e => e.trans (by rw [if_neg ho])
theorem bad_Look (k : SK) {b : DBook} (ho : ¬ okBook b) : Sem1 36 [.agg (bookC k b)] (.tup [pi 0, pi 0, pi 70]) := (Look_sem k b).mono fun _ e => e.trans (by unfold lookR; rw [if_neg ho])
def badB0 : DBook := ⟨0, []⟩
theorem badB0_no : ¬ okBook badB0 := by decide
def badB1 : DBook := ⟨9, [[2, 1, 4, 1], [4, 1, 2, 1], [3, 4, 1, 2], [8, 8, 8, 8]]⟩
theorem badB1_no : ¬ okBook badB1 := by decide
def badB2 : DBook := ⟨4, []⟩
theorem badB2_no : ¬ okBook badB2 := by decide
def badB3 : DBook := ⟨4, [[2, 1, 4, 1], [4, 1, 2, 1], [3, 4, 1, 2], [8, 8, 8, 8], [2, 1, 4, 1], [4, 1, 2, 1], [3, 4, 1, 2], [8, 8, 8, 8]]⟩
theorem badB3_no : ¬ okBook badB3 := by decide
def badB4 : DBook := ⟨4, [[2, 1, 4, 1], [1, 1, 1], [3, 4, 1, 2], [8, 8, 8, 8]]⟩
theorem badB4_no : ¬ okBook badB4 := by decide
def badB5 : DBook := ⟨4, [[2, 1, 4, 1], [4, 1, 2, 1], [3, 4, 1, 2], [16, 8, 8, 8]]⟩
theorem badB5_no : ¬ okBook badB5 := by decide
def badB6 : DBook := ⟨4, [[2, 1, 4, 1], [4, 1, 2, 1], [3, 4, 1, 2], [0, 8, 8, 8]]⟩
theorem badB6_no : ¬ okBook badB6 := by decide
def badB7 : DBook := ⟨3, [[2, 1, 4, 1], [4, 1, 2, 1], [3, 4, 1, 2], [8, 8, 8, 8]]⟩
theorem badB7_no : ¬ okBook badB7 := by decide
def badL0 (t : Nat) : List ABlk := [.cells [.p (pi 4), .sli 5 4 1], .cells [.p (pi 2), .p (pi 1), .p (pi 4), .p (pi 1)], .cells [.p (pi 4), .p (pi 1), .p (pi 2), .p (pi 1)], .cells [.p (pi 3), .p (pi 4), .p (pi 1), .p (pi 2)], .cells [.p (pi 8), .p (pi 8), .p (pi 8), .p (pi 8)], .cells [.sli 1 4 1, .sli 19 3 1, .sli 3 4 1, .sli 4 4 1], .cells [.p (pi 4), .sli 11 4 1], .cells [.p (pi 2), .p (pi 1), .p (pi 4), .p (pi 1)], .cells [.p (pi 4), .p (pi 1), .p (pi 2), .p (pi 1)], .cells [.p (pi 3), .p (pi 4), .p (pi 1), .p (pi 2)], .cells [.p (pi 16), .p (pi 8), .p (pi 8), .p (pi 8)], .cells [.sli 7 4 1, .sli 8 4 1, .sli 9 4 1, .sli 10 4 1], .cells [.p (pi 4), .sli 17 4 1], .cells [.p (pi 2), .p (pi 1), .p (pi 4), .p (pi 1)], .cells [.p (pi 4), .p (pi 1), .p (pi 2), .p (pi 1)], .cells [.p (pi 3), .p (pi 4), .p (pi 1), .p (pi 2)], .cells [.p (pi 0), .p (pi 8), .p (pi 8), .p (pi 8)], .cells [.sli 13 4 1, .sli 14 4 1, .sli 15 4 1, .sli 16 4 1], .cells [.p (pi 0), .p (.sl .full 0 []), .p (pi 9), .p (.sl .full 1 [[pis [2, 1, 4, 1]], [pis [4, 1, 2, 1]], [pis [3, 4, 1, 2]], [pis [8, 8, 8, 8]]]), .p (pi 4), .p (.sl .full 0 []), .p (pi 4), .p (.sl (.own t 26 1) 1 [[pis [2, 1, 4, 1]], [pis [4, 1, 2, 1]], [pis [3, 4, 1, 2]], [pis [8, 8, 8, 8]], [pis [2, 1, 4, 1]], [pis [4, 1, 2, 1]], [pis [3, 4, 1, 2]], [pis [8, 8, 8, 8]]]), .p (pi 4), .sli 5 4 1, .p (pi 4), .sli 11 4 1, .p (pi 4), .sli 17 4 1, .p (pi 3), .p (.sl .full 1 [[pis [2, 1, 4, 1]], [pis [4, 1, 2, 1]], [pis [3, 4, 1, 2]], [pis [8, 8, 8, 8]]])], .cells [.p (pi 1), .p (pi 1), .p (pi 1)]]
def badL1 (t : Nat) : List ABlk := [.cells [.p (pi 4), .sli 5 4 1], .frz [pi 2, pi 1, pi 4, pi 1], .cells [.p (pi 4), .p (pi 1), .p (pi 2), .p (pi 1)], .frz [pi 3, pi 4, pi 1, pi 2], .frz [pi 8, pi 8, pi 8, pi 8], .frz [pis [2, 1, 4, 1], pis [1, 1, 1], pis [3, 4, 1, 2], pis [8, 8, 8, 8]], .cells [.p (pi 4), .sli 11 4 1], .cells [.p (pi 2), .p (pi 1), .p (pi 4), .p (pi 1)], .cells [.p (pi 4), .p (pi 1), .p (pi 2), .p (pi 1)], .cells [.p (pi 3), .p (pi 4), .p (pi 1), .p (pi 2)], .cells [.p (pi 16), .p (pi 8), .p (pi 8), .p (pi 8)], .cells [.sli 7 4 1, .sli 8 4 1, .sli 9 4 1, .sli 10 4 1], .cells [.p (pi 4), .sli 17 4 1], .cells [.p (pi 2), .p (pi 1), .p (pi 4), .p (pi 1)], .cells [.p (pi 4), .p (pi 1), .p (pi 2), .p (pi 1)], .cells [.p (pi 3), .p (pi 4), .p (pi 1), .p (pi 2)], .cells [.p (pi 0), .p (pi 8), .p (pi 8), .p (pi 8)], .cells [.sli 13 4 1, .sli 14 4 1, .sli 15 4 1, .sli 16 4 1], .cells [.p (pi 0), .p (.sl .full 0 []), .p (pi 9), .p (.sl .full 1 [[pis [2, 1, 4, 1]], [pis [4, 1, 2, 1]], [pis [3, 4, 1, 2]], [pis [8, 8, 8, 8]]]), .p (pi 4), .p (.sl .full 0 []), .p (pi 4), .p (.sl (.own t 26 1) 1 [[pis [2, 1, 4, 1]], [pis [4, 1, 2, 1]], [pis [3, 4, 1, 2]], [pis [8, 8, 8, 8]], [pis [2, 1, 4, 1]], [pis [4, 1, 2, 1]], [pis [3, 4, 1, 2]], [pis [8, 8, 8, 8]]]), .p (pi 4), .sli 5 4 1, .p (pi 4), .sli 11 4 1, .p (pi 4), .sli 17 4 1, .p (pi 3), .p (.sl .full 1 [[pis [2, 1, 4, 1]], [pis [4, 1, 2, 1]], [pis [3, 4, 1, 2]], [pis [8, 8, 8, 8]]])], .frz [pi 1, pi 1, pi 1]]
def badL2 (t : Nat) : List ABlk := [.cells [.p (pi 4), .sli 5 4 1], .frz [pi 2, pi 1, pi 4, pi 1], .cells [.p (pi 4), .p (pi 1), .p (pi 2), .p (pi 1)], .frz [pi 3, pi 4, pi 1, pi 2], .frz [pi 8, pi 8, pi 8, pi 8], .frz [pis [2, 1, 4, 1], pis [1, 1, 1], pis [3, 4, 1, 2], pis [8, 8, 8, 8]], .cells [.p (pi 4), .sli 11 4 1], .frz [pi 2, pi 1, pi 4, pi 1], .frz [pi 4, pi 1, pi 2, pi 1], .frz [pi 3, pi 4, pi 1, pi 2], .frz [pi 16, pi 8, pi 8, pi 8], .frz [pis [2, 1, 4, 1], pis [4, 1, 2, 1], pis [3, 4, 1, 2], pis [16, 8, 8, 8]], .cells [.p (pi 4), .sli 17 4 1], .cells [.p (pi 2), .p (pi 1), .p (pi 4), .p (pi 1)], .cells [.p (pi 4), .p (pi 1), .p (pi 2), .p (pi 1)], .cells [.p (pi 3), .p (pi 4), .p (pi 1), .p (pi 2)], .cells [.p (pi 0), .p (pi 8), .p (pi 8), .p (pi 8)], .cells [.sli 13 4 1, .sli 14 4 1, .sli 15 4 1, .sli 16 4 1], .cells [.p (pi 0), .p (.sl .full 0 []), .p (pi 9), .p (.sl .full 1 [[pis [2, 1, 4, 1]], [pis [4, 1, 2, 1]], [pis [3, 4, 1, 2]], [pis [8, 8, 8, 8]]]), .p (pi 4), .p (.sl .full 0 []), .p (pi 4), .p (.sl (.own t 26 1) 1 [[pis [2, 1, 4, 1]], [pis [4, 1, 2, 1]], [pis [3, 4, 1, 2]], [pis [8, 8, 8, 8]], [pis [2, 1, 4, 1]], [pis [4, 1, 2, 1]], [pis [3, 4, 1, 2]], [pis [8, 8, 8, 8]]]), .p (pi 4), .sli 5 4 1, .p (pi 4), .sli 11 4 1, .p (pi 4), .sli 17 4 1, .p (pi 3), .p (.sl .full 1 [[pis [2, 1, 4, 1]], [pis [4, 1, 2, 1]], [pis [3, 4, 1, 2]], [pis [8, 8, 8, 8]]])], .frz [pi 1, pi 1, pi 1]]
def badL3 (t : Nat) : List ABlk := [.cells [.p (pi 4), .sli 5 4 1], .frz [pi 2, pi 1, pi 4, pi 1], .cells [.p (pi 4), .p (pi 1), .p (pi 2), .p (pi 1)], .frz [pi 3, pi 4, pi 1, pi 2], .frz [pi 8, pi 8, pi 8, pi 8], .frz [pis [2, 1, 4, 1], pis [1, 1, 1], pis [3, 4, 1, 2], pis [8, 8, 8, 8]], .cells [.p (pi 4), .sli 11 4 1], .frz [pi 2, pi 1, pi 4, pi 1], .frz [pi 4, pi 1, pi 2, pi 1], .frz [pi 3, pi 4, pi 1, pi 2], .frz [pi 16, pi 8, pi 8, pi 8], .frz [pis [2, 1, 4, 1], pis [4, 1, 2, 1], pis [3, 4, 1, 2], pis [16, 8, 8, 8]], .cells [.p (pi 4), .sli 17 4 1], .frz [pi 2, pi 1, pi 4, pi 1], .frz [pi 4, pi 1, pi 2, pi 1], .frz [pi 3, pi 4, pi 1, pi 2], .frz [pi 0, pi 8, pi 8, pi 8], .frz [pis [2, 1, 4, 1], pis [4, 1, 2, 1], pis [3, 4, 1, 2], pis [0, 8, 8, 8]], .cells [.p (pi 0), .p (.sl .full 0 []), .p (pi 9), .p (.sl .full 1 [[pis [2, 1, 4, 1]], [pis [4, 1, 2, 1]], [pis [3, 4, 1, 2]], [pis [8, 8, 8, 8]]]), .p (pi 4), .p (.sl .full 0 []), .p (pi 4), .p (.sl (.own t 26 1) 1 [[pis [2, 1, 4, 1]], [pis [4, 1, 2, 1]], [pis [3, 4, 1, 2]], [pis [8, 8, 8, 8]], [pis [2, 1, 4, 1]], [pis [4, 1, 2, 1]], [pis [3, 4, 1, 2]], [pis [8, 8, 8, 8]]]), .p (pi 4), .sli 5 4 1, .p (pi 4), .sli 11 4 1, .p (pi 4), .sli 17 4 1, .p (pi 3), .p (.sl .full 1 [[pis [2, 1, 4, 1]], [pis [4, 1, 2, 1]], [pis [3, 4, 1, 2]], [pis [8, 8, 8, 8]]])], .frz [pi 1, pi 1, pi 1]]
def badL (t : Nat) : Nat → List ABlk
  | 5 => badL1 t
  | 6 => badL2 t
  | 7 => badL3 t
  | 8 => badL3 t
  | _ => badL0 t
def aloneB : DBook := ⟨4, [[2, 1, 4, 1]]⟩
def evenB : DBook := ⟨4, [[1, 2, 1, 2], [2, 1, 2, 1], [1, 1, 1, 1]]⟩
set_option maxRecDepth 100000
theorem slc_alone : slcS 1 (AV.p (PV.sl SK.full 1 [[pis [2, 1, 4, 1]], [pis [4, 1, 2, 1]], [pis [3, 4, 1, 2]], [pis [8, 8, 8, 8]]])) (some none) (some (some 1)) (some none) = some (.p (.sl .sh 1 [[pis [2, 1, 4, 1]]])) := by
  rw [slcS_hi (.inl rfl) ⟨by decide, by decide⟩]
  rfl
theorem kn_t1 : Sem1 18 [.agg (bookC .full ownB), pi 0, pi 0] (.tup [pis [], pi 71]) := (Turns_sem .full ownB 0 0).mono fun _ h => h.trans (by kernel_rfl)
theorem kn_t2 : Sem1 18 [.agg (bookC .full ownB), pi 0, pi 4] (.tup [pis [], pi 71]) := (Turns_sem .full ownB 0 4).mono fun _ h => h.trans (by kernel_rfl)
theorem kn_s1 : Sem1 23 [.agg (bookC .full ownB), pi (-1), pi 0] (.tup [pi 0, pi 71]) := (Same_sem .full ownB (-1) 0).mono fun _ h => h.trans (by kernel_rfl)
theorem kn_s2 : Sem1 23 [.agg (bookC .full ownB), pi 1, pi 1] (.tup [pi 0, pi 71]) := (Same_sem .full ownB 1 1).mono fun _ h => h.trans (by kernel_rfl)
theorem kn_w1 : Sem1 26 [.agg (bookC .full ownB), pis [0, 0, 0]] (.tup [pis [], pi 71]) := (Whose_sem .full ownB [0, 0, 0]).mono fun _ h => h.trans (by kernel_rfl)
theorem kn_w2 : Sem1 26 [.agg (bookC .full ownB), pis [0, 0, 0, 4]] (.tup [pis [], pi 71]) := (Whose_sem .full ownB [0, 0, 0, 4]).mono fun _ h => h.trans (by kernel_rfl)
theorem kn_w3 : Sem1 26 [.agg (bookC .full ownB), pis [-1, 0, 0, 0]] (.tup [pis [], pi 71]) := (Whose_sem .full ownB [-1, 0, 0, 0]).mono fun _ h => h.trans (by kernel_rfl)
theorem kn_n1 : Sem1 28 [.agg (bookC .sh wornB)] (.tup [pis [], pi 4]) := (New_sem .sh wornB).mono fun _ h => h.trans (by kernel_rfl)
theorem kn_c1 : Sem1 30 [.agg (bookC .sh aloneB)] (.tup [pi 0, pi 0, pi 4]) := (Clash_sem .sh aloneB).mono fun _ h => h.trans (by kernel_rfl)
theorem kn_l1 : Sem1 36 [.agg (bookC .sh aloneB)] (.tup [pi 0, pi 0, pi 4]) := (Look_sem .sh aloneB).mono fun _ h => h.trans (by kernel_rfl)
theorem kn_u1 : Sem1 32 [.agg (bookC .full ownB)] (.tup [pi 0, pi 1, pi 0]) := (Sure_sem .full ownB).mono fun _ h => h.trans (by kernel_rfl)
theorem kn_x0 : Sem1 18 [.agg (bookC .full ownB), pi 0, pi 1] (.tup [pis [2], pi 0]) := (Turns_sem .full ownB 0 1).mono fun _ h => h.trans (by kernel_rfl)
theorem kn_x1 : Sem1 18 [.agg (bookC .full ownB), pi 0, pi 2] (.tup [pis [1], pi 0]) := (Turns_sem .full ownB 0 2).mono fun _ h => h.trans (by kernel_rfl)
theorem kn_x2 : Sem1 18 [.agg (bookC .full ownB), pi 1, pi 2] (.tup [pis [3], pi 0]) := (Turns_sem .full ownB 1 2).mono fun _ h => h.trans (by kernel_rfl)
theorem kn_x3 : Sem1 18 [.agg (bookC .full ownB), pi 1, pi 0] (.tup [pis [2], pi 0]) := (Turns_sem .full ownB 1 0).mono fun _ h => h.trans (by kernel_rfl)
theorem kn_t3 : Sem1 18 [.agg (bookC .full ownB), pi 0, pi 3] (.tup [pis [], pi 0]) := (Turns_sem .full ownB 0 3).mono fun _ h => h.trans (by kernel_rfl)
theorem kn_s3 : Sem1 23 [.agg (bookC .full ownB), pi 2, pi 0] (.tup [pi 1, pi 0]) := (Same_sem .full ownB 2 0).mono fun _ h => h.trans (by kernel_rfl)
theorem kn_s4 : Sem1 23 [.agg (bookC .full ownB), pi 0, pi 3] (.tup [pi 0, pi 0]) := (Same_sem .full ownB 0 3).mono fun _ h => h.trans (by kernel_rfl)
theorem kn_w4 : Sem1 26 [.agg (bookC .full ownB), pis [2, 0, 1, 0]] (.tup [pis [0, 1, 2], pi 0]) := (Whose_sem .full ownB [2, 0, 1, 0]).mono fun _ h => h.trans (by kernel_rfl)
theorem kn_w5 : Sem1 26 [.agg (bookC .full ownB), pis [3, 3, 3, 3]] (.tup [pis [3], pi 0]) := (Whose_sem .full ownB [3, 3, 3, 3]).mono fun _ h => h.trans (by kernel_rfl)
theorem kn_w6 : Sem1 26 [.agg (bookC .sh wornB), pis [0, 0, 0, 0]] (.tup [pis [4], pi 0]) := (Whose_sem .sh wornB [0, 0, 0, 0]).mono fun _ h => h.trans (by kernel_rfl)
theorem kn_d1 : Sem1 34 [.agg (bookC .full ownB)] (.tup [pis [0, 1], pi 0]) := (Drop_sem .full ownB).mono fun _ h => h.trans (by kernel_rfl)
theorem kn_l2 : Sem1 36 [.agg (bookC .full ownB)] (.tup [pi 2, pi 0, pi 0]) := (Look_sem .full ownB).mono fun _ h => h.trans (by kernel_rfl)
theorem kn_d2 : Sem1 34 [.agg (bookC .sh aloneB)] (.tup [pis [], pi 0]) := (Drop_sem .sh aloneB).mono fun _ h => h.trans (by kernel_rfl)
theorem kn_t4 : Sem1 18 [.agg (bookC .full evenB), pi 0, pi 1] (.tup [pis [1, 3], pi 0]) := (Turns_sem .full evenB 0 1).mono fun _ h => h.trans (by kernel_rfl)
theorem kn_n2 : Sem1 28 [.agg (bookC .full evenB)] (.tup [pis [0, 0, 0, 1], pi 0]) := (New_sem .full evenB).mono fun _ h => h.trans (by kernel_rfl)
theorem ix3_0 {cs : List PV} : iadrAS 1 3 (AV.p (PV.ptr cs 0)) (AV.p (PV.val (Value.int IntKind.i64 0))) = some (.p (.ptr cs 0)) := rfl
theorem ix3_1 {cs : List PV} : iadrAS 1 3 (AV.p (PV.ptr cs 0)) (AV.p (PV.val (Value.int IntKind.i64 1))) = some (.p (.ptr cs 1)) := rfl
theorem ix3_2 {cs : List PV} : iadrAS 1 3 (AV.p (PV.ptr cs 0)) (AV.p (PV.val (Value.int IntKind.i64 2))) = some (.p (.ptr cs 2)) := rfl
theorem even_le : PVle (.agg [pi 4, .sl .full 1 [[.sl .full 1 [[pi 1], [pi 2], [pi 1], [pi 2]]], [.sl .full 1 [[pi 2], [pi 1], [pi 2], [pi 1]]], [.sl .full 1 [[pi 1], [pi 1], [pi 1], [pi 1]]]]]) (.agg (bookC .full evenB)) := PVle.agg (show PVleL [_, _] [_, _] from ⟨PVle.refl _, (PVle.rowsK (show PVleR [_, _, _] [_, _, _] from ⟨⟨PVle.sh _ _ _, trivial⟩, ⟨PVle.sh _ _ _, trivial⟩, ⟨PVle.sh _ _ _, trivial⟩, trivial⟩)), trivial⟩)
theorem trn_0 : iadrS' 3 (AV.p (PV.sl SK.full 3 [[pi 0, pi 1, pi 2], [pi 0, pi 2, pi 1], [pi 1, pi 2, pi 3], [pi 1, pi 0, pi 2]])) (AV.p (PV.val (Value.int IntKind.i64 0))) = some (.p (.ptr [pi 0, pi 1, pi 2] 0)) := rfl
theorem trn_1 : iadrS' 3 (AV.p (PV.sl SK.full 3 [[pi 0, pi 1, pi 2], [pi 0, pi 2, pi 1], [pi 1, pi 2, pi 3], [pi 1, pi 0, pi 2]])) (AV.p (PV.val (Value.int IntKind.i64 1))) = some (.p (.ptr [pi 0, pi 2, pi 1] 0)) := rfl
theorem trn_2 : iadrS' 3 (AV.p (PV.sl SK.full 3 [[pi 0, pi 1, pi 2], [pi 0, pi 2, pi 1], [pi 1, pi 2, pi 3], [pi 1, pi 0, pi 2]])) (AV.p (PV.val (Value.int IntKind.i64 2))) = some (.p (.ptr [pi 1, pi 2, pi 3] 0)) := rfl
theorem trn_3 : iadrS' 3 (AV.p (PV.sl SK.full 3 [[pi 0, pi 1, pi 2], [pi 0, pi 2, pi 1], [pi 1, pi 2, pi 3], [pi 1, pi 0, pi 2]])) (AV.p (PV.val (Value.int IntKind.i64 3))) = some (.p (.ptr [pi 1, pi 0, pi 2] 0)) := rfl
def ac16 : AC := (AC.seq (AC.ops [(AOp.mk (some 0) (AK.mv (AX.c (PV.val (Value.bool false)))) none 0 false true)]) (AC.seq (AC.ops [(AOp.mk (some 65) (AK.build [(PV.val (Value.int IntKind.i64 0)), (PV.sl SK.full 0 [])] []) none 0 false true), (AOp.mk (some 66) (AK.call 58 []) none 1 false true), (AOp.mk (some 67) (AK.call 58 []) none 2 false true), (AOp.mk (some 68) (AK.call 58 []) none 3 false true), (AOp.mk (some 69) (AK.call 58 []) none 4 false true), (AOp.mk (some 70) (AK.call 58 []) none 5 false true), (AOp.mk (some 71) (AK.call 58 []) none 6 false true), (AOp.mk (some 72) (AK.call 58 []) none 7 false true), (AOp.mk (some 73) (AK.bslice true 24 2 8 [(PV.val (Value.int IntKind.i64 0)), (PV.sl SK.full 0 [])] [(0, (2, (AX.t 65))), (2, (2, (AX.t 66))), (4, (2, (AX.t 67))), (6, (2, (AX.t 68))), (8, (2, (AX.t 69))), (10, (2, (AX.t 70))), (12, (2, (AX.t 71))), (14, (2, (AX.t 72)))]) none 8 false true), (AOp.mk (some 1) (AK.mv (AX.t 73)) none 9 false true)]) (AC.seq (AC.ops [(AOp.mk (some 74) (AK.mv (AX.t 1)) none 0 false true), (AOp.mk (some 75) (AK.iadrS 2 (AX.t 74) (AX.c (PV.val (Value.int IntKind.i64 1)))) none 1 false true), (AOp.mk (some 76) (AK.fadr 0 (AX.t 75)) none 2 false true), (AOp.mk none (AK.st 1 (AX.t 76) (AX.c (PV.val (Value.int IntKind.i64 9)))) none 3 false true)]) (AC.seq (AC.ops [(AOp.mk (some 77) (AK.mv (AX.t 1)) none 0 false true), (AOp.mk (some 78) (AK.iadrS 2 (AX.t 77) (AX.c (PV.val (Value.int IntKind.i64 2)))) none 1 false true), (AOp.mk (some 79) (AK.fadr 1 (AX.t 78)) none 2 false true), (AOp.mk none (AK.st 1 (AX.t 79) (AX.c (PV.sl SK.full 0 []))) none 3 false true)]) (AC.seq (AC.ops [(AOp.mk (some 80) (AK.mv (AX.t 1)) none 0 false true), (AOp.mk (some 81) (AK.call 58 []) none 1 false true), (AOp.mk (some 82) (AK.fld 1 none (AX.t 81)) none 2 false true), (AOp.mk (some 83) (AK.call 58 []) none 3 false true), (AOp.mk (some 84) (AK.fld 1 none (AX.t 83)) none 4 false true), (AOp.mk (some 85) (AK.app false 26 1 24 [(PV.sl SK.full 0 [])] (AX.t 82) (AX.t 84)) none 5 false true), (AOp.mk (some 86) (AK.iadrS 2 (AX.t 80) (AX.c (PV.val (Value.int IntKind.i64 3)))) none 6 false true), (AOp.mk (some 87) (AK.fadr 1 (AX.t 86)) none 7 false true), (AOp.mk none (AK.st 1 (AX.t 87) (AX.t 85)) none 8 false true)]) (AC.seq (AC.ops [(AOp.mk (some 88) (AK.mv (AX.t 1)) none 0 false true), (AOp.mk (some 89) (AK.iadrS 2 (AX.t 88) (AX.c (PV.val (Value.int IntKind.i64 4)))) none 1 false true), (AOp.mk (some 90) (AK.fadr 1 (AX.t 89)) none 2 false true), (AOp.mk (some 91) (AK.ld none (AX.t 90)) none 3 false true), (AOp.mk (some 92) (AK.bslice true 3 1 3 [(PV.val (Value.int IntKind.i64 0))] [(0, (1, (AX.c (PV.val (Value.int IntKind.i64 1))))), (1, (1, (AX.c (PV.val (Value.int IntKind.i64 1))))), (2, (1, (AX.c (PV.val (Value.int IntKind.i64 1)))))]) none 4 false true), (AOp.mk (some 93) (AK.iadrS 1 (AX.t 91) (AX.c (PV.val (Value.int IntKind.i64 1)))) none 5 false true), (AOp.mk none (AK.st 1 (AX.t 93) (AX.t 92)) none 6 false true)]) (AC.seq (AC.ops [(AOp.mk (some 94) (AK.mv (AX.t 1)) none 0 false true), (AOp.mk (some 95) (AK.iadrS 2 (AX.t 94) (AX.c (PV.val (Value.int IntKind.i64 5)))) none 1 false true), (AOp.mk (some 96) (AK.fadr 1 (AX.t 95)) none 2 false true), (AOp.mk (some 97) (AK.ld none (AX.t 96)) none 3 false true), (AOp.mk (some 98) (AK.iadrS 1 (AX.t 97) (AX.c (PV.val (Value.int IntKind.i64 3)))) none 4 false true), (AOp.mk (some 99) (AK.ld none (AX.t 98)) none 5 false true), (AOp.mk (some 100) (AK.iadrS 1 (AX.t 99) (AX.c (PV.val (Value.int IntKind.i64 0)))) none 6 false true), (AOp.mk none (AK.st 1 (AX.t 100) (AX.c (PV.val (Value.int IntKind.i64 16)))) none 7 false true)]) (AC.seq (AC.ops [(AOp.mk (some 101) (AK.mv (AX.t 1)) none 0 false true), (AOp.mk (some 102) (AK.iadrS 2 (AX.t 101) (AX.c (PV.val (Value.int IntKind.i64 6)))) none 1 false true), (AOp.mk (some 103) (AK.fadr 1 (AX.t 102)) none 2 false true), (AOp.mk (some 104) (AK.ld none (AX.t 103)) none 3 false true), (AOp.mk (some 105) (AK.iadrS 1 (AX.t 104) (AX.c (PV.val (Value.int IntKind.i64 3)))) none 4 false true), (AOp.mk (some 106) (AK.ld none (AX.t 105)) none 5 false true), (AOp.mk (some 107) (AK.iadrS 1 (AX.t 106) (AX.c (PV.val (Value.int IntKind.i64 0)))) none 6 false true), (AOp.mk none (AK.st 1 (AX.t 107) (AX.c (PV.val (Value.int IntKind.i64 0)))) none 7 false true)]) (AC.seq (AC.ops [(AOp.mk (some 108) (AK.mv (AX.t 1)) none 0 false true), (AOp.mk (some 109) (AK.iadrS 2 (AX.t 108) (AX.c (PV.val (Value.int IntKind.i64 7)))) none 1 false true), (AOp.mk (some 110) (AK.fadr 0 (AX.t 109)) none 2 false true), (AOp.mk none (AK.st 1 (AX.t 110) (AX.c (PV.val (Value.int IntKind.i64 3)))) none 3 false true)]) (AC.seq (AC.seq (AC.ops [(AOp.mk (some 2) (AK.mv (AX.c (PV.val (Value.int IntKind.i64 0)))) none 0 false true)]) (AC.block 0 (AC.loop (AC.seq (AC.seq (AC.ops [(AOp.mk (some 111) (AK.mv (AX.t 2)) none 0 false true), (AOp.mk (some 112) (AK.mv (AX.t 1)) none 1 false true), (AOp.mk (some 113) (AK.len (AX.t 112)) none 2 false true), (AOp.mk (some 114) (AK.bin false BinOp.lss (AX.t 111) (AX.t 113)) none 3 false true)]) (AC.cond (AX.t 114) AC.skip (AC.exit 0))) (AC.seq (AC.block 1 (AC.seq (AC.ops [(AOp.mk (some 118) (AK.mv (AX.t 1)) none 0 false true), (AOp.mk (some 119) (AK.mv (AX.t 2)) none 1 false true), (AOp.mk (some 120) (AK.iadrS 2 (AX.t 118) (AX.t 119)) none 2 false true), (AOp.mk (some 121) (AK.ld (some 2) (AX.t 120)) none 3 false true), (AOp.mk (some 122) (AK.call 18 [(AX.t 121), (AX.c (PV.val (Value.int IntKind.i64 (-1)))), (AX.c (PV.val (Value.int IntKind.i64 (-1))))]) none 4 false true), (AOp.mk (some 117) (AK.mv (AX.t 122)) none 5 false true), (AOp.mk (some 123) (AK.ext (AX.t 117) 0) none 6 false true), (AOp.mk (some 124) (AK.ext (AX.t 117) 1) none 7 false true), (AOp.mk (some 3) (AK.mv (AX.t 123)) none 8 false true), (AOp.mk (some 4) (AK.mv (AX.t 124)) none 9 false true)]) (AC.seq (AC.ops [(AOp.mk (some 126) (AK.mv (AX.t 1)) none 0 false true), (AOp.mk (some 127) (AK.mv (AX.t 2)) none 1 false true), (AOp.mk (some 128) (AK.iadrS 2 (AX.t 126) (AX.t 127)) none 2 false true), (AOp.mk (some 129) (AK.ld (some 2) (AX.t 128)) none 3 false true), (AOp.mk (some 130) (AK.call 23 [(AX.t 129), (AX.c (PV.val (Value.int IntKind.i64 (-1)))), (AX.c (PV.val (Value.int IntKind.i64 (-1))))]) none 4 false true), (AOp.mk (some 125) (AK.mv (AX.t 130)) none 5 false true), (AOp.mk (some 131) (AK.ext (AX.t 125) 0) none 6 false true), (AOp.mk (some 132) (AK.ext (AX.t 125) 1) none 7 false true), (AOp.mk (some 5) (AK.mv (AX.t 131)) none 8 false true), (AOp.mk (some 6) (AK.mv (AX.t 132)) none 9 false true)]) (AC.seq (AC.ops [(AOp.mk (some 134) (AK.mv (AX.t 1)) none 0 false true), (AOp.mk (some 135) (AK.mv (AX.t 2)) none 1 false true), (AOp.mk (some 136) (AK.iadrS 2 (AX.t 134) (AX.t 135)) none 2 false true), (AOp.mk (some 137) (AK.ld (some 2) (AX.t 136)) none 3 false true), (AOp.mk (some 138) (AK.call 30 [(AX.t 137)]) none 4 false true), (AOp.mk (some 133) (AK.mv (AX.t 138)) none 5 false true), (AOp.mk (some 139) (AK.ext (AX.t 133) 0) none 6 false true), (AOp.mk (some 140) (AK.ext (AX.t 133) 1) none 7 false true), (AOp.mk (some 141) (AK.ext (AX.t 133) 2) none 8 false true), (AOp.mk (some 7) (AK.mv (AX.t 139)) none 9 false true), (AOp.mk (some 8) (AK.mv (AX.t 140)) none 10 false true), (AOp.mk (some 9) (AK.mv (AX.t 141)) none 11 false true)]) (AC.seq (AC.ops [(AOp.mk (some 143) (AK.mv (AX.t 1)) none 0 false true), (AOp.mk (some 144) (AK.mv (AX.t 2)) none 1 false true), (AOp.mk (some 145) (AK.iadrS 2 (AX.t 143) (AX.t 144)) none 2 false true), (AOp.mk (some 146) (AK.ld (some 2) (AX.t 145)) none 3 false true), (AOp.mk (some 147) (AK.call 32 [(AX.t 146)]) none 4 false true), (AOp.mk (some 142) (AK.mv (AX.t 147)) none 5 false true), (AOp.mk (some 148) (AK.ext (AX.t 142) 0) none 6 false true), (AOp.mk (some 149) (AK.ext (AX.t 142) 1) none 7 false true), (AOp.mk (some 150) (AK.ext (AX.t 142) 2) none 8 false true), (AOp.mk (some 10) (AK.mv (AX.t 148)) none 9 false true), (AOp.mk (some 11) (AK.mv (AX.t 149)) none 10 false true), (AOp.mk (some 12) (AK.mv (AX.t 150)) none 11 false true)]) (AC.seq (AC.ops [(AOp.mk (some 152) (AK.mv (AX.t 1)) none 0 false true), (AOp.mk (some 153) (AK.mv (AX.t 2)) none 1 false true), (AOp.mk (some 154) (AK.iadrS 2 (AX.t 152) (AX.t 153)) none 2 false true), (AOp.mk (some 155) (AK.ld (some 2) (AX.t 154)) none 3 false true), (AOp.mk (some 156) (AK.call 26 [(AX.t 155), (AX.c (PV.sl SK.full 0 []))]) none 4 false true), (AOp.mk (some 151) (AK.mv (AX.t 156)) none 5 false true), (AOp.mk (some 157) (AK.ext (AX.t 151) 0) none 6 false true), (AOp.mk (some 158) (AK.ext (AX.t 151) 1) none 7 false true), (AOp.mk (some 13) (AK.mv (AX.t 157)) none 8 false true), (AOp.mk (some 14) (AK.mv (AX.t 158)) none 9 false true)]) (AC.seq (AC.ops [(AOp.mk (some 160) (AK.mv (AX.t 1)) none 0 false true), (AOp.mk (some 161) (AK.mv (AX.t 2)) none 1 false true), (AOp.mk (some 162) (AK.iadrS 2 (AX.t 160) (AX.t 161)) none 2 false true), (AOp.mk (some 163) (AK.ld (some 2) (AX.t 162)) none 3 false true), (AOp.mk (some 164) (AK.call 28 [(AX.t 163)]) none 4 false true), (AOp.mk (some 159) (AK.mv (AX.t 164)) none 5 false true), (AOp.mk (some 165) (AK.ext (AX.t 159) 0) none 6 false true), (AOp.mk (some 166) (AK.ext (AX.t 159) 1) none 7 false true), (AOp.mk (some 15) (AK.mv (AX.t 165)) none 8 false true), (AOp.mk (some 16) (AK.mv (AX.t 166)) none 9 false true)]) (AC.seq (AC.ops [(AOp.mk (some 168) (AK.mv (AX.t 1)) none 0 false true), (AOp.mk (some 169) (AK.mv (AX.t 2)) none 1 false true), (AOp.mk (some 170) (AK.iadrS 2 (AX.t 168) (AX.t 169)) none 2 false true), (AOp.mk (some 171) (AK.ld (some 2) (AX.t 170)) none 3 false true), (AOp.mk (some 172) (AK.call 34 [(AX.t 171)]) none 4 false true), (AOp.mk (some 167) (AK.mv (AX.t 172)) none 5 false true), (AOp.mk (some 173) (AK.ext (AX.t 167) 0) none 6 false true), (AOp.mk (some 174) (AK.ext (AX.t 167) 1) none 7 false true), (AOp.mk (some 17) (AK.mv (AX.t 173)) none 8 false true), (AOp.mk (some 18) (AK.mv (AX.t 174)) none 9 false true)]) (AC.seq (AC.ops [(AOp.mk (some 176) (AK.mv (AX.t 1)) none 0 false true), (AOp.mk (some 177) (AK.mv (AX.t 2)) none 1 false true), (AOp.mk (some 178) (AK.iadrS 2 (AX.t 176) (AX.t 177)) none 2 false true), (AOp.mk (some 179) (AK.ld (some 2) (AX.t 178)) none 3 false true), (AOp.mk (some 180) (AK.call 36 [(AX.t 179)]) none 4 false true), (AOp.mk (some 175) (AK.mv (AX.t 180)) none 5 false true), (AOp.mk (some 181) (AK.ext (AX.t 175) 0) none 6 false true), (AOp.mk (some 182) (AK.ext (AX.t 175) 1) none 7 false true), (AOp.mk (some 183) (AK.ext (AX.t 175) 2) none 8 false true), (AOp.mk (some 19) (AK.mv (AX.t 181)) none 9 false true), (AOp.mk (some 20) (AK.mv (AX.t 182)) none 10 false true), (AOp.mk (some 21) (AK.mv (AX.t 183)) none 11 false true)]) (AC.seq (AC.ops [(AOp.mk (some 184) (AK.mv (AX.t 1)) none 0 false true), (AOp.mk (some 185) (AK.mv (AX.t 2)) none 1 false true), (AOp.mk (some 186) (AK.iadrS 2 (AX.t 184) (AX.t 185)) none 2 false true), (AOp.mk (some 187) (AK.ld (some 2) (AX.t 186)) none 3 false true), (AOp.mk (some 188) (AK.call 21 [(AX.t 187)]) none 4 false true), (AOp.mk (some 189) (AK.bin false BinOp.neq (AX.t 188) (AX.c (PV.val (Value.int IntKind.i64 70)))) none 5 false true), (AOp.mk (some 190) (AK.mv (AX.t 189)) none 6 false true), (AOp.mk (some 191) (AK.mv (AX.t 4)) (some (190, false)) 7 false true), (AOp.mk (some 192) (AK.bin false BinOp.neq (AX.t 191) (AX.c (PV.val (Value.int IntKind.i64 70)))) (some (190, false)) 8 false true), (AOp.mk (some 193) (AK.pick (AX.t 190) (AX.c (PV.val (Value.bool true))) (AX.t 192)) none 9 false true), (AOp.mk (some 194) (AK.mv (AX.t 193)) none 10 false true), (AOp.mk (some 195) (AK.mv (AX.t 6)) (some (194, false)) 11 false true), (AOp.mk (some 196) (AK.bin false BinOp.neq (AX.t 195) (AX.c (PV.val (Value.int IntKind.i64 70)))) (some (194, false)) 12 false true), (AOp.mk (some 197) (AK.pick (AX.t 194) (AX.c (PV.val (Value.bool true))) (AX.t 196)) none 13 false true), (AOp.mk (some 198) (AK.mv (AX.t 197)) none 14 false true), (AOp.mk (some 199) (AK.mv (AX.t 9)) (some (198, false)) 15 false true), (AOp.mk (some 200) (AK.bin false BinOp.neq (AX.t 199) (AX.c (PV.val (Value.int IntKind.i64 70)))) (some (198, false)) 16 false true), (AOp.mk (some 201) (AK.pick (AX.t 198) (AX.c (PV.val (Value.bool true))) (AX.t 200)) none 17 false true), (AOp.mk (some 202) (AK.mv (AX.t 201)) none 18 false true), (AOp.mk (some 203) (AK.mv (AX.t 12)) (some (202, false)) 19 false true), (AOp.mk (some 204) (AK.bin false BinOp.neq (AX.t 203) (AX.c (PV.val (Value.int IntKind.i64 70)))) (some (202, false)) 20 false true), (AOp.mk (some 205) (AK.pick (AX.t 202) (AX.c (PV.val (Value.bool true))) (AX.t 204)) none 21 false true), (AOp.mk (some 206) (AK.mv (AX.t 205)) none 22 false true), (AOp.mk (some 207) (AK.mv (AX.t 14)) (some (206, false)) 23 false true), (AOp.mk (some 208) (AK.bin false BinOp.neq (AX.t 207) (AX.c (PV.val (Value.int IntKind.i64 70)))) (some (206, false)) 24 false true), (AOp.mk (some 209) (AK.pick (AX.t 206) (AX.c (PV.val (Value.bool true))) (AX.t 208)) none 25 false true), (AOp.mk (some 210) (AK.mv (AX.t 209)) none 26 false true), (AOp.mk (some 211) (AK.mv (AX.t 16)) (some (210, false)) 27 false true), (AOp.mk (some 212) (AK.bin false BinOp.neq (AX.t 211) (AX.c (PV.val (Value.int IntKind.i64 70)))) (some (210, false)) 28 false true), (AOp.mk (some 213) (AK.pick (AX.t 210) (AX.c (PV.val (Value.bool true))) (AX.t 212)) none 29 false true), (AOp.mk (some 214) (AK.mv (AX.t 213)) none 30 false true), (AOp.mk (some 215) (AK.mv (AX.t 18)) (some (214, false)) 31 false true), (AOp.mk (some 216) (AK.bin false BinOp.neq (AX.t 215) (AX.c (PV.val (Value.int IntKind.i64 70)))) (some (214, false)) 32 false true), (AOp.mk (some 217) (AK.pick (AX.t 214) (AX.c (PV.val (Value.bool true))) (AX.t 216)) none 33 false true), (AOp.mk (some 218) (AK.mv (AX.t 217)) none 34 false true), (AOp.mk (some 219) (AK.mv (AX.t 21)) (some (218, false)) 35 false true), (AOp.mk (some 220) (AK.bin false BinOp.neq (AX.t 219) (AX.c (PV.val (Value.int IntKind.i64 70)))) (some (218, false)) 36 false true), (AOp.mk (some 221) (AK.pick (AX.t 218) (AX.c (PV.val (Value.bool true))) (AX.t 220)) none 37 false true)]) (AC.cond (AX.t 221) (AC.seq (AC.ops [(AOp.mk (some 0) (AK.mv (AX.c (PV.val (Value.bool false)))) none 0 false true)]) AC.ret) AC.skip))))))))))) (AC.ops [(AOp.mk (some 115) (AK.mv (AX.t 2)) none 0 false true), (AOp.mk (some 116) (AK.bin false BinOp.add (AX.t 115) (AX.c (PV.val (Value.int IntKind.i64 1)))) none 1 false true), (AOp.mk (some 2) (AK.mv (AX.t 116)) none 2 false true)])))))) (AC.seq (AC.ops [(AOp.mk (some 223) (AK.call 58 []) none 0 false true), (AOp.mk (some 224) (AK.call 18 [(AX.t 223), (AX.c (PV.val (Value.int IntKind.i64 0))), (AX.c (PV.val (Value.int IntKind.i64 0)))]) none 1 false true), (AOp.mk (some 222) (AK.mv (AX.t 224)) none 2 false true), (AOp.mk (some 225) (AK.ext (AX.t 222) 0) none 3 false true), (AOp.mk (some 226) (AK.ext (AX.t 222) 1) none 4 false true), (AOp.mk (some 22) (AK.mv (AX.t 225)) none 5 false true), (AOp.mk (some 23) (AK.mv (AX.t 226)) none 6 false true)]) (AC.seq (AC.ops [(AOp.mk (some 228) (AK.call 58 []) none 0 false true), (AOp.mk (some 229) (AK.call 18 [(AX.t 228), (AX.c (PV.val (Value.int IntKind.i64 0))), (AX.c (PV.val (Value.int IntKind.i64 4)))]) none 1 false true), (AOp.mk (some 227) (AK.mv (AX.t 229)) none 2 false true), (AOp.mk (some 230) (AK.ext (AX.t 227) 0) none 3 false true), (AOp.mk (some 231) (AK.ext (AX.t 227) 1) none 4 false true), (AOp.mk (some 24) (AK.mv (AX.t 230)) none 5 false true), (AOp.mk (some 25) (AK.mv (AX.t 231)) none 6 false true)]) (AC.seq (AC.ops [(AOp.mk (some 233) (AK.call 58 []) none 0 false true), (AOp.mk (some 234) (AK.call 23 [(AX.t 233), (AX.c (PV.val (Value.int IntKind.i64 (-1)))), (AX.c (PV.val (Value.int IntKind.i64 0)))]) none 1 false true), (AOp.mk (some 232) (AK.mv (AX.t 234)) none 2 false true), (AOp.mk (some 235) (AK.ext (AX.t 232) 0) none 3 false true), (AOp.mk (some 236) (AK.ext (AX.t 232) 1) none 4 false true), (AOp.mk (some 26) (AK.mv (AX.t 235)) none 5 false true), (AOp.mk (some 27) (AK.mv (AX.t 236)) none 6 false true)]) (AC.seq (AC.ops [(AOp.mk (some 238) (AK.call 58 []) none 0 false true), (AOp.mk (some 239) (AK.call 23 [(AX.t 238), (AX.c (PV.val (Value.int IntKind.i64 1))), (AX.c (PV.val (Value.int IntKind.i64 1)))]) none 1 false true), (AOp.mk (some 237) (AK.mv (AX.t 239)) none 2 false true), (AOp.mk (some 240) (AK.ext (AX.t 237) 0) none 3 false true), (AOp.mk (some 241) (AK.ext (AX.t 237) 1) none 4 false true), (AOp.mk (some 28) (AK.mv (AX.t 240)) none 5 false true), (AOp.mk (some 29) (AK.mv (AX.t 241)) none 6 false true)]) (AC.seq (AC.ops [(AOp.mk (some 243) (AK.call 58 []) none 0 false true), (AOp.mk (some 244) (AK.bslice false 3 1 3 [(PV.val (Value.int IntKind.i64 0))] [(0, (1, (AX.c (PV.val (Value.int IntKind.i64 0))))), (1, (1, (AX.c (PV.val (Value.int IntKind.i64 0))))), (2, (1, (AX.c (PV.val (Value.int IntKind.i64 0)))))]) none 1 false true), (AOp.mk (some 245) (AK.call 26 [(AX.t 243), (AX.t 244)]) none 2 false true), (AOp.mk (some 242) (AK.mv (AX.t 245)) none 3 false true), (AOp.mk (some 246) (AK.ext (AX.t 242) 0) none 4 false true), (AOp.mk (some 247) (AK.ext (AX.t 242) 1) none 5 false true), (AOp.mk (some 30) (AK.mv (AX.t 246)) none 6 false true), (AOp.mk (some 31) (AK.mv (AX.t 247)) none 7 false true)]) (AC.seq (AC.ops [(AOp.mk (some 249) (AK.call 58 []) none 0 false true), (AOp.mk (some 250) (AK.bslice false 3 1 4 [(PV.val (Value.int IntKind.i64 0))] [(0, (1, (AX.c (PV.val (Value.int IntKind.i64 0))))), (1, (1, (AX.c (PV.val (Value.int IntKind.i64 0))))), (2, (1, (AX.c (PV.val (Value.int IntKind.i64 0))))), (3, (1, (AX.c (PV.val (Value.int IntKind.i64 4)))))]) none 1 false true), (AOp.mk (some 251) (AK.call 26 [(AX.t 249), (AX.t 250)]) none 2 false true), (AOp.mk (some 248) (AK.mv (AX.t 251)) none 3 false true), (AOp.mk (some 252) (AK.ext (AX.t 248) 0) none 4 false true), (AOp.mk (some 253) (AK.ext (AX.t 248) 1) none 5 false true), (AOp.mk (some 32) (AK.mv (AX.t 252)) none 6 false true), (AOp.mk (some 33) (AK.mv (AX.t 253)) none 7 false true)]) (AC.seq (AC.ops [(AOp.mk (some 255) (AK.call 58 []) none 0 false true), (AOp.mk (some 256) (AK.bslice false 3 1 4 [(PV.val (Value.int IntKind.i64 0))] [(0, (1, (AX.c (PV.val (Value.int IntKind.i64 (-1)))))), (1, (1, (AX.c (PV.val (Value.int IntKind.i64 0))))), (2, (1, (AX.c (PV.val (Value.int IntKind.i64 0))))), (3, (1, (AX.c (PV.val (Value.int IntKind.i64 0)))))]) none 1 false true), (AOp.mk (some 257) (AK.call 26 [(AX.t 255), (AX.t 256)]) none 2 false true), (AOp.mk (some 254) (AK.mv (AX.t 257)) none 3 false true), (AOp.mk (some 258) (AK.ext (AX.t 254) 0) none 4 false true), (AOp.mk (some 259) (AK.ext (AX.t 254) 1) none 5 false true), (AOp.mk (some 34) (AK.mv (AX.t 258)) none 6 false true), (AOp.mk (some 35) (AK.mv (AX.t 259)) none 7 false true)]) (AC.seq (AC.ops [(AOp.mk (some 261) (AK.call 59 []) none 0 false true), (AOp.mk (some 262) (AK.call 28 [(AX.t 261)]) none 1 false true), (AOp.mk (some 260) (AK.mv (AX.t 262)) none 2 false true), (AOp.mk (some 263) (AK.ext (AX.t 260) 0) none 3 false true), (AOp.mk (some 264) (AK.ext (AX.t 260) 1) none 4 false true), (AOp.mk (some 36) (AK.mv (AX.t 263)) none 5 false true), (AOp.mk (some 37) (AK.mv (AX.t 264)) none 6 false true)]) (AC.seq (AC.ops [(AOp.mk (some 265) (AK.call 58 []) none 0 false true), (AOp.mk (some 38) (AK.new (PV.agg [(PV.val (Value.int IntKind.i64 0)), (PV.sl SK.full 0 [])])) none 1 false true), (AOp.mk none (AK.st 2 (AX.t 38) (AX.t 265)) none 2 false true)]) (AC.seq (AC.ops [(AOp.mk (some 266) (AK.fadr 1 (AX.t 38)) none 0 false true), (AOp.mk (some 267) (AK.ld none (AX.t 266)) none 1 false true), (AOp.mk (some 268) (AK.slc 1 (AX.t 267) none (some (AX.c (PV.val (Value.int IntKind.i64 1)))) none) none 2 false true), (AOp.mk (some 269) (AK.fadr 1 (AX.t 38)) none 3 false true), (AOp.mk none (AK.st 1 (AX.t 269) (AX.t 268)) none 4 false true)]) (AC.seq (AC.ops [(AOp.mk (some 271) (AK.ld (some 2) (AX.t 38)) none 0 false true), (AOp.mk (some 272) (AK.call 30 [(AX.t 271)]) none 1 false true), (AOp.mk (some 270) (AK.mv (AX.t 272)) none 2 false true), (AOp.mk (some 273) (AK.ext (AX.t 270) 0) none 3 false true), (AOp.mk (some 274) (AK.ext (AX.t 270) 1) none 4 false true), (AOp.mk (some 275) (AK.ext (AX.t 270) 2) none 5 false true), (AOp.mk (some 39) (AK.mv (AX.t 273)) none 6 false true), (AOp.mk (some 40) (AK.mv (AX.t 274)) none 7 false true), (AOp.mk (some 41) (AK.mv (AX.t 275)) none 8 false true)]) (AC.seq (AC.ops [(AOp.mk (some 277) (AK.ld (some 2) (AX.t 38)) none 0 false true), (AOp.mk (some 278) (AK.call 36 [(AX.t 277)]) none 1 false true), (AOp.mk (some 276) (AK.mv (AX.t 278)) none 2 false true), (AOp.mk (some 279) (AK.ext (AX.t 276) 0) none 3 false true), (AOp.mk (some 280) (AK.ext (AX.t 276) 1) none 4 false true), (AOp.mk (some 281) (AK.ext (AX.t 276) 2) none 5 false true), (AOp.mk (some 42) (AK.mv (AX.t 279)) none 6 false true), (AOp.mk (some 43) (AK.mv (AX.t 280)) none 7 false true), (AOp.mk (some 44) (AK.mv (AX.t 281)) none 8 false true)]) (AC.seq (AC.ops [(AOp.mk (some 283) (AK.call 58 []) none 0 false true), (AOp.mk (some 284) (AK.call 32 [(AX.t 283)]) none 1 false true), (AOp.mk (some 282) (AK.mv (AX.t 284)) none 2 false true), (AOp.mk (some 285) (AK.ext (AX.t 282) 0) none 3 false true), (AOp.mk (some 286) (AK.ext (AX.t 282) 1) none 4 false true), (AOp.mk (some 287) (AK.ext (AX.t 282) 2) none 5 false true), (AOp.mk (some 45) (AK.mv (AX.t 285)) none 6 false true), (AOp.mk (some 46) (AK.mv (AX.t 286)) none 7 false true), (AOp.mk (some 47) (AK.mv (AX.t 287)) none 8 false true)]) (AC.seq (AC.seq (AC.ops [(AOp.mk (some 288) (AK.mv (AX.t 23)) none 0 false true), (AOp.mk (some 289) (AK.bin false BinOp.neq (AX.t 288) (AX.c (PV.val (Value.int IntKind.i64 71)))) none 1 false true), (AOp.mk (some 290) (AK.mv (AX.t 289)) none 2 false true), (AOp.mk (some 291) (AK.mv (AX.t 25)) (some (290, false)) 3 false true), (AOp.mk (some 292) (AK.bin false BinOp.neq (AX.t 291) (AX.c (PV.val (Value.int IntKind.i64 71)))) (some (290, false)) 4 false true), (AOp.mk (some 293) (AK.pick (AX.t 290) (AX.c (PV.val (Value.bool true))) (AX.t 292)) none 5 false true), (AOp.mk (some 294) (AK.mv (AX.t 293)) none 6 false true), (AOp.mk (some 295) (AK.mv (AX.t 27)) (some (294, false)) 7 false true), (AOp.mk (some 296) (AK.bin false BinOp.neq (AX.t 295) (AX.c (PV.val (Value.int IntKind.i64 71)))) (some (294, false)) 8 false true), (AOp.mk (some 297) (AK.pick (AX.t 294) (AX.c (PV.val (Value.bool true))) (AX.t 296)) none 9 false true), (AOp.mk (some 298) (AK.mv (AX.t 297)) none 10 false true), (AOp.mk (some 299) (AK.mv (AX.t 29)) (some (298, false)) 11 false true), (AOp.mk (some 300) (AK.bin false BinOp.neq (AX.t 299) (AX.c (PV.val (Value.int IntKind.i64 71)))) (some (298, false)) 12 false true), (AOp.mk (some 301) (AK.pick (AX.t 298) (AX.c (PV.val (Value.bool true))) (AX.t 300)) none 13 false true), (AOp.mk (some 302) (AK.mv (AX.t 301)) none 14 false true), (AOp.mk (some 303) (AK.mv (AX.t 31)) (some (302, false)) 15 false true), (AOp.mk (some 304) (AK.bin false BinOp.neq (AX.t 303) (AX.c (PV.val (Value.int IntKind.i64 71)))) (some (302, false)) 16 false true), (AOp.mk (some 305) (AK.pick (AX.t 302) (AX.c (PV.val (Value.bool true))) (AX.t 304)) none 17 false true), (AOp.mk (some 306) (AK.mv (AX.t 305)) none 18 false true), (AOp.mk (some 307) (AK.mv (AX.t 33)) (some (306, false)) 19 false true), (AOp.mk (some 308) (AK.bin false BinOp.neq (AX.t 307) (AX.c (PV.val (Value.int IntKind.i64 71)))) (some (306, false)) 20 false true), (AOp.mk (some 309) (AK.pick (AX.t 306) (AX.c (PV.val (Value.bool true))) (AX.t 308)) none 21 false true), (AOp.mk (some 310) (AK.mv (AX.t 309)) none 22 false true), (AOp.mk (some 311) (AK.mv (AX.t 35)) (some (310, false)) 23 false true), (AOp.mk (some 312) (AK.bin false BinOp.neq (AX.t 311) (AX.c (PV.val (Value.int IntKind.i64 71)))) (some (310, false)) 24 false true), (AOp.mk (some 313) (AK.pick (AX.t 310) (AX.c (PV.val (Value.bool true))) (AX.t 312)) none 25 false true), (AOp.mk (some 314) (AK.mv (AX.t 313)) none 26 false true), (AOp.mk (some 315) (AK.mv (AX.t 37)) (some (314, false)) 27 false true), (AOp.mk (some 316) (AK.bin false BinOp.neq (AX.t 315) (AX.c (PV.val (Value.int IntKind.i64 4)))) (some (314, false)) 28 false true), (AOp.mk (some 317) (AK.pick (AX.t 314) (AX.c (PV.val (Value.bool true))) (AX.t 316)) none 29 false true), (AOp.mk (some 318) (AK.mv (AX.t 317)) none 30 false true), (AOp.mk (some 319) (AK.mv (AX.t 41)) (some (318, false)) 31 false true), (AOp.mk (some 320) (AK.bin false BinOp.neq (AX.t 319) (AX.c (PV.val (Value.int IntKind.i64 4)))) (some (318, false)) 32 false true), (AOp.mk (some 321) (AK.pick (AX.t 318) (AX.c (PV.val (Value.bool true))) (AX.t 320)) none 33 false true), (AOp.mk (some 322) (AK.mv (AX.t 321)) none 34 false true), (AOp.mk (some 323) (AK.mv (AX.t 44)) (some (322, false)) 35 false true), (AOp.mk (some 324) (AK.bin false BinOp.neq (AX.t 323) (AX.c (PV.val (Value.int IntKind.i64 4)))) (some (322, false)) 36 false true), (AOp.mk (some 325) (AK.pick (AX.t 322) (AX.c (PV.val (Value.bool true))) (AX.t 324)) none 37 false true), (AOp.mk (some 326) (AK.mv (AX.t 325)) none 38 false true), (AOp.mk (some 327) (AK.mv (AX.t 47)) (some (326, false)) 39 false true), (AOp.mk (some 328) (AK.bin false BinOp.neq (AX.t 327) (AX.c (PV.val (Value.int IntKind.i64 0)))) (some (326, false)) 40 false true), (AOp.mk (some 329) (AK.pick (AX.t 326) (AX.c (PV.val (Value.bool true))) (AX.t 328)) none 41 false true), (AOp.mk (some 330) (AK.mv (AX.t 329)) none 42 false true), (AOp.mk (some 331) (AK.mv (AX.t 45)) (some (330, false)) 43 false true), (AOp.mk (some 332) (AK.bin false BinOp.neq (AX.t 331) (AX.c (PV.val (Value.int IntKind.i64 0)))) (some (330, false)) 44 false true), (AOp.mk (some 333) (AK.pick (AX.t 330) (AX.c (PV.val (Value.bool true))) (AX.t 332)) none 45 false true), (AOp.mk (some 334) (AK.mv (AX.t 333)) none 46 false true), (AOp.mk (some 335) (AK.mv (AX.t 46)) (some (334, false)) 47 false true), (AOp.mk (some 336) (AK.bin false BinOp.neq (AX.t 335) (AX.c (PV.val (Value.int IntKind.i64 1)))) (some (334, false)) 48 false true), (AOp.mk (some 337) (AK.pick (AX.t 334) (AX.c (PV.val (Value.bool true))) (AX.t 336)) none 49 false true)]) (AC.cond (AX.t 337) (AC.seq (AC.ops [(AOp.mk (some 0) (AK.mv (AX.c (PV.val (Value.bool false)))) none 0 false true)]) AC.ret) AC.skip)) (AC.seq (AC.ops [(AOp.mk (some 338) (AK.build [(PV.val (Value.int IntKind.i64 0)), (PV.val (Value.int IntKind.i64 0)), (PV.val (Value.int IntKind.i64 0))] [(0, (1, (AX.c (PV.val (Value.int IntKind.i64 0))))), (1, (1, (AX.c (PV.val (Value.int IntKind.i64 1))))), (2, (1, (AX.c (PV.val (Value.int IntKind.i64 2)))))]) none 0 false true), (AOp.mk (some 339) (AK.build [(PV.val (Value.int IntKind.i64 0)), (PV.val (Value.int IntKind.i64 0)), (PV.val (Value.int IntKind.i64 0))] [(0, (1, (AX.c (PV.val (Value.int IntKind.i64 0))))), (1, (1, (AX.c (PV.val (Value.int IntKind.i64 2))))), (2, (1, (AX.c (PV.val (Value.int IntKind.i64 1)))))]) none 1 false true), (AOp.mk (some 340) (AK.build [(PV.val (Value.int IntKind.i64 0)), (PV.val (Value.int IntKind.i64 0)), (PV.val (Value.int IntKind.i64 0))] [(0, (1, (AX.c (PV.val (Value.int IntKind.i64 1))))), (1, (1, (AX.c (PV.val (Value.int IntKind.i64 2))))), (2, (1, (AX.c (PV.val (Value.int IntKind.i64 3)))))]) none 2 false true), (AOp.mk (some 341) (AK.build [(PV.val (Value.int IntKind.i64 0)), (PV.val (Value.int IntKind.i64 0)), (PV.val (Value.int IntKind.i64 0))] [(0, (1, (AX.c (PV.val (Value.int IntKind.i64 1))))), (1, (1, (AX.c (PV.val (Value.int IntKind.i64 0))))), (2, (1, (AX.c (PV.val (Value.int IntKind.i64 2)))))]) none 3 false true), (AOp.mk (some 342) (AK.bslice false 51 3 4 [(PV.val (Value.int IntKind.i64 0)), (PV.val (Value.int IntKind.i64 0)), (PV.val (Value.int IntKind.i64 0))] [(0, (3, (AX.t 338))), (3, (3, (AX.t 339))), (6, (3, (AX.t 340))), (9, (3, (AX.t 341)))]) none 4 false true), (AOp.mk (some 48) (AK.mv (AX.t 342)) none 5 false true)]) (AC.seq (AC.seq (AC.ops [(AOp.mk (some 49) (AK.mv (AX.c (PV.val (Value.int IntKind.i64 0)))) none 0 false true)]) (AC.block 2 (AC.loop (AC.seq (AC.seq (AC.ops [(AOp.mk (some 343) (AK.mv (AX.t 49)) none 0 false true), (AOp.mk (some 344) (AK.mv (AX.t 48)) none 1 false true), (AOp.mk (some 345) (AK.len (AX.t 344)) none 2 false true), (AOp.mk (some 346) (AK.bin false BinOp.lss (AX.t 343) (AX.t 345)) none 3 false true)]) (AC.cond (AX.t 346) AC.skip (AC.exit 2))) (AC.seq (AC.block 3 (AC.seq (AC.ops [(AOp.mk (some 351) (AK.mv (AX.t 48)) none 1 true false), (AOp.mk (some 352) (AK.mv (AX.t 49)) none 2 true false), (AOp.mk (some 353) (AK.iadrS 3 (AX.t 351) (AX.t 352)) none 3 true false), (AOp.mk (some 354) (AK.iadrA 1 3 (AX.t 353) (AX.c (PV.val (Value.int IntKind.i64 0)))) none 4 true false), (AOp.mk (some 355) (AK.ld none (AX.t 354)) none 5 true false), (AOp.mk (some 356) (AK.mv (AX.t 48)) none 6 true false), (AOp.mk (some 357) (AK.mv (AX.t 49)) none 7 true false), (AOp.mk (some 358) (AK.iadrS 3 (AX.t 356) (AX.t 357)) none 8 true false), (AOp.mk (some 359) (AK.iadrA 1 3 (AX.t 358) (AX.c (PV.val (Value.int IntKind.i64 1)))) none 9 true false), (AOp.mk (some 360) (AK.ld none (AX.t 359)) none 10 true false), (AOp.mk (some 350) (AK.call 58 []) none 0 false false), (AOp.mk (some 361) (AK.call 18 [(AX.t 350), (AX.t 355), (AX.t 360)]) none 11 false true), (AOp.mk (some 349) (AK.mv (AX.t 361)) none 12 true true), (AOp.mk (some 362) (AK.ext (AX.t 349) 0) none 13 true false), (AOp.mk (some 363) (AK.ext (AX.t 349) 1) none 14 true false), (AOp.mk (some 50) (AK.mv (AX.t 362)) none 15 true false), (AOp.mk (some 51) (AK.mv (AX.t 363)) none 16 true true)]) (AC.seq (AC.ops [(AOp.mk (some 364) (AK.mv (AX.t 51)) none 0 false true), (AOp.mk (some 365) (AK.bin false BinOp.neq (AX.t 364) (AX.c (PV.val (Value.int IntKind.i64 0)))) none 1 false true), (AOp.mk (some 366) (AK.mv (AX.t 365)) none 2 false true), (AOp.mk (some 367) (AK.mv (AX.t 50)) (some (366, false)) 3 false true), (AOp.mk (some 368) (AK.mv (AX.t 48)) (some (366, false)) 4 false true), (AOp.mk (some 369) (AK.mv (AX.t 49)) (some (366, false)) 5 false true), (AOp.mk (some 370) (AK.iadrS 3 (AX.t 368) (AX.t 369)) (some (366, false)) 6 false true), (AOp.mk (some 371) (AK.iadrA 1 3 (AX.t 370) (AX.c (PV.val (Value.int IntKind.i64 2)))) (some (366, false)) 7 false true), (AOp.mk (some 372) (AK.ld none (AX.t 371)) (some (366, false)) 8 false true), (AOp.mk (some 373) (AK.bslice false 3 1 1 [(PV.val (Value.int IntKind.i64 0))] [(0, (1, (AX.t 372)))]) (some (366, false)) 9 false true), (AOp.mk (some 374) (AK.call 20 [(AX.t 367), (AX.t 373)]) (some (366, false)) 10 false true), (AOp.mk (some 375) (AK.un UnOp.not (AX.t 374)) (some (366, false)) 11 false true), (AOp.mk (some 376) (AK.pick (AX.t 366) (AX.c (PV.val (Value.bool true))) (AX.t 375)) none 12 false true)]) (AC.cond (AX.t 376) (AC.seq (AC.ops [(AOp.mk (some 0) (AK.mv (AX.c (PV.val (Value.bool false)))) none 0 false true)]) AC.ret) AC.skip)))) (AC.ops [(AOp.mk (some 347) (AK.mv (AX.t 49)) none 0 false true), (AOp.mk (some 348) (AK.bin false BinOp.add (AX.t 347) (AX.c (PV.val (Value.int IntKind.i64 1)))) none 1 false true), (AOp.mk (some 49) (AK.mv (AX.t 348)) none 2 false true)])))))) (AC.seq (AC.ops [(AOp.mk (some 378) (AK.call 58 []) none 0 false true), (AOp.mk (some 379) (AK.call 18 [(AX.t 378), (AX.c (PV.val (Value.int IntKind.i64 0))), (AX.c (PV.val (Value.int IntKind.i64 3)))]) none 1 false true), (AOp.mk (some 377) (AK.mv (AX.t 379)) none 2 false true), (AOp.mk (some 380) (AK.ext (AX.t 377) 0) none 3 false true), (AOp.mk (some 381) (AK.ext (AX.t 377) 1) none 4 false true), (AOp.mk (some 52) (AK.mv (AX.t 380)) none 5 false true), (AOp.mk (some 23) (AK.mv (AX.t 381)) none 6 false true)]) (AC.seq (AC.ops [(AOp.mk (some 383) (AK.call 58 []) none 0 false true), (AOp.mk (some 384) (AK.call 23 [(AX.t 383), (AX.c (PV.val (Value.int IntKind.i64 2))), (AX.c (PV.val (Value.int IntKind.i64 0)))]) none 1 false true), (AOp.mk (some 382) (AK.mv (AX.t 384)) none 2 false true), (AOp.mk (some 385) (AK.ext (AX.t 382) 0) none 3 false true), (AOp.mk (some 386) (AK.ext (AX.t 382) 1) none 4 false true), (AOp.mk (some 53) (AK.mv (AX.t 385)) none 5 false true), (AOp.mk (some 25) (AK.mv (AX.t 386)) none 6 false true)]) (AC.seq (AC.ops [(AOp.mk (some 388) (AK.call 58 []) none 0 false true), (AOp.mk (some 389) (AK.call 23 [(AX.t 388), (AX.c (PV.val (Value.int IntKind.i64 0))), (AX.c (PV.val (Value.int IntKind.i64 3)))]) none 1 false true), (AOp.mk (some 387) (AK.mv (AX.t 389)) none 2 false true), (AOp.mk (some 390) (AK.ext (AX.t 387) 0) none 3 false true), (AOp.mk (some 391) (AK.ext (AX.t 387) 1) none 4 false true), (AOp.mk (some 54) (AK.mv (AX.t 390)) none 5 false true), (AOp.mk (some 27) (AK.mv (AX.t 391)) none 6 false true)]) (AC.seq (AC.ops [(AOp.mk (some 393) (AK.call 58 []) none 0 false true), (AOp.mk (some 394) (AK.bslice false 3 1 4 [(PV.val (Value.int IntKind.i64 0))] [(0, (1, (AX.c (PV.val (Value.int IntKind.i64 2))))), (1, (1, (AX.c (PV.val (Value.int IntKind.i64 0))))), (2, (1, (AX.c (PV.val (Value.int IntKind.i64 1))))), (3, (1, (AX.c (PV.val (Value.int IntKind.i64 0)))))]) none 1 false true), (AOp.mk (some 395) (AK.call 26 [(AX.t 393), (AX.t 394)]) none 2 false true), (AOp.mk (some 392) (AK.mv (AX.t 395)) none 3 false true), (AOp.mk (some 396) (AK.ext (AX.t 392) 0) none 4 false true), (AOp.mk (some 397) (AK.ext (AX.t 392) 1) none 5 false true), (AOp.mk (some 55) (AK.mv (AX.t 396)) none 6 false true), (AOp.mk (some 29) (AK.mv (AX.t 397)) none 7 false true)]) (AC.seq (AC.ops [(AOp.mk (some 399) (AK.call 58 []) none 0 false true), (AOp.mk (some 400) (AK.bslice false 3 1 4 [(PV.val (Value.int IntKind.i64 0))] [(0, (1, (AX.c (PV.val (Value.int IntKind.i64 3))))), (1, (1, (AX.c (PV.val (Value.int IntKind.i64 3))))), (2, (1, (AX.c (PV.val (Value.int IntKind.i64 3))))), (3, (1, (AX.c (PV.val (Value.int IntKind.i64 3)))))]) none 1 false true), (AOp.mk (some 401) (AK.call 26 [(AX.t 399), (AX.t 400)]) none 2 false true), (AOp.mk (some 398) (AK.mv (AX.t 401)) none 3 false true), (AOp.mk (some 402) (AK.ext (AX.t 398) 0) none 4 false true), (AOp.mk (some 403) (AK.ext (AX.t 398) 1) none 5 false true), (AOp.mk (some 56) (AK.mv (AX.t 402)) none 6 false true), (AOp.mk (some 31) (AK.mv (AX.t 403)) none 7 false true)]) (AC.seq (AC.ops [(AOp.mk (some 405) (AK.call 59 []) none 0 false true), (AOp.mk (some 406) (AK.bslice false 3 1 4 [(PV.val (Value.int IntKind.i64 0))] [(0, (1, (AX.c (PV.val (Value.int IntKind.i64 0))))), (1, (1, (AX.c (PV.val (Value.int IntKind.i64 0))))), (2, (1, (AX.c (PV.val (Value.int IntKind.i64 0))))), (3, (1, (AX.c (PV.val (Value.int IntKind.i64 0)))))]) none 1 false true), (AOp.mk (some 407) (AK.call 26 [(AX.t 405), (AX.t 406)]) none 2 false true), (AOp.mk (some 404) (AK.mv (AX.t 407)) none 3 false true), (AOp.mk (some 408) (AK.ext (AX.t 404) 0) none 4 false true), (AOp.mk (some 409) (AK.ext (AX.t 404) 1) none 5 false true), (AOp.mk (some 57) (AK.mv (AX.t 408)) none 6 false true), (AOp.mk (some 33) (AK.mv (AX.t 409)) none 7 false true)]) (AC.seq (AC.ops [(AOp.mk (some 411) (AK.call 58 []) none 0 false true), (AOp.mk (some 412) (AK.call 34 [(AX.t 411)]) none 1 false true), (AOp.mk (some 410) (AK.mv (AX.t 412)) none 2 false true), (AOp.mk (some 413) (AK.ext (AX.t 410) 0) none 3 false true), (AOp.mk (some 414) (AK.ext (AX.t 410) 1) none 4 false true), (AOp.mk (some 58) (AK.mv (AX.t 413)) none 5 false true), (AOp.mk (some 35) (AK.mv (AX.t 414)) none 6 false true)]) (AC.seq (AC.ops [(AOp.mk (some 416) (AK.call 58 []) none 0 false true), (AOp.mk (some 417) (AK.call 36 [(AX.t 416)]) none 1 false true), (AOp.mk (some 415) (AK.mv (AX.t 417)) none 2 false true), (AOp.mk (some 418) (AK.ext (AX.t 415) 0) none 3 false true), (AOp.mk (some 419) (AK.ext (AX.t 415) 1) none 4 false true), (AOp.mk (some 420) (AK.ext (AX.t 415) 2) none 5 false true), (AOp.mk (some 59) (AK.mv (AX.t 418)) none 6 false true), (AOp.mk (some 60) (AK.mv (AX.t 419)) none 7 false true), (AOp.mk (some 37) (AK.mv (AX.t 420)) none 8 false true)]) (AC.seq (AC.ops [(AOp.mk (some 422) (AK.ld (some 2) (AX.t 38)) none 0 false true), (AOp.mk (some 423) (AK.call 34 [(AX.t 422)]) none 1 false true), (AOp.mk (some 421) (AK.mv (AX.t 423)) none 2 false true), (AOp.mk (some 424) (AK.ext (AX.t 421) 0) none 3 false true), (AOp.mk (some 425) (AK.ext (AX.t 421) 1) none 4 false true), (AOp.mk (some 61) (AK.mv (AX.t 424)) none 5 false true), (AOp.mk (some 41) (AK.mv (AX.t 425)) none 6 false true)]) (AC.seq (AC.ops [(AOp.mk (some 426) (AK.bslice false 3 1 4 [(PV.val (Value.int IntKind.i64 0))] [(0, (1, (AX.c (PV.val (Value.int IntKind.i64 1))))), (1, (1, (AX.c (PV.val (Value.int IntKind.i64 2))))), (2, (1, (AX.c (PV.val (Value.int IntKind.i64 1))))), (3, (1, (AX.c (PV.val (Value.int IntKind.i64 2)))))]) none 0 false true), (AOp.mk (some 427) (AK.bslice false 3 1 4 [(PV.val (Value.int IntKind.i64 0))] [(0, (1, (AX.c (PV.val (Value.int IntKind.i64 2))))), (1, (1, (AX.c (PV.val (Value.int IntKind.i64 1))))), (2, (1, (AX.c (PV.val (Value.int IntKind.i64 2))))), (3, (1, (AX.c (PV.val (Value.int IntKind.i64 1)))))]) none 1 false true), (AOp.mk (some 428) (AK.bslice false 3 1 4 [(PV.val (Value.int IntKind.i64 0))] [(0, (1, (AX.c (PV.val (Value.int IntKind.i64 1))))), (1, (1, (AX.c (PV.val (Value.int IntKind.i64 1))))), (2, (1, (AX.c (PV.val (Value.int IntKind.i64 1))))), (3, (1, (AX.c (PV.val (Value.int IntKind.i64 1)))))]) none 2 false true), (AOp.mk (some 429) (AK.bslice false 26 1 3 [(PV.sl SK.full 0 [])] [(0, (1, (AX.t 426))), (1, (1, (AX.t 427))), (2, (1, (AX.t 428)))]) none 3 false true), (AOp.mk (some 430) (AK.build [(PV.val (Value.int IntKind.i64 0)), (PV.sl SK.full 0 [])] [(0, (1, (AX.c (PV.val (Value.int IntKind.i64 4))))), (1, (1, (AX.t 429)))]) none 4 false true), (AOp.mk (some 62) (AK.new (PV.agg [(PV.val (Value.int IntKind.i64 0)), (PV.sl SK.full 0 [])])) none 5 false true), (AOp.mk none (AK.st 2 (AX.t 62) (AX.t 430)) none 6 false true)]) (AC.seq (AC.ops [(AOp.mk (some 432) (AK.ld (some 2) (AX.t 62)) none 0 false true), (AOp.mk (some 433) (AK.call 18 [(AX.t 432), (AX.c (PV.val (Value.int IntKind.i64 0))), (AX.c (PV.val (Value.int IntKind.i64 1)))]) none 1 false true), (AOp.mk (some 431) (AK.mv (AX.t 433)) none 2 false true), (AOp.mk (some 434) (AK.ext (AX.t 431) 0) none 3 false true), (AOp.mk (some 435) (AK.ext (AX.t 431) 1) none 4 false true), (AOp.mk (some 63) (AK.mv (AX.t 434)) none 5 false true), (AOp.mk (some 44) (AK.mv (AX.t 435)) none 6 false true)]) (AC.seq (AC.ops [(AOp.mk (some 437) (AK.ld (some 2) (AX.t 62)) none 0 false true), (AOp.mk (some 438) (AK.call 28 [(AX.t 437)]) none 1 false true), (AOp.mk (some 436) (AK.mv (AX.t 438)) none 2 false true), (AOp.mk (some 439) (AK.ext (AX.t 436) 0) none 3 false true), (AOp.mk (some 440) (AK.ext (AX.t 436) 1) none 4 false true), (AOp.mk (some 64) (AK.mv (AX.t 439)) none 5 false true), (AOp.mk (some 47) (AK.mv (AX.t 440)) none 6 false true)]) (AC.seq (AC.ops [(AOp.mk (some 441) (AK.mv (AX.t 23)) none 0 false true), (AOp.mk (some 442) (AK.bin false BinOp.eql (AX.t 441) (AX.c (PV.val (Value.int IntKind.i64 0)))) none 1 false true), (AOp.mk (some 443) (AK.mv (AX.t 442)) none 2 false true), (AOp.mk (some 444) (AK.mv (AX.t 52)) (some (443, true)) 3 false true), (AOp.mk (some 445) (AK.len (AX.t 444)) (some (443, true)) 4 false true), (AOp.mk (some 446) (AK.bin false BinOp.eql (AX.t 445) (AX.c (PV.val (Value.int IntKind.i64 0)))) (some (443, true)) 5 false true), (AOp.mk (some 447) (AK.pick (AX.t 443) (AX.t 446) (AX.c (PV.val (Value.bool false)))) none 6 false true), (AOp.mk (some 448) (AK.mv (AX.t 447)) none 7 false true), (AOp.mk (some 449) (AK.mv (AX.t 25)) (some (448, true)) 8 false true), (AOp.mk (some 450) (AK.bin false BinOp.eql (AX.t 449) (AX.c (PV.val (Value.int IntKind.i64 0)))) (some (448, true)) 9 false true), (AOp.mk (some 451) (AK.pick (AX.t 448) (AX.t 450) (AX.c (PV.val (Value.bool false)))) none 10 false true), (AOp.mk (some 452) (AK.mv (AX.t 451)) none 11 false true), (AOp.mk (some 453) (AK.mv (AX.t 53)) (some (452, true)) 12 false true), (AOp.mk (some 454) (AK.bin false BinOp.eql (AX.t 453) (AX.c (PV.val (Value.int IntKind.i64 1)))) (some (452, true)) 13 false true), (AOp.mk (some 455) (AK.pick (AX.t 452) (AX.t 454) (AX.c (PV.val (Value.bool false)))) none 14 false true), (AOp.mk (some 456) (AK.mv (AX.t 455)) none 15 false true), (AOp.mk (some 457) (AK.mv (AX.t 27)) (some (456, true)) 16 false true), (AOp.mk (some 458) (AK.bin false BinOp.eql (AX.t 457) (AX.c (PV.val (Value.int IntKind.i64 0)))) (some (456, true)) 17 false true), (AOp.mk (some 459) (AK.pick (AX.t 456) (AX.t 458) (AX.c (PV.val (Value.bool false)))) none 18 false true), (AOp.mk (some 460) (AK.mv (AX.t 459)) none 19 false true), (AOp.mk (some 461) (AK.mv (AX.t 54)) (some (460, true)) 20 false true), (AOp.mk (some 462) (AK.bin false BinOp.eql (AX.t 461) (AX.c (PV.val (Value.int IntKind.i64 0)))) (some (460, true)) 21 false true), (AOp.mk (some 463) (AK.pick (AX.t 460) (AX.t 462) (AX.c (PV.val (Value.bool false)))) none 22 false true), (AOp.mk (some 464) (AK.mv (AX.t 463)) none 23 false true), (AOp.mk (some 465) (AK.mv (AX.t 29)) (some (464, true)) 24 false true), (AOp.mk (some 466) (AK.bin false BinOp.eql (AX.t 465) (AX.c (PV.val (Value.int IntKind.i64 0)))) (some (464, true)) 25 false true), (AOp.mk (some 467) (AK.pick (AX.t 464) (AX.t 466) (AX.c (PV.val (Value.bool false)))) none 26 false true), (AOp.mk (some 468) (AK.mv (AX.t 467)) none 27 false true), (AOp.mk (some 469) (AK.mv (AX.t 55)) (some (468, true)) 28 false true), (AOp.mk (some 470) (AK.bslice false 3 1 3 [(PV.val (Value.int IntKind.i64 0))] [(0, (1, (AX.c (PV.val (Value.int IntKind.i64 0))))), (1, (1, (AX.c (PV.val (Value.int IntKind.i64 1))))), (2, (1, (AX.c (PV.val (Value.int IntKind.i64 2)))))]) (some (468, true)) 29 false true), (AOp.mk (some 471) (AK.call 20 [(AX.t 469), (AX.t 470)]) (some (468, true)) 30 false true), (AOp.mk (some 472) (AK.pick (AX.t 468) (AX.t 471) (AX.c (PV.val (Value.bool false)))) none 31 false true), (AOp.mk (some 473) (AK.mv (AX.t 472)) none 32 false true), (AOp.mk (some 474) (AK.mv (AX.t 31)) (some (473, true)) 33 false true), (AOp.mk (some 475) (AK.bin false BinOp.eql (AX.t 474) (AX.c (PV.val (Value.int IntKind.i64 0)))) (some (473, true)) 34 false true), (AOp.mk (some 476) (AK.pick (AX.t 473) (AX.t 475) (AX.c (PV.val (Value.bool false)))) none 35 false true), (AOp.mk (some 477) (AK.mv (AX.t 476)) none 36 false true), (AOp.mk (some 478) (AK.mv (AX.t 56)) (some (477, true)) 37 false true), (AOp.mk (some 479) (AK.bslice false 3 1 1 [(PV.val (Value.int IntKind.i64 0))] [(0, (1, (AX.c (PV.val (Value.int IntKind.i64 3)))))]) (some (477, true)) 38 false true), (AOp.mk (some 480) (AK.call 20 [(AX.t 478), (AX.t 479)]) (some (477, true)) 39 false true), (AOp.mk (some 481) (AK.pick (AX.t 477) (AX.t 480) (AX.c (PV.val (Value.bool false)))) none 40 false true), (AOp.mk (some 482) (AK.mv (AX.t 481)) none 41 false true), (AOp.mk (some 483) (AK.mv (AX.t 33)) (some (482, true)) 42 false true), (AOp.mk (some 484) (AK.bin false BinOp.eql (AX.t 483) (AX.c (PV.val (Value.int IntKind.i64 0)))) (some (482, true)) 43 false true), (AOp.mk (some 485) (AK.pick (AX.t 482) (AX.t 484) (AX.c (PV.val (Value.bool false)))) none 44 false true), (AOp.mk (some 486) (AK.mv (AX.t 485)) none 45 false true), (AOp.mk (some 487) (AK.mv (AX.t 57)) (some (486, true)) 46 false true), (AOp.mk (some 488) (AK.bslice false 3 1 1 [(PV.val (Value.int IntKind.i64 0))] [(0, (1, (AX.c (PV.val (Value.int IntKind.i64 4)))))]) (some (486, true)) 47 false true), (AOp.mk (some 489) (AK.call 20 [(AX.t 487), (AX.t 488)]) (some (486, true)) 48 false true), (AOp.mk (some 490) (AK.pick (AX.t 486) (AX.t 489) (AX.c (PV.val (Value.bool false)))) none 49 false true), (AOp.mk (some 491) (AK.mv (AX.t 490)) none 50 false true), (AOp.mk (some 492) (AK.mv (AX.t 35)) (some (491, true)) 51 false true), (AOp.mk (some 493) (AK.bin false BinOp.eql (AX.t 492) (AX.c (PV.val (Value.int IntKind.i64 0)))) (some (491, true)) 52 false true), (AOp.mk (some 494) (AK.pick (AX.t 491) (AX.t 493) (AX.c (PV.val (Value.bool false)))) none 53 false true), (AOp.mk (some 495) (AK.mv (AX.t 494)) none 54 false true), (AOp.mk (some 496) (AK.mv (AX.t 58)) (some (495, true)) 55 false true), (AOp.mk (some 497) (AK.bslice false 3 1 2 [(PV.val (Value.int IntKind.i64 0))] [(0, (1, (AX.c (PV.val (Value.int IntKind.i64 0))))), (1, (1, (AX.c (PV.val (Value.int IntKind.i64 1)))))]) (some (495, true)) 56 false true), (AOp.mk (some 498) (AK.call 20 [(AX.t 496), (AX.t 497)]) (some (495, true)) 57 false true), (AOp.mk (some 499) (AK.pick (AX.t 495) (AX.t 498) (AX.c (PV.val (Value.bool false)))) none 58 false true), (AOp.mk (some 500) (AK.mv (AX.t 499)) none 59 false true), (AOp.mk (some 501) (AK.mv (AX.t 37)) (some (500, true)) 60 false true), (AOp.mk (some 502) (AK.bin false BinOp.eql (AX.t 501) (AX.c (PV.val (Value.int IntKind.i64 0)))) (some (500, true)) 61 false true), (AOp.mk (some 503) (AK.pick (AX.t 500) (AX.t 502) (AX.c (PV.val (Value.bool false)))) none 62 false true), (AOp.mk (some 504) (AK.mv (AX.t 503)) none 63 false true), (AOp.mk (some 505) (AK.mv (AX.t 59)) (some (504, true)) 64 false true), (AOp.mk (some 506) (AK.bin false BinOp.eql (AX.t 505) (AX.c (PV.val (Value.int IntKind.i64 2)))) (some (504, true)) 65 false true), (AOp.mk (some 507) (AK.pick (AX.t 504) (AX.t 506) (AX.c (PV.val (Value.bool false)))) none 66 false true), (AOp.mk (some 508) (AK.mv (AX.t 507)) none 67 false true), (AOp.mk (some 509) (AK.mv (AX.t 60)) (some (508, true)) 68 false true), (AOp.mk (some 510) (AK.bin false BinOp.eql (AX.t 509) (AX.c (PV.val (Value.int IntKind.i64 0)))) (some (508, true)) 69 false true), (AOp.mk (some 511) (AK.pick (AX.t 508) (AX.t 510) (AX.c (PV.val (Value.bool false)))) none 70 false true), (AOp.mk (some 512) (AK.mv (AX.t 511)) none 71 false true), (AOp.mk (some 513) (AK.mv (AX.t 41)) (some (512, true)) 72 false true), (AOp.mk (some 514) (AK.bin false BinOp.eql (AX.t 513) (AX.c (PV.val (Value.int IntKind.i64 0)))) (some (512, true)) 73 false true), (AOp.mk (some 515) (AK.pick (AX.t 512) (AX.t 514) (AX.c (PV.val (Value.bool false)))) none 74 false true), (AOp.mk (some 516) (AK.mv (AX.t 515)) none 75 false true), (AOp.mk (some 517) (AK.mv (AX.t 61)) (some (516, true)) 76 false true), (AOp.mk (some 518) (AK.len (AX.t 517)) (some (516, true)) 77 false true), (AOp.mk (some 519) (AK.bin false BinOp.eql (AX.t 518) (AX.c (PV.val (Value.int IntKind.i64 0)))) (some (516, true)) 78 false true), (AOp.mk (some 520) (AK.pick (AX.t 516) (AX.t 519) (AX.c (PV.val (Value.bool false)))) none 79 false true), (AOp.mk (some 521) (AK.mv (AX.t 520)) none 80 false true), (AOp.mk (some 522) (AK.mv (AX.t 44)) (some (521, true)) 81 false true), (AOp.mk (some 523) (AK.bin false BinOp.eql (AX.t 522) (AX.c (PV.val (Value.int IntKind.i64 0)))) (some (521, true)) 82 false true), (AOp.mk (some 524) (AK.pick (AX.t 521) (AX.t 523) (AX.c (PV.val (Value.bool false)))) none 83 false true), (AOp.mk (some 525) (AK.mv (AX.t 524)) none 84 false true), (AOp.mk (some 526) (AK.mv (AX.t 63)) (some (525, true)) 85 false true), (AOp.mk (some 527) (AK.bslice false 3 1 2 [(PV.val (Value.int IntKind.i64 0))] [(0, (1, (AX.c (PV.val (Value.int IntKind.i64 1))))), (1, (1, (AX.c (PV.val (Value.int IntKind.i64 3)))))]) (some (525, true)) 86 false true), (AOp.mk (some 528) (AK.call 20 [(AX.t 526), (AX.t 527)]) (some (525, true)) 87 false true), (AOp.mk (some 529) (AK.pick (AX.t 525) (AX.t 528) (AX.c (PV.val (Value.bool false)))) none 88 false true), (AOp.mk (some 530) (AK.mv (AX.t 529)) none 89 false true), (AOp.mk (some 531) (AK.mv (AX.t 47)) (some (530, true)) 90 false true), (AOp.mk (some 532) (AK.bin false BinOp.eql (AX.t 531) (AX.c (PV.val (Value.int IntKind.i64 0)))) (some (530, true)) 91 false true), (AOp.mk (some 533) (AK.pick (AX.t 530) (AX.t 532) (AX.c (PV.val (Value.bool false)))) none 92 false true), (AOp.mk (some 534) (AK.mv (AX.t 533)) none 93 false true), (AOp.mk (some 535) (AK.mv (AX.t 64)) (some (534, true)) 94 false true), (AOp.mk (some 536) (AK.bslice false 3 1 4 [(PV.val (Value.int IntKind.i64 0))] [(0, (1, (AX.c (PV.val (Value.int IntKind.i64 0))))), (1, (1, (AX.c (PV.val (Value.int IntKind.i64 0))))), (2, (1, (AX.c (PV.val (Value.int IntKind.i64 0))))), (3, (1, (AX.c (PV.val (Value.int IntKind.i64 1)))))]) (some (534, true)) 95 false true), (AOp.mk (some 537) (AK.call 20 [(AX.t 535), (AX.t 536)]) (some (534, true)) 96 false true), (AOp.mk (some 538) (AK.pick (AX.t 534) (AX.t 537) (AX.c (PV.val (Value.bool false)))) none 97 false true), (AOp.mk (some 539) (AK.mv (AX.t 538)) none 98 false true), (AOp.mk (some 540) (AK.pick (AX.t 539) (AX.c (PV.val (Value.bool true))) (AX.c (PV.val (Value.bool false)))) none 99 false true), (AOp.mk (some 541) (AK.mv (AX.t 540)) none 100 false true), (AOp.mk (some 542) (AK.call 25 []) (some (541, true)) 101 false true), (AOp.mk (some 543) (AK.pick (AX.t 541) (AX.t 542) (AX.c (PV.val (Value.bool false)))) none 102 false true), (AOp.mk (some 0) (AK.mv (AX.t 543)) none 103 false true)]) AC.ret)))))))))))))))))))))))))))))))))))))))
theorem ac16_ok : cCode Try.prog (fun d => d == 73 || d == 92) Try.f16.ntmps (Try.f16.body.getD .skip) = some ac16 := by kernel_rfl
theorem sl8_0 : iadrS' 2 (AV.sli 18 8 2) (AV.p (PV.val (Value.int IntKind.i64 0))) = some (.loc 18 0) := rfl
theorem sl8_1 : iadrS' 2 (AV.sli 18 8 2) (AV.p (PV.val (Value.int IntKind.i64 1))) = some (.loc 18 2) := rfl
theorem sl8_2 : iadrS' 2 (AV.sli 18 8 2) (AV.p (PV.val (Value.int IntKind.i64 2))) = some (.loc 18 4) := rfl
theorem sl8_3 : iadrS' 2 (AV.sli 18 8 2) (AV.p (PV.val (Value.int IntKind.i64 3))) = some (.loc 18 6) := rfl
theorem sl8_4 : iadrS' 2 (AV.sli 18 8 2) (AV.p (PV.val (Value.int IntKind.i64 4))) = some (.loc 18 8) := rfl
theorem sl8_5 : iadrS' 2 (AV.sli 18 8 2) (AV.p (PV.val (Value.int IntKind.i64 5))) = some (.loc 18 10) := rfl
theorem sl8_6 : iadrS' 2 (AV.sli 18 8 2) (AV.p (PV.val (Value.int IntKind.i64 6))) = some (.loc 18 12) := rfl
theorem sl8_7 : iadrS' 2 (AV.sli 18 8 2) (AV.p (PV.val (Value.int IntKind.i64 7))) = some (.loc 18 14) := rfl
theorem sl4_0 {id : Nat} : iadrS' 1 (AV.sli id 4 1) (AV.p (PV.val (Value.int IntKind.i64 0))) = some (.loc id 0) := rfl
theorem sl4_1 {id : Nat} : iadrS' 1 (AV.sli id 4 1) (AV.p (PV.val (Value.int IntKind.i64 1))) = some (.loc id 1) := rfl
theorem sl4_2 {id : Nat} : iadrS' 1 (AV.sli id 4 1) (AV.p (PV.val (Value.int IntKind.i64 2))) = some (.loc id 2) := rfl
theorem sl4_3 {id : Nat} : iadrS' 1 (AV.sli id 4 1) (AV.p (PV.val (Value.int IntKind.i64 3))) = some (.loc id 3) := rfl
set_option maxRecDepth 100000 in
set_option maxHeartbeats 4000000 in
theorem Known_law : Sem1 16 [] (pb true) := by
  refine semC_of_exec' mixed Try.func16 (by kernel_rfl) (by kernel_rfl) ac16_ok 0 rfl (by decide) [(.tmp 0)] (by kernel_rfl) ?_
  intro hr C hC hI
  unfold ac16
  simp only [go_sem]
  refine call_pure2 hC (own_sem) rfl (PVleL_refl _) ?_
  rintro r rfl
  simp only [go_sem]
  refine call_pure2 hC (own_sem) rfl (PVleL_refl _) ?_
  rintro r rfl
  simp only [go_sem]
  refine call_pure2 hC (own_sem) rfl (PVleL_refl _) ?_
  rintro r rfl
  simp only [go_sem]
  refine call_mem2 hC [] (own_semM) rfl (by decide) rfl rfl rfl rfl (by simp) ?_
  rintro r L' ys' ⟨rfl, rfl, rfl⟩ -
  rw [upd0]
  simp only [ownL, List.map_cons, List.map_nil, mAt_nil, renB_cells, AV.ren, AV.ren.renL, List.length_nil, Nat.zero_add, List.nil_append]
  simp only [go_sem]
  refine call_mem2 hC [] (own_semM) rfl (by decide) rfl rfl rfl rfl (by simp) ?_
  rintro r L' ys' ⟨rfl, rfl, rfl⟩ -
  rw [upd0]
  simp only [ownL, List.map_cons, List.map_nil, mAt_nil, renB_cells, AV.ren, AV.ren.renL, List.length_cons, List.length_nil, Nat.zero_add, Nat.reduceAdd, List.nil_append, List.cons_append]
  simp only [go_sem]
  refine call_mem2 hC [] (own_semM) rfl (by decide) rfl rfl rfl rfl (by simp) ?_
  rintro r L' ys' ⟨rfl, rfl, rfl⟩ -
  rw [upd0]
  simp only [ownL, List.map_cons, List.map_nil, mAt_nil, renB_cells, AV.ren, AV.ren.renL, List.length_cons, List.length_nil, Nat.zero_add, Nat.reduceAdd, List.nil_append, List.cons_append]
  simp only [go_sem]
  refine call_pure2 hC (own_sem) rfl (PVleL_refl _) ?_
  rintro r rfl
  simp only [go_sem, Nat.reduceBEq, Nat.reduceAdd, Nat.reduceLeDiff, ownB, putCells, sl8_1, sl8_2]
  refine call_pure2 hC (own_sem) rfl (PVleL_refl _) ?_
  rintro r rfl
  simp only [go_sem, Nat.reduceBEq, ownB]
  refine call_pure2 hC (own_sem) rfl (PVleL_refl _) ?_
  rintro r rfl
  simp only [go_sem, Nat.reduceBEq, Nat.reduceAdd, Nat.reduceLeDiff, ownB, putCells, sl8_3, sl8_4, sl8_5, sl8_6, sl8_7, sl4_0, sl4_1, sl4_3]
  intro t ht
  refine loop_kl 8 (fun _ => True) [1] (fun i => [(2, .p (pi i))]) (badL t) trivial ?_ ?_
  · simp [badL, badL0, Wk, wkT, wkL, look, AV.lo, AV.lo.loL, ABlk.toZ, upS_eq, keepS_nil, keepS_cons]
  rintro i ⟨hi, -⟩
  have hi9 : i = 0 ∨ i = 1 ∨ i = 2 ∨ i = 3 ∨ i = 4 ∨ i = 5 ∨ i = 6 ∨ i = 7 ∨ i = 8 := by omega
  rcases hi9 with rfl | rfl | rfl | rfl | rfl | rfl | rfl | rfl | rfl
  · simp only [go_sem, Nat.reduceBEq, Nat.reduceAdd, Nat.reduceLeDiff, badL, badL0, sl8_0, List.length_cons, List.length_nil, Int.cast_ofNat_Int, decide_true, Int.reduceLT, Int.reduceNeg]
    refine call_pure2 hC (bad_Turns .sh badB0_no (-1) (-1)) rfl ⟨PVle.agg (show PVleL [_, _] [_, _] from ⟨PVle.refl _, PVle.nil _ _ _, trivial⟩), PVle.refl _, PVle.refl _, trivial⟩ ?_
    rintro r rfl
    simp only [go_sem, Nat.reduceBEq, Nat.reduceAdd, Nat.reduceLeDiff, sl8_0, Int.reduceNeg]
    refine call_pure2 hC (bad_Same .sh badB0_no (-1) (-1)) rfl ⟨PVle.agg (show PVleL [_, _] [_, _] from ⟨PVle.refl _, PVle.nil _ _ _, trivial⟩), PVle.refl _, PVle.refl _, trivial⟩ ?_
    rintro r rfl
    simp only [go_sem, Nat.reduceBEq, Nat.reduceAdd, Nat.reduceLeDiff, sl8_0, Int.reduceNeg]
    refine call_pure2 hC (bad_Clash .sh badB0_no) rfl ⟨PVle.agg (show PVleL [_, _] [_, _] from ⟨PVle.refl _, PVle.nil _ _ _, trivial⟩), trivial⟩ ?_
    rintro r rfl
    simp only [go_sem, Nat.reduceBEq, Nat.reduceAdd, Nat.reduceLeDiff, sl8_0, Int.reduceNeg]
    refine call_pure2 hC (bad_Sure .sh badB0_no) rfl ⟨PVle.agg (show PVleL [_, _] [_, _] from ⟨PVle.refl _, PVle.nil _ _ _, trivial⟩), trivial⟩ ?_
    rintro r rfl
    simp only [go_sem, Nat.reduceBEq, Nat.reduceAdd, Nat.reduceLeDiff, sl8_0, Int.reduceNeg]
    refine call_pure2 hC (bad_Whose .sh badB0_no []) rfl ⟨PVle.agg (show PVleL [_, _] [_, _] from ⟨PVle.refl _, PVle.nil _ _ _, trivial⟩), PVle.nil _ _ _, trivial⟩ ?_
    rintro r rfl
    simp only [go_sem, Nat.reduceBEq, Nat.reduceAdd, Nat.reduceLeDiff, sl8_0, Int.reduceNeg]
    refine call_pure2 hC (bad_New .sh badB0_no) rfl ⟨PVle.agg (show PVleL [_, _] [_, _] from ⟨PVle.refl _, PVle.nil _ _ _, trivial⟩), trivial⟩ ?_
    rintro r rfl
    simp only [go_sem, Nat.reduceBEq, Nat.reduceAdd, Nat.reduceLeDiff, sl8_0, Int.reduceNeg]
    refine call_pure2 hC (bad_Drop .sh badB0_no) rfl ⟨PVle.agg (show PVleL [_, _] [_, _] from ⟨PVle.refl _, PVle.nil _ _ _, trivial⟩), trivial⟩ ?_
    rintro r rfl
    simp only [go_sem, Nat.reduceBEq, Nat.reduceAdd, Nat.reduceLeDiff, sl8_0, Int.reduceNeg]
    refine call_pure2 hC (bad_Look .sh badB0_no) rfl ⟨PVle.agg (show PVleL [_, _] [_, _] from ⟨PVle.refl _, PVle.nil _ _ _, trivial⟩), trivial⟩ ?_
    rintro r rfl
    simp only [go_sem, Nat.reduceBEq, Nat.reduceAdd, Nat.reduceLeDiff, sl8_0, Int.reduceNeg]
    refine call_pure2 hC (bad_Check .sh badB0_no) rfl ⟨PVle.agg (show PVleL [_, _] [_, _] from ⟨PVle.refl _, PVle.nil _ _ _, trivial⟩), trivial⟩ ?_
    rintro r rfl
    simp only [go_sem, Nat.reduceBEq, decide_false, not_true_eq_false, Int.reduceNeg]
    refine ⟨⟨1, by omega, trivial⟩, by simp only; omega, ?_⟩
    simp [Wk, wkT, wkL, look, AV.lo, AV.lo.loL, ABlk.toZ, show IntKind.i64.wrap 1 = 1 from rfl]
  · simp only [go_sem, Nat.reduceBEq, Nat.reduceAdd, Nat.reduceLeDiff, badL, badL0, sl8_1, List.length_cons, List.length_nil, Int.cast_ofNat_Int, decide_true, Int.reduceLT, Int.reduceNeg]
    refine call_pure2 hC (bad_Turns .full badB1_no (-1) (-1)) rfl ⟨PVle.refl _, PVle.refl _, PVle.refl _, trivial⟩ ?_
    rintro r rfl
    simp only [go_sem, Nat.reduceBEq, Nat.reduceAdd, Nat.reduceLeDiff, sl8_1, Int.reduceNeg]
    refine call_pure2 hC (bad_Same .full badB1_no (-1) (-1)) rfl ⟨PVle.refl _, PVle.refl _, PVle.refl _, trivial⟩ ?_
    rintro r rfl
    simp only [go_sem, Nat.reduceBEq, Nat.reduceAdd, Nat.reduceLeDiff, sl8_1, Int.reduceNeg]
    refine call_pure2 hC (bad_Clash .full badB1_no) rfl ⟨PVle.refl _, trivial⟩ ?_
    rintro r rfl
    simp only [go_sem, Nat.reduceBEq, Nat.reduceAdd, Nat.reduceLeDiff, sl8_1, Int.reduceNeg]
    refine call_pure2 hC (bad_Sure .full badB1_no) rfl ⟨PVle.refl _, trivial⟩ ?_
    rintro r rfl
    simp only [go_sem, Nat.reduceBEq, Nat.reduceAdd, Nat.reduceLeDiff, sl8_1, Int.reduceNeg]
    refine call_pure2 hC (bad_Whose .full badB1_no []) rfl ⟨PVle.refl _, PVle.nil _ _ _, trivial⟩ ?_
    rintro r rfl
    simp only [go_sem, Nat.reduceBEq, Nat.reduceAdd, Nat.reduceLeDiff, sl8_1, Int.reduceNeg]
    refine call_pure2 hC (bad_New .full badB1_no) rfl ⟨PVle.refl _, trivial⟩ ?_
    rintro r rfl
    simp only [go_sem, Nat.reduceBEq, Nat.reduceAdd, Nat.reduceLeDiff, sl8_1, Int.reduceNeg]
    refine call_pure2 hC (bad_Drop .full badB1_no) rfl ⟨PVle.refl _, trivial⟩ ?_
    rintro r rfl
    simp only [go_sem, Nat.reduceBEq, Nat.reduceAdd, Nat.reduceLeDiff, sl8_1, Int.reduceNeg]
    refine call_pure2 hC (bad_Look .full badB1_no) rfl ⟨PVle.refl _, trivial⟩ ?_
    rintro r rfl
    simp only [go_sem, Nat.reduceBEq, Nat.reduceAdd, Nat.reduceLeDiff, sl8_1, Int.reduceNeg]
    refine call_pure2 hC (bad_Check .full badB1_no) rfl ⟨PVle.refl _, trivial⟩ ?_
    rintro r rfl
    simp only [go_sem, Nat.reduceBEq, decide_false, not_true_eq_false, Int.reduceNeg]
    refine ⟨⟨2, by omega, trivial⟩, by simp only; omega, ?_⟩
    simp [Wk, wkT, wkL, look, AV.lo, AV.lo.loL, ABlk.toZ, show IntKind.i64.wrap 2 = 2 from rfl]
  · simp only [go_sem, Nat.reduceBEq, Nat.reduceAdd, Nat.reduceLeDiff, badL, badL0, sl8_2, List.length_cons, List.length_nil, Int.cast_ofNat_Int, decide_true, Int.reduceLT, Int.reduceNeg]
    refine call_pure2 hC (bad_Turns .sh badB2_no (-1) (-1)) rfl ⟨PVle.agg (show PVleL [_, _] [_, _] from ⟨PVle.refl _, PVle.nil _ _ _, trivial⟩), PVle.refl _, PVle.refl _, trivial⟩ ?_
    rintro r rfl
    simp only [go_sem, Nat.reduceBEq, Nat.reduceAdd, Nat.reduceLeDiff, sl8_2, Int.reduceNeg]
    refine call_pure2 hC (bad_Same .sh badB2_no (-1) (-1)) rfl ⟨PVle.agg (show PVleL [_, _] [_, _] from ⟨PVle.refl _, PVle.nil _ _ _, trivial⟩), PVle.refl _, PVle.refl _, trivial⟩ ?_
    rintro r rfl
    simp only [go_sem, Nat.reduceBEq, Nat.reduceAdd, Nat.reduceLeDiff, sl8_2, Int.reduceNeg]
    refine call_pure2 hC (bad_Clash .sh badB2_no) rfl ⟨PVle.agg (show PVleL [_, _] [_, _] from ⟨PVle.refl _, PVle.nil _ _ _, trivial⟩), trivial⟩ ?_
    rintro r rfl
    simp only [go_sem, Nat.reduceBEq, Nat.reduceAdd, Nat.reduceLeDiff, sl8_2, Int.reduceNeg]
    refine call_pure2 hC (bad_Sure .sh badB2_no) rfl ⟨PVle.agg (show PVleL [_, _] [_, _] from ⟨PVle.refl _, PVle.nil _ _ _, trivial⟩), trivial⟩ ?_
    rintro r rfl
    simp only [go_sem, Nat.reduceBEq, Nat.reduceAdd, Nat.reduceLeDiff, sl8_2, Int.reduceNeg]
    refine call_pure2 hC (bad_Whose .sh badB2_no []) rfl ⟨PVle.agg (show PVleL [_, _] [_, _] from ⟨PVle.refl _, PVle.nil _ _ _, trivial⟩), PVle.nil _ _ _, trivial⟩ ?_
    rintro r rfl
    simp only [go_sem, Nat.reduceBEq, Nat.reduceAdd, Nat.reduceLeDiff, sl8_2, Int.reduceNeg]
    refine call_pure2 hC (bad_New .sh badB2_no) rfl ⟨PVle.agg (show PVleL [_, _] [_, _] from ⟨PVle.refl _, PVle.nil _ _ _, trivial⟩), trivial⟩ ?_
    rintro r rfl
    simp only [go_sem, Nat.reduceBEq, Nat.reduceAdd, Nat.reduceLeDiff, sl8_2, Int.reduceNeg]
    refine call_pure2 hC (bad_Drop .sh badB2_no) rfl ⟨PVle.agg (show PVleL [_, _] [_, _] from ⟨PVle.refl _, PVle.nil _ _ _, trivial⟩), trivial⟩ ?_
    rintro r rfl
    simp only [go_sem, Nat.reduceBEq, Nat.reduceAdd, Nat.reduceLeDiff, sl8_2, Int.reduceNeg]
    refine call_pure2 hC (bad_Look .sh badB2_no) rfl ⟨PVle.agg (show PVleL [_, _] [_, _] from ⟨PVle.refl _, PVle.nil _ _ _, trivial⟩), trivial⟩ ?_
    rintro r rfl
    simp only [go_sem, Nat.reduceBEq, Nat.reduceAdd, Nat.reduceLeDiff, sl8_2, Int.reduceNeg]
    refine call_pure2 hC (bad_Check .sh badB2_no) rfl ⟨PVle.agg (show PVleL [_, _] [_, _] from ⟨PVle.refl _, PVle.nil _ _ _, trivial⟩), trivial⟩ ?_
    rintro r rfl
    simp only [go_sem, Nat.reduceBEq, decide_false, not_true_eq_false, Int.reduceNeg]
    refine ⟨⟨3, by omega, trivial⟩, by simp only; omega, ?_⟩
    simp [Wk, wkT, wkL, look, AV.lo, AV.lo.loL, ABlk.toZ, show IntKind.i64.wrap 3 = 3 from rfl]
  · simp only [go_sem, Nat.reduceBEq, Nat.reduceAdd, Nat.reduceLeDiff, badL, badL0, sl8_3, List.length_cons, List.length_nil, Int.cast_ofNat_Int, decide_true, Int.reduceLT, Int.reduceNeg]
    refine call_pure2 hC (bad_Turns (.own t 26 1) badB3_no (-1) (-1)) rfl ⟨PVle.refl _, PVle.refl _, PVle.refl _, trivial⟩ ?_
    rintro r rfl
    simp only [go_sem, Nat.reduceBEq, Nat.reduceAdd, Nat.reduceLeDiff, sl8_3, Int.reduceNeg]
    refine call_pure2 hC (bad_Same (.own t 26 1) badB3_no (-1) (-1)) rfl ⟨PVle.refl _, PVle.refl _, PVle.refl _, trivial⟩ ?_
    rintro r rfl
    simp only [go_sem, Nat.reduceBEq, Nat.reduceAdd, Nat.reduceLeDiff, sl8_3, Int.reduceNeg]
    refine call_pure2 hC (bad_Clash (.own t 26 1) badB3_no) rfl ⟨PVle.refl _, trivial⟩ ?_
    rintro r rfl
    simp only [go_sem, Nat.reduceBEq, Nat.reduceAdd, Nat.reduceLeDiff, sl8_3, Int.reduceNeg]
    refine call_pure2 hC (bad_Sure (.own t 26 1) badB3_no) rfl ⟨PVle.refl _, trivial⟩ ?_
    rintro r rfl
    simp only [go_sem, Nat.reduceBEq, Nat.reduceAdd, Nat.reduceLeDiff, sl8_3, Int.reduceNeg]
    refine call_pure2 hC (bad_Whose (.own t 26 1) badB3_no []) rfl ⟨PVle.refl _, PVle.nil _ _ _, trivial⟩ ?_
    rintro r rfl
    simp only [go_sem, Nat.reduceBEq, Nat.reduceAdd, Nat.reduceLeDiff, sl8_3, Int.reduceNeg]
    refine call_pure2 hC (bad_New (.own t 26 1) badB3_no) rfl ⟨PVle.refl _, trivial⟩ ?_
    rintro r rfl
    simp only [go_sem, Nat.reduceBEq, Nat.reduceAdd, Nat.reduceLeDiff, sl8_3, Int.reduceNeg]
    refine call_pure2 hC (bad_Drop (.own t 26 1) badB3_no) rfl ⟨PVle.refl _, trivial⟩ ?_
    rintro r rfl
    simp only [go_sem, Nat.reduceBEq, Nat.reduceAdd, Nat.reduceLeDiff, sl8_3, Int.reduceNeg]
    refine call_pure2 hC (bad_Look (.own t 26 1) badB3_no) rfl ⟨PVle.refl _, trivial⟩ ?_
    rintro r rfl
    simp only [go_sem, Nat.reduceBEq, Nat.reduceAdd, Nat.reduceLeDiff, sl8_3, Int.reduceNeg]
    refine call_pure2 hC (bad_Check (.own t 26 1) badB3_no) rfl ⟨PVle.refl _, trivial⟩ ?_
    rintro r rfl
    simp only [go_sem, Nat.reduceBEq, decide_false, not_true_eq_false, Int.reduceNeg]
    refine ⟨⟨4, by omega, trivial⟩, by simp only; omega, ?_⟩
    simp [Wk, wkT, wkL, look, AV.lo, AV.lo.loL, ABlk.toZ, show IntKind.i64.wrap 4 = 4 from rfl]
  · simp only [go_sem, Nat.reduceBEq, Nat.reduceAdd, Nat.reduceLeDiff, badL, badL0, sl8_4, List.length_cons, List.length_nil, Int.cast_ofNat_Int, decide_true, Int.reduceLT, Int.reduceNeg]
    refine call_purA hC (l := [.agg (bookC .sh badB4), pi (-1), pi (-1)]) (bad_Turns .sh badB4_no (-1) (-1)) (L' := badL1 t) rfl ⟨PVle.refl _, PVle.refl _, PVle.refl _, trivial⟩ ?_
    rintro r rfl
    simp only [go_sem, Nat.reduceBEq, Nat.reduceAdd, Nat.reduceLeDiff, sl8_4, badL1, Int.reduceNeg]
    refine call_purA hC (l := [.agg (bookC .sh badB4), pi (-1), pi (-1)]) (bad_Same .sh badB4_no (-1) (-1)) (L' := badL1 t) rfl ⟨PVle.refl _, PVle.refl _, PVle.refl _, trivial⟩ ?_
    rintro r rfl
    simp only [go_sem, Nat.reduceBEq, Nat.reduceAdd, Nat.reduceLeDiff, sl8_4, badL1, Int.reduceNeg]
    refine call_purA hC (l := [.agg (bookC .sh badB4)]) (bad_Clash .sh badB4_no) (L' := badL1 t) rfl ⟨PVle.refl _, trivial⟩ ?_
    rintro r rfl
    simp only [go_sem, Nat.reduceBEq, Nat.reduceAdd, Nat.reduceLeDiff, sl8_4, badL1, Int.reduceNeg]
    refine call_purA hC (l := [.agg (bookC .sh badB4)]) (bad_Sure .sh badB4_no) (L' := badL1 t) rfl ⟨PVle.refl _, trivial⟩ ?_
    rintro r rfl
    simp only [go_sem, Nat.reduceBEq, Nat.reduceAdd, Nat.reduceLeDiff, sl8_4, badL1, Int.reduceNeg]
    refine call_purA hC (l := [.agg (bookC .sh badB4), .sl .full 0 []]) (bad_Whose .sh badB4_no []) (L' := badL1 t) rfl ⟨PVle.refl _, PVle.nil _ _ _, trivial⟩ ?_
    rintro r rfl
    simp only [go_sem, Nat.reduceBEq, Nat.reduceAdd, Nat.reduceLeDiff, sl8_4, badL1, Int.reduceNeg]
    refine call_purA hC (l := [.agg (bookC .sh badB4)]) (bad_New .sh badB4_no) (L' := badL1 t) rfl ⟨PVle.refl _, trivial⟩ ?_
    rintro r rfl
    simp only [go_sem, Nat.reduceBEq, Nat.reduceAdd, Nat.reduceLeDiff, sl8_4, badL1, Int.reduceNeg]
    refine call_purA hC (l := [.agg (bookC .sh badB4)]) (bad_Drop .sh badB4_no) (L' := badL1 t) rfl ⟨PVle.refl _, trivial⟩ ?_
    rintro r rfl
    simp only [go_sem, Nat.reduceBEq, Nat.reduceAdd, Nat.reduceLeDiff, sl8_4, badL1, Int.reduceNeg]
    refine call_purA hC (l := [.agg (bookC .sh badB4)]) (bad_Look .sh badB4_no) (L' := badL1 t) rfl ⟨PVle.refl _, trivial⟩ ?_
    rintro r rfl
    simp only [go_sem, Nat.reduceBEq, Nat.reduceAdd, Nat.reduceLeDiff, sl8_4, badL1, Int.reduceNeg]
    refine call_purA hC (l := [.agg (bookC .sh badB4)]) (bad_Check .sh badB4_no) (L' := badL1 t) rfl ⟨PVle.refl _, trivial⟩ ?_
    rintro r rfl
    simp only [go_sem, Nat.reduceBEq, badL1, decide_false, not_true_eq_false, Int.reduceNeg]
    refine ⟨⟨5, by omega, trivial⟩, by simp only; omega, ?_⟩
    simp [Wk, wkT, wkL, look, AV.lo, AV.lo.loL, ABlk.toZ, show IntKind.i64.wrap 5 = 5 from rfl]
  · simp only [go_sem, Nat.reduceBEq, Nat.reduceAdd, Nat.reduceLeDiff, badL, badL1, sl8_5, List.length_cons, List.length_nil, Int.cast_ofNat_Int, decide_true, Int.reduceLT, Int.reduceNeg]
    refine call_purA hC (l := [.agg (bookC .sh badB5), pi (-1), pi (-1)]) (bad_Turns .sh badB5_no (-1) (-1)) (L' := badL2 t) rfl ⟨PVle.refl _, PVle.refl _, PVle.refl _, trivial⟩ ?_
    rintro r rfl
    simp only [go_sem, Nat.reduceBEq, Nat.reduceAdd, Nat.reduceLeDiff, sl8_5, badL2, Int.reduceNeg]
    refine call_purA hC (l := [.agg (bookC .sh badB5), pi (-1), pi (-1)]) (bad_Same .sh badB5_no (-1) (-1)) (L' := badL2 t) rfl ⟨PVle.refl _, PVle.refl _, PVle.refl _, trivial⟩ ?_
    rintro r rfl
    simp only [go_sem, Nat.reduceBEq, Nat.reduceAdd, Nat.reduceLeDiff, sl8_5, badL2, Int.reduceNeg]
    refine call_purA hC (l := [.agg (bookC .sh badB5)]) (bad_Clash .sh badB5_no) (L' := badL2 t) rfl ⟨PVle.refl _, trivial⟩ ?_
    rintro r rfl
    simp only [go_sem, Nat.reduceBEq, Nat.reduceAdd, Nat.reduceLeDiff, sl8_5, badL2, Int.reduceNeg]
    refine call_purA hC (l := [.agg (bookC .sh badB5)]) (bad_Sure .sh badB5_no) (L' := badL2 t) rfl ⟨PVle.refl _, trivial⟩ ?_
    rintro r rfl
    simp only [go_sem, Nat.reduceBEq, Nat.reduceAdd, Nat.reduceLeDiff, sl8_5, badL2, Int.reduceNeg]
    refine call_purA hC (l := [.agg (bookC .sh badB5), .sl .full 0 []]) (bad_Whose .sh badB5_no []) (L' := badL2 t) rfl ⟨PVle.refl _, PVle.nil _ _ _, trivial⟩ ?_
    rintro r rfl
    simp only [go_sem, Nat.reduceBEq, Nat.reduceAdd, Nat.reduceLeDiff, sl8_5, badL2, Int.reduceNeg]
    refine call_purA hC (l := [.agg (bookC .sh badB5)]) (bad_New .sh badB5_no) (L' := badL2 t) rfl ⟨PVle.refl _, trivial⟩ ?_
    rintro r rfl
    simp only [go_sem, Nat.reduceBEq, Nat.reduceAdd, Nat.reduceLeDiff, sl8_5, badL2, Int.reduceNeg]
    refine call_purA hC (l := [.agg (bookC .sh badB5)]) (bad_Drop .sh badB5_no) (L' := badL2 t) rfl ⟨PVle.refl _, trivial⟩ ?_
    rintro r rfl
    simp only [go_sem, Nat.reduceBEq, Nat.reduceAdd, Nat.reduceLeDiff, sl8_5, badL2, Int.reduceNeg]
    refine call_purA hC (l := [.agg (bookC .sh badB5)]) (bad_Look .sh badB5_no) (L' := badL2 t) rfl ⟨PVle.refl _, trivial⟩ ?_
    rintro r rfl
    simp only [go_sem, Nat.reduceBEq, Nat.reduceAdd, Nat.reduceLeDiff, sl8_5, badL2, Int.reduceNeg]
    refine call_purA hC (l := [.agg (bookC .sh badB5)]) (bad_Check .sh badB5_no) (L' := badL2 t) rfl ⟨PVle.refl _, trivial⟩ ?_
    rintro r rfl
    simp only [go_sem, Nat.reduceBEq, badL2, decide_false, not_true_eq_false, Int.reduceNeg]
    refine ⟨⟨6, by omega, trivial⟩, by simp only; omega, ?_⟩
    simp [Wk, wkT, wkL, look, AV.lo, AV.lo.loL, ABlk.toZ, show IntKind.i64.wrap 6 = 6 from rfl]
  · simp only [go_sem, Nat.reduceBEq, Nat.reduceAdd, Nat.reduceLeDiff, badL, badL2, sl8_6, List.length_cons, List.length_nil, Int.cast_ofNat_Int, decide_true, Int.reduceLT, Int.reduceNeg]
    refine call_purA hC (l := [.agg (bookC .sh badB6), pi (-1), pi (-1)]) (bad_Turns .sh badB6_no (-1) (-1)) (L' := badL3 t) rfl ⟨PVle.refl _, PVle.refl _, PVle.refl _, trivial⟩ ?_
    rintro r rfl
    simp only [go_sem, Nat.reduceBEq, Nat.reduceAdd, Nat.reduceLeDiff, sl8_6, badL3, Int.reduceNeg]
    refine call_purA hC (l := [.agg (bookC .sh badB6), pi (-1), pi (-1)]) (bad_Same .sh badB6_no (-1) (-1)) (L' := badL3 t) rfl ⟨PVle.refl _, PVle.refl _, PVle.refl _, trivial⟩ ?_
    rintro r rfl
    simp only [go_sem, Nat.reduceBEq, Nat.reduceAdd, Nat.reduceLeDiff, sl8_6, badL3, Int.reduceNeg]
    refine call_purA hC (l := [.agg (bookC .sh badB6)]) (bad_Clash .sh badB6_no) (L' := badL3 t) rfl ⟨PVle.refl _, trivial⟩ ?_
    rintro r rfl
    simp only [go_sem, Nat.reduceBEq, Nat.reduceAdd, Nat.reduceLeDiff, sl8_6, badL3, Int.reduceNeg]
    refine call_purA hC (l := [.agg (bookC .sh badB6)]) (bad_Sure .sh badB6_no) (L' := badL3 t) rfl ⟨PVle.refl _, trivial⟩ ?_
    rintro r rfl
    simp only [go_sem, Nat.reduceBEq, Nat.reduceAdd, Nat.reduceLeDiff, sl8_6, badL3, Int.reduceNeg]
    refine call_purA hC (l := [.agg (bookC .sh badB6), .sl .full 0 []]) (bad_Whose .sh badB6_no []) (L' := badL3 t) rfl ⟨PVle.refl _, PVle.nil _ _ _, trivial⟩ ?_
    rintro r rfl
    simp only [go_sem, Nat.reduceBEq, Nat.reduceAdd, Nat.reduceLeDiff, sl8_6, badL3, Int.reduceNeg]
    refine call_purA hC (l := [.agg (bookC .sh badB6)]) (bad_New .sh badB6_no) (L' := badL3 t) rfl ⟨PVle.refl _, trivial⟩ ?_
    rintro r rfl
    simp only [go_sem, Nat.reduceBEq, Nat.reduceAdd, Nat.reduceLeDiff, sl8_6, badL3, Int.reduceNeg]
    refine call_purA hC (l := [.agg (bookC .sh badB6)]) (bad_Drop .sh badB6_no) (L' := badL3 t) rfl ⟨PVle.refl _, trivial⟩ ?_
    rintro r rfl
    simp only [go_sem, Nat.reduceBEq, Nat.reduceAdd, Nat.reduceLeDiff, sl8_6, badL3, Int.reduceNeg]
    refine call_purA hC (l := [.agg (bookC .sh badB6)]) (bad_Look .sh badB6_no) (L' := badL3 t) rfl ⟨PVle.refl _, trivial⟩ ?_
    rintro r rfl
    simp only [go_sem, Nat.reduceBEq, Nat.reduceAdd, Nat.reduceLeDiff, sl8_6, badL3, Int.reduceNeg]
    refine call_purA hC (l := [.agg (bookC .sh badB6)]) (bad_Check .sh badB6_no) (L' := badL3 t) rfl ⟨PVle.refl _, trivial⟩ ?_
    rintro r rfl
    simp only [go_sem, Nat.reduceBEq, badL3, decide_false, not_true_eq_false, Int.reduceNeg]
    refine ⟨⟨7, by omega, trivial⟩, by simp only; omega, ?_⟩
    simp [Wk, wkT, wkL, look, AV.lo, AV.lo.loL, ABlk.toZ, show IntKind.i64.wrap 7 = 7 from rfl]
  · simp only [go_sem, Nat.reduceBEq, Nat.reduceAdd, badL, badL3, sl8_7, List.length_cons, List.length_nil, Int.cast_ofNat_Int, decide_true, Int.reduceLT, Int.reduceNeg]
    refine call_pure2 hC (bad_Turns .full badB7_no (-1) (-1)) rfl ⟨PVle.refl _, PVle.refl _, PVle.refl _, trivial⟩ ?_
    rintro r rfl
    simp only [go_sem, Nat.reduceBEq, Nat.reduceAdd, sl8_7, Int.reduceNeg]
    refine call_pure2 hC (bad_Same .full badB7_no (-1) (-1)) rfl ⟨PVle.refl _, PVle.refl _, PVle.refl _, trivial⟩ ?_
    rintro r rfl
    simp only [go_sem, Nat.reduceBEq, Nat.reduceAdd, sl8_7, Int.reduceNeg]
    refine call_pure2 hC (bad_Clash .full badB7_no) rfl ⟨PVle.refl _, trivial⟩ ?_
    rintro r rfl
    simp only [go_sem, Nat.reduceBEq, Nat.reduceAdd, sl8_7, Int.reduceNeg]
    refine call_pure2 hC (bad_Sure .full badB7_no) rfl ⟨PVle.refl _, trivial⟩ ?_
    rintro r rfl
    simp only [go_sem, Nat.reduceBEq, Nat.reduceAdd, sl8_7, Int.reduceNeg]
    refine call_pure2 hC (bad_Whose .full badB7_no []) rfl ⟨PVle.refl _, PVle.nil _ _ _, trivial⟩ ?_
    rintro r rfl
    simp only [go_sem, Nat.reduceBEq, Nat.reduceAdd, sl8_7, Int.reduceNeg]
    refine call_pure2 hC (bad_New .full badB7_no) rfl ⟨PVle.refl _, trivial⟩ ?_
    rintro r rfl
    simp only [go_sem, Nat.reduceBEq, Nat.reduceAdd, sl8_7, Int.reduceNeg]
    refine call_pure2 hC (bad_Drop .full badB7_no) rfl ⟨PVle.refl _, trivial⟩ ?_
    rintro r rfl
    simp only [go_sem, Nat.reduceBEq, Nat.reduceAdd, sl8_7, Int.reduceNeg]
    refine call_pure2 hC (bad_Look .full badB7_no) rfl ⟨PVle.refl _, trivial⟩ ?_
    rintro r rfl
    simp only [go_sem, Nat.reduceBEq, Nat.reduceAdd, sl8_7, Int.reduceNeg]
    refine call_pure2 hC (bad_Check .full badB7_no) rfl ⟨PVle.refl _, trivial⟩ ?_
    rintro r rfl
    simp only [go_sem, Nat.reduceBEq, decide_false, not_true_eq_false, Int.reduceNeg]
    refine ⟨⟨8, by omega, trivial⟩, by simp only; omega, ?_⟩
    simp [Wk, wkT, wkL, look, AV.lo, AV.lo.loL, ABlk.toZ, show IntKind.i64.wrap 8 = 8 from rfl]
  · simp only [go_sem, Nat.reduceBEq, badL, badL3, Int.cast_ofNat_Int, decide_false, Int.reduceLT, Int.reduceNeg]
    refine call_pure2 hC (own_sem) rfl (PVleL_refl _) ?_
    rintro r rfl
    simp only [go_sem, Nat.reduceBEq]
    refine call_pure2 hC (kn_t1) rfl (PVleL_refl _) ?_
    rintro r rfl
    simp only [go_sem, Nat.reduceBEq]
    refine call_pure2 hC (own_sem) rfl (PVleL_refl _) ?_
    rintro r rfl
    simp only [go_sem, Nat.reduceBEq]
    refine call_pure2 hC (kn_t2) rfl (PVleL_refl _) ?_
    rintro r rfl
    simp only [go_sem, Nat.reduceBEq]
    refine call_pure2 hC (own_sem) rfl (PVleL_refl _) ?_
    rintro r rfl
    simp only [go_sem, Nat.reduceBEq]
    refine call_pure2 hC (kn_s1) rfl (PVleL_refl _) ?_
    rintro r rfl
    simp only [go_sem, Nat.reduceBEq]
    refine call_pure2 hC (own_sem) rfl (PVleL_refl _) ?_
    rintro r rfl
    simp only [go_sem, Nat.reduceBEq]
    refine call_pure2 hC (kn_s2) rfl (PVleL_refl _) ?_
    rintro r rfl
    simp only [go_sem, Nat.reduceBEq]
    refine call_pure2 hC (own_sem) rfl (PVleL_refl _) ?_
    rintro r rfl
    simp only [go_sem, Nat.reduceBEq, Nat.reduceAdd, Nat.reduceLeDiff]
    refine call_pure2 hC (kn_w1) rfl ⟨PVle.refl _, PVle.sh _ _ _, trivial⟩ ?_
    rintro r rfl
    simp only [go_sem, Nat.reduceBEq, Int.reduceNeg, ownB]
    refine call_pure2 hC (own_sem) rfl (PVleL_refl _) ?_
    rintro r rfl
    simp only [go_sem, Nat.reduceBEq, Nat.reduceAdd, Nat.reduceLeDiff]
    refine call_pure2 hC (kn_w2) rfl ⟨PVle.refl _, PVle.sh _ _ _, trivial⟩ ?_
    rintro r rfl
    simp only [go_sem, Nat.reduceBEq, Int.reduceNeg, ownB]
    refine call_pure2 hC (own_sem) rfl (PVleL_refl _) ?_
    rintro r rfl
    simp only [go_sem, Nat.reduceBEq, Nat.reduceAdd, Nat.reduceLeDiff]
    refine call_pure2 hC (kn_w3) rfl ⟨PVle.refl _, PVle.sh _ _ _, trivial⟩ ?_
    rintro r rfl
    simp only [go_sem, Nat.reduceBEq, Int.reduceNeg, ownB]
    refine call_pure2 hC (worn_sem) rfl (PVleL_refl _) ?_
    rintro r rfl
    simp only [go_sem, Nat.reduceBEq]
    refine call_pure2 hC (kn_n1) rfl (PVleL_refl _) ?_
    rintro r rfl
    simp only [go_sem, Nat.reduceBEq]
    refine call_pure2 hC (own_sem) rfl (PVleL_refl _) ?_
    rintro r rfl
    simp only [go_sem, Nat.reduceBEq, Nat.reduceAdd, ownB, putCells, slc_alone]
    refine call_pure2 hC (kn_c1) rfl (PVleL_refl _) ?_
    rintro r rfl
    simp only [go_sem, Nat.reduceBEq, Nat.reduceAdd]
    refine call_pure2 hC (kn_l1) rfl (PVleL_refl _) ?_
    rintro r rfl
    simp only [go_sem, Nat.reduceBEq]
    refine call_pure2 hC (own_sem) rfl (PVleL_refl _) ?_
    rintro r rfl
    simp only [go_sem, Nat.reduceBEq]
    refine call_pure2 hC (kn_u1) rfl (PVleL_refl _) ?_
    rintro r rfl
    simp only [go_sem, Nat.reduceBEq, Nat.reduceAdd, Nat.reduceLeDiff, decide_false, not_true_eq_false, Int.reduceNeg]
    refine loop_k 4 (fun _ => True) [38, 48] (fun i => [(49, .p (pi i))]) trivial rfl ⟨rfl, by simp, by simp⟩ (by simp [wkT, look, AV.lo]) ?_
    rintro i ⟨hi, -⟩
    have hi5 : i = 0 ∨ i = 1 ∨ i = 2 ∨ i = 3 ∨ i = 4 := by omega
    rcases hi5 with rfl | rfl | rfl | rfl | rfl
    · simp only [go_sem, Nat.reduceBEq, Nat.reduceAdd, List.length_cons, List.length_nil, Int.cast_ofNat_Int, trn_0, ix3_0, ix3_1, decide_true, Bool.false_eq_true, Int.reduceLT, Int.reduceNeg]
      refine call_pure2 hC (own_sem) rfl (PVleL_refl _) ?_
      rintro r rfl
      simp only [go_sem, Nat.reduceBEq]
      refine call_pure2 hC (kn_x0) rfl (PVleL_refl _) ?_
      rintro r rfl
      simp only [go_sem, Nat.reduceBEq, trn_0, ix3_2, decide_false, not_true_eq_false, putCells]
      refine call_pure2 hC (Equal_sem [2] [2]) rfl (Equal_lit .full [2] [2]) ?_
      rintro r rfl
      simp only [go_sem, Nat.reduceBEq, decide_true]
      refine ⟨⟨1, by omega, trivial⟩, by simp only; omega, ?_⟩
      simp [Wk, wkT, wkL, look, AV.lo, AV.lo.loL, ABlk.toZ, show IntKind.i64.wrap 1 = 1 from rfl]
    · simp only [go_sem, Nat.reduceBEq, Nat.reduceAdd, List.length_cons, List.length_nil, Int.cast_ofNat_Int, trn_1, ix3_0, ix3_1, decide_true, Bool.false_eq_true, Int.reduceLT, Int.reduceNeg]
      refine call_pure2 hC (own_sem) rfl (PVleL_refl _) ?_
      rintro r rfl
      simp only [go_sem, Nat.reduceBEq]
      refine call_pure2 hC (kn_x1) rfl (PVleL_refl _) ?_
      rintro r rfl
      simp only [go_sem, Nat.reduceBEq, trn_1, ix3_2, decide_false, not_true_eq_false, putCells]
      refine call_pure2 hC (Equal_sem [1] [1]) rfl (Equal_lit .full [1] [1]) ?_
      rintro r rfl
      simp only [go_sem, Nat.reduceBEq, decide_true]
      refine ⟨⟨2, by omega, trivial⟩, by simp only; omega, ?_⟩
      simp [Wk, wkT, wkL, look, AV.lo, AV.lo.loL, ABlk.toZ, show IntKind.i64.wrap 2 = 2 from rfl]
    · simp only [go_sem, Nat.reduceBEq, Nat.reduceAdd, List.length_cons, List.length_nil, Int.cast_ofNat_Int, trn_2, ix3_0, ix3_1, decide_true, Bool.false_eq_true, Int.reduceLT, Int.reduceNeg]
      refine call_pure2 hC (own_sem) rfl (PVleL_refl _) ?_
      rintro r rfl
      simp only [go_sem, Nat.reduceBEq]
      refine call_pure2 hC (kn_x2) rfl (PVleL_refl _) ?_
      rintro r rfl
      simp only [go_sem, Nat.reduceBEq, trn_2, ix3_2, decide_false, not_true_eq_false, putCells]
      refine call_pure2 hC (Equal_sem [3] [3]) rfl (Equal_lit .full [3] [3]) ?_
      rintro r rfl
      simp only [go_sem, Nat.reduceBEq, decide_true]
      refine ⟨⟨3, by omega, trivial⟩, by simp only; omega, ?_⟩
      simp [Wk, wkT, wkL, look, AV.lo, AV.lo.loL, ABlk.toZ, show IntKind.i64.wrap 3 = 3 from rfl]
    · simp only [go_sem, Nat.reduceBEq, Nat.reduceAdd, List.length_cons, List.length_nil, Int.cast_ofNat_Int, trn_3, ix3_0, ix3_1, decide_true, Bool.false_eq_true, Int.reduceLT, Int.reduceNeg]
      refine call_pure2 hC (own_sem) rfl (PVleL_refl _) ?_
      rintro r rfl
      simp only [go_sem, Nat.reduceBEq]
      refine call_pure2 hC (kn_x3) rfl (PVleL_refl _) ?_
      rintro r rfl
      simp only [go_sem, Nat.reduceBEq, trn_3, ix3_2, decide_false, not_true_eq_false, putCells]
      refine call_pure2 hC (Equal_sem [2] [2]) rfl (Equal_lit .full [2] [2]) ?_
      rintro r rfl
      simp only [go_sem, Nat.reduceBEq, decide_true]
      refine ⟨⟨4, by omega, trivial⟩, by simp only; omega, ?_⟩
      simp [Wk, wkT, wkL, look, AV.lo, AV.lo.loL, ABlk.toZ, show IntKind.i64.wrap 4 = 4 from rfl]
    · simp only [go_sem, Nat.reduceBEq, Nat.reduceAdd, List.length_cons, List.length_nil, Int.cast_ofNat_Int, decide_false, Int.reduceLT, Int.reduceNeg]
      refine call_pure2 hC (own_sem) rfl (PVleL_refl _) ?_
      rintro r rfl
      simp only [go_sem, Nat.reduceBEq]
      refine call_pure2 hC (kn_t3) rfl (PVleL_refl _) ?_
      rintro r rfl
      simp only [go_sem, Nat.reduceBEq]
      refine call_pure2 hC (own_sem) rfl (PVleL_refl _) ?_
      rintro r rfl
      simp only [go_sem, Nat.reduceBEq]
      refine call_pure2 hC (kn_s3) rfl (PVleL_refl _) ?_
      rintro r rfl
      simp only [go_sem, Nat.reduceBEq]
      refine call_pure2 hC (own_sem) rfl (PVleL_refl _) ?_
      rintro r rfl
      simp only [go_sem, Nat.reduceBEq]
      refine call_pure2 hC (kn_s4) rfl (PVleL_refl _) ?_
      rintro r rfl
      simp only [go_sem, Nat.reduceBEq]
      refine call_pure2 hC (own_sem) rfl (PVleL_refl _) ?_
      rintro r rfl
      simp only [go_sem, Nat.reduceBEq, Nat.reduceAdd, Nat.reduceLeDiff]
      refine call_pure2 hC (kn_w4) rfl ⟨PVle.refl _, PVle.sh _ _ _, trivial⟩ ?_
      rintro r rfl
      simp only [go_sem, Nat.reduceBEq, ownB]
      refine call_pure2 hC (own_sem) rfl (PVleL_refl _) ?_
      rintro r rfl
      simp only [go_sem, Nat.reduceBEq, Nat.reduceAdd, Nat.reduceLeDiff]
      refine call_pure2 hC (kn_w5) rfl ⟨PVle.refl _, PVle.sh _ _ _, trivial⟩ ?_
      rintro r rfl
      simp only [go_sem, Nat.reduceBEq, ownB]
      refine call_pure2 hC (worn_sem) rfl (PVleL_refl _) ?_
      rintro r rfl
      simp only [go_sem, Nat.reduceBEq, Nat.reduceAdd, Nat.reduceLeDiff]
      refine call_pure2 hC (kn_w6) rfl ⟨PVle.refl _, PVle.sh _ _ _, trivial⟩ ?_
      rintro r rfl
      simp only [go_sem, Nat.reduceBEq]
      refine call_pure2 hC (own_sem) rfl (PVleL_refl _) ?_
      rintro r rfl
      simp only [go_sem, Nat.reduceBEq]
      refine call_pure2 hC (kn_d1) rfl (PVleL_refl _) ?_
      rintro r rfl
      simp only [go_sem, Nat.reduceBEq]
      refine call_pure2 hC (own_sem) rfl (PVleL_refl _) ?_
      rintro r rfl
      simp only [go_sem, Nat.reduceBEq]
      refine call_pure2 hC (kn_l2) rfl (PVleL_refl _) ?_
      rintro r rfl
      simp only [go_sem, Nat.reduceBEq, Nat.reduceAdd]
      refine call_pure2 hC (kn_d2) rfl (PVleL_refl _) ?_
      rintro r rfl
      simp only [go_sem, Nat.reduceBEq, Nat.reduceAdd, Nat.reduceLeDiff, putCells]
      refine call_pure2 hC (kn_t4) rfl ⟨even_le, PVle.refl _, PVle.refl _, trivial⟩ ?_
      rintro r rfl
      simp only [go_sem, Nat.reduceBEq, Nat.reduceAdd]
      refine call_pure2 hC (kn_n2) rfl ⟨even_le, trivial⟩ ?_
      rintro r rfl
      simp only [go_sem, Nat.reduceBEq, Nat.reduceAdd, Nat.reduceLeDiff, decide_true, putCells, List.length_nil, List.map_nil, Int.natCast_zero]
      refine call_pure2 hC (Equal_sem [0, 1, 2] [0, 1, 2]) rfl (Equal_lit .full [0, 1, 2] [0, 1, 2]) ?_
      rintro r rfl
      simp only [go_sem, Nat.reduceBEq, decide_true, List.length_nil, List.map_nil]
      refine call_pure2 hC (Equal_sem [3] [3]) rfl (Equal_lit .full [3] [3]) ?_
      rintro r rfl
      simp only [go_sem, Nat.reduceBEq, decide_true, List.length_nil, List.map_nil]
      refine call_pure2 hC (Equal_sem [4] [4]) rfl (Equal_lit .full [4] [4]) ?_
      rintro r rfl
      simp only [go_sem, Nat.reduceBEq, Nat.reduceAdd, Nat.reduceLeDiff, decide_true, List.length_nil, List.map_nil]
      refine call_pure2 hC (Equal_sem [0, 1] [0, 1]) rfl (Equal_lit .full [0, 1] [0, 1]) ?_
      rintro r rfl
      simp only [go_sem, Nat.reduceBEq, Nat.reduceAdd, Nat.reduceLeDiff, decide_true, List.length_nil, List.map_nil, Int.natCast_zero]
      refine call_pure2 hC (Equal_sem [1, 3] [1, 3]) rfl (Equal_lit .full [1, 3] [1, 3]) ?_
      rintro r rfl
      simp only [go_sem, Nat.reduceBEq, Nat.reduceAdd, Nat.reduceLeDiff, decide_true, List.length_nil, List.map_nil]
      refine call_pure2 hC (Equal_sem [0, 0, 0, 1] [0, 0, 0, 1]) rfl (Equal_lit .full [0, 0, 0, 1] [0, 0, 0, 1]) ?_
      rintro r rfl
      simp only [go_sem, Nat.reduceBEq, decide_true]
      refine call_pure2 hC (pressed_sem) rfl (PVleL_refl _) ?_
      rintro r rfl
      simp only [go_sem, Nat.reduceBEq]
      exact retQ_one rfl rfl
theorem Known_row : SemC Try.prog 16 [] (fun r => r = pb true) := Known_law
end Go.Proofs.Ythibnlfbdbidjaa
