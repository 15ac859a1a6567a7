/- Contracts of maker: what is needed, two makers, where to look. Contracts of maker: what the package returns. -/
import Derived.Test.YtlbolnlcncjijaaTa07
namespace Go.Proofs.Ytlbolnlcncjijaa.Mk
open Go.RowKit Ls
def ac42 : AC := (AC.seq (AC.ops [(AOp.mk (some 4) (AK.mv (AX.c (PV.val (Value.int IntKind.i64 0)))) none 0 false true), (AOp.mk (some 5) (AK.mv (AX.c (PV.val (Value.bool false)))) none 1 false true)]) (AC.seq (AC.seq (AC.ops [(AOp.mk (some 7) (AK.mv (AX.t 0)) none 0 false true), (AOp.mk (some 8) (AK.call 70 [(AX.t 7)]) none 1 false true), (AOp.mk (some 9) (AK.bin false BinOp.add (AX.t 8) (AX.c (PV.val (Value.int IntKind.i64 1)))) none 2 false true), (AOp.mk (some 10) (AK.mv (AX.c (PV.val (Value.int IntKind.i64 0)))) none 3 false true)]) (AC.block 0 (AC.loop (AC.seq (AC.ops [(AOp.mk (some 11) (AK.bin false BinOp.lss (AX.t 10) (AX.t 9)) none 0 false true)]) (AC.seq (AC.cond (AX.t 11) AC.skip (AC.exit 0)) (AC.seq (AC.block 1 (AC.seq (AC.ops [(AOp.mk (some 12) (AK.mv (AX.t 10)) none 0 false true), (AOp.mk (some 6) (AK.mv (AX.t 12)) none 1 false true)]) (AC.seq (AC.ops [(AOp.mk (some 13) (AK.mv (AX.t 0)) none 0 false true), (AOp.mk (some 14) (AK.mv (AX.t 6)) none 1 false true), (AOp.mk (some 15) (AK.call 71 [(AX.t 13), (AX.t 14)]) none 2 false true), (AOp.mk (some 16) (AK.mv (AX.t 1)) none 3 false true), (AOp.mk (some 17) (AK.call 43 [(AX.t 15), (AX.t 16)]) none 4 false true)]) (AC.cond (AX.t 17) (AC.seq (AC.ops [(AOp.mk (some 18) (AK.mv (AX.t 6)) none 0 false true), (AOp.mk (some 4) (AK.mv (AX.t 18)) none 1 false true), (AOp.mk (some 5) (AK.mv (AX.c (PV.val (Value.bool true)))) none 2 false true)]) AC.ret) AC.skip)))) (AC.ops [(AOp.mk (some 19) (AK.bin false BinOp.add (AX.t 10) (AX.c (PV.val (Value.int IntKind.i64 1)))) none 0 false true), (AOp.mk (some 10) (AK.mv (AX.t 19)) none 1 false true)]))))))) (AC.seq (AC.ops [(AOp.mk (some 4) (AK.mv (AX.c (PV.val (Value.int IntKind.i64 0)))) none 0 false true), (AOp.mk (some 5) (AK.mv (AX.c (PV.val (Value.bool false)))) none 1 false true)]) AC.ret)))
def ac45 : AC := (AC.seq (AC.ops [(AOp.mk (some 5) (AK.box 1 (AX.t 2)) none 0 false true), (AOp.mk (some 6) (AK.new (PV.val (Value.bool false))) none 1 false true)]) (AC.seq (AC.ops [(AOp.mk (some 10) (AK.mv (AX.t 0)) none 0 false true), (AOp.mk (some 11) (AK.call 75 [(AX.t 10), (AX.c (PV.sl SK.full 0 []))]) none 1 false true), (AOp.mk (some 7) (AK.new PV.nilp) none 2 false true), (AOp.mk none (AK.st 1 (AX.t 7) (AX.t 11)) none 3 false true)]) (AC.seq (AC.seq (AC.ops [(AOp.mk (some 12) (AK.ld none (AX.t 7)) none 0 false true), (AOp.mk (some 13) (AK.mv (AX.t 1)) none 1 false true), (AOp.mk (some 14) (AK.bslice false 3 1 1 [(PV.val (Value.int IntKind.i64 0))] [(0, (1, (AX.t 13)))]) none 2 false true), (AOp.mk (some 15) (AK.call 63 [(AX.t 12), (AX.t 14)]) none 3 false true)]) (AC.block 0 (AC.rng (AX.t 15) [16] (AC.ops [(AOp.mk (some 8) (AK.new (PV.agg [(PV.val (Value.int IntKind.i64 0)), (PV.sl SK.full 0 []), (PV.val (Value.int IntKind.i64 0)), (PV.val (Value.int IntKind.i64 0)), (PV.val (Value.int IntKind.i64 0)), (PV.val (Value.int IntKind.i64 0)), (PV.val (Value.int IntKind.i64 0)), (PV.val (Value.int IntKind.i64 0))])) none 0 false true), (AOp.mk none (AK.st 8 (AX.t 8) (AX.t 16)) none 1 false true)]) (AC.block 1 (AC.seq (AC.ops [(AOp.mk (some 17) (AK.ld none (AX.t 7)) none 0 false true), (AOp.mk (some 18) (AK.ld none (AX.t 5)) none 1 false true), (AOp.mk (some 19) (AK.bslice false 3 1 1 [(PV.val (Value.int IntKind.i64 0))] [(0, (1, (AX.t 18)))]) none 2 false true), (AOp.mk (some 20) (AK.call 63 [(AX.t 17), (AX.t 19)]) none 3 false true)]) (AC.block 2 (AC.rng (AX.t 20) [21] (AC.ops [(AOp.mk (some 9) (AK.new (PV.agg [(PV.val (Value.int IntKind.i64 0)), (PV.sl SK.full 0 []), (PV.val (Value.int IntKind.i64 0)), (PV.val (Value.int IntKind.i64 0)), (PV.val (Value.int IntKind.i64 0)), (PV.val (Value.int IntKind.i64 0)), (PV.val (Value.int IntKind.i64 0)), (PV.val (Value.int IntKind.i64 0))])) none 0 false true), (AOp.mk none (AK.st 8 (AX.t 9) (AX.t 21)) none 1 false true)]) (AC.block 3 (AC.seq (AC.ops [(AOp.mk (some 22) (AK.fadr 2 (AX.t 8)) none 0 false true), (AOp.mk (some 23) (AK.ld (some 6) (AX.t 22)) none 1 false true), (AOp.mk (some 24) (AK.fadr 2 (AX.t 9)) none 2 false true), (AOp.mk (some 25) (AK.ld (some 6) (AX.t 24)) none 3 false true), (AOp.mk (some 26) (AK.call 76 [(AX.t 23), (AX.t 25)]) none 4 false true), (AOp.mk (some 27) (AK.call 40 [(AX.t 26)]) none 5 false true), (AOp.mk (some 28) (AK.un UnOp.not (AX.t 27)) none 6 false true)]) (AC.cond (AX.t 28) (AC.seq (AC.ops [(AOp.mk none (AK.st 1 (AX.t 6) (AX.c (PV.val (Value.bool false)))) none 0 false true)]) AC.ret) AC.skip)))))))))) (AC.seq (AC.ops [(AOp.mk none (AK.st 1 (AX.t 6) (AX.c (PV.val (Value.bool true)))) none 0 false true)]) AC.ret))))
theorem ac45_ok : cCode Try.prog (fun _ => false) Try.f45.ntmps (Try.f45.body.getD .skip) = some ac45 := by kernel_rfl
def ac100 : AC := (AC.seq (AC.ops [(AOp.mk (some 6) (AK.mv (AX.c PV.nilp)) none 0 false true)]) (AC.seq (AC.ops [(AOp.mk (some 8) (AK.mv (AX.t 0)) none 0 false true), (AOp.mk (some 9) (AK.nilc (AX.t 8)) none 1 false true), (AOp.mk (some 10) (AK.fadr 0 (AX.t 9)) none 2 false true), (AOp.mk (some 11) (AK.fadr 1 (AX.t 10)) none 3 false true), (AOp.mk (some 12) (AK.ld none (AX.t 11)) none 4 false true), (AOp.mk (some 13) (AK.len (AX.t 12)) none 5 false true), (AOp.mk (some 7) (AK.mv (AX.t 13)) none 6 false true)]) (AC.seq (AC.ops [(AOp.mk (some 14) (AK.mv (AX.t 0)) none 0 true false), (AOp.mk (some 15) (AK.mv (AX.t 0)) none 1 true false), (AOp.mk (some 16) (AK.nilc (AX.t 15)) none 2 true false), (AOp.mk (some 17) (AK.fadr 0 (AX.t 16)) none 3 true false), (AOp.mk (some 18) (AK.fadr 1 (AX.t 17)) none 4 true false), (AOp.mk (some 19) (AK.ld none (AX.t 18)) none 5 true false), (AOp.mk (some 20) (AK.mv (AX.t 7)) none 6 true false), (AOp.mk (some 21) (AK.mv (AX.t 7)) none 7 true false), (AOp.mk (some 22) (AK.slc 2 (AX.t 19) none (some (AX.t 20)) (some (AX.t 21))) none 8 true false), (AOp.mk (some 23) (AK.mv (AX.t 1)) none 9 true false), (AOp.mk (some 24) (AK.mv (AX.t 2)) none 10 true false), (AOp.mk (some 25) (AK.bin false BinOp.shl (AX.c (PV.val (Value.int IntKind.i64 1))) (AX.t 24)) none 11 true false), (AOp.mk (some 26) (AK.build [(PV.val (Value.int IntKind.i64 0)), (PV.val (Value.int IntKind.i64 0))] [(0, (1, (AX.t 23))), (1, (1, (AX.t 25)))]) none 12 true false), (AOp.mk (some 27) (AK.bslice false 27 2 1 [(PV.val (Value.int IntKind.i64 0)), (PV.val (Value.int IntKind.i64 0))] [(0, (2, (AX.t 26)))]) none 13 false false), (AOp.mk (some 28) (AK.app false 27 2 16 [(PV.val (Value.int IntKind.i64 0)), (PV.val (Value.int IntKind.i64 0))] (AX.t 22) (AX.t 27)) none 14 false true), (AOp.mk (some 29) (AK.call 75 [(AX.t 14), (AX.t 28)]) none 15 false true), (AOp.mk (some 6) (AK.mv (AX.t 29)) none 16 true true)]) AC.ret)))
theorem ac100_ok : cCode Try.prog (fun _ => false) Try.f100.ntmps (Try.f100.body.getD .skip) = some ac100 := by kernel_rfl
def ac101 : AC := (AC.seq (AC.ops [(AOp.mk (some 4) (AK.mv (AX.c (PV.val (Value.int IntKind.i64 0)))) none 0 false true)]) (AC.seq (AC.seq (AC.ops [(AOp.mk (some 7) (AK.mv (AX.t 1)) none 0 false true), (AOp.mk (some 8) (AK.len (AX.t 7)) none 1 false true), (AOp.mk (some 9) (AK.mv (AX.c (PV.val (Value.int IntKind.i64 0)))) none 2 false true)]) (AC.block 0 (AC.loop (AC.seq (AC.ops [(AOp.mk (some 10) (AK.bin false BinOp.lss (AX.t 9) (AX.t 8)) none 0 false true)]) (AC.seq (AC.cond (AX.t 10) AC.skip (AC.exit 0)) (AC.seq (AC.block 1 (AC.seq (AC.ops [(AOp.mk (some 11) (AK.iadrS 1 (AX.t 7) (AX.t 9)) none 0 false true), (AOp.mk (some 12) (AK.ld none (AX.t 11)) none 1 false true), (AOp.mk (some 6) (AK.mv (AX.t 12)) none 2 false true)]) (AC.ops [(AOp.mk (some 13) (AK.mv (AX.t 0)) none 0 false true), (AOp.mk (some 14) (AK.mv (AX.t 6)) none 1 false true), (AOp.mk (some 15) (AK.mx true [(AX.t 13), (AX.t 14)]) none 2 false true), (AOp.mk (some 0) (AK.mv (AX.t 15)) none 3 false true)]))) (AC.ops [(AOp.mk (some 16) (AK.bin false BinOp.add (AX.t 9) (AX.c (PV.val (Value.int IntKind.i64 1)))) none 0 false true), (AOp.mk (some 9) (AK.mv (AX.t 16)) none 1 false true)]))))))) (AC.seq (AC.ops [(AOp.mk (some 17) (AK.mv (AX.t 0)) none 0 false true), (AOp.mk (some 4) (AK.mv (AX.t 17)) none 1 false true)]) AC.ret)))
theorem ac101_ok : cCode Try.prog (fun _ => false) Try.f101.ntmps (Try.f101.body.getD .skip) = some ac101 := by kernel_rfl
def ac77 : AC := (AC.seq (AC.ops [(AOp.mk (some 4) (AK.mv (AX.c (PV.val (Value.int IntKind.i64 0)))) none 0 false true)]) (AC.seq (AC.ops [(AOp.mk (some 5) (AK.mv (AX.c (PV.sl SK.full 0 []))) none 0 false true)]) (AC.seq (AC.seq (AC.ops [(AOp.mk (some 8) (AK.mv (AX.t 0)) none 0 false true), (AOp.mk (some 9) (AK.mv (AX.t 1)) none 1 false true), (AOp.mk (some 10) (AK.call 37 [(AX.t 8), (AX.t 9)]) none 2 false true), (AOp.mk (some 11) (AK.len (AX.t 10)) none 3 false true), (AOp.mk (some 12) (AK.mv (AX.c (PV.val (Value.int IntKind.i64 0)))) none 4 false true)]) (AC.block 0 (AC.loop (AC.seq (AC.ops [(AOp.mk (some 13) (AK.bin false BinOp.lss (AX.t 12) (AX.t 11)) none 0 false true)]) (AC.seq (AC.cond (AX.t 13) AC.skip (AC.exit 0)) (AC.seq (AC.block 1 (AC.seq (AC.ops [(AOp.mk (some 14) (AK.iadrS 1 (AX.t 10) (AX.t 12)) none 0 false true), (AOp.mk (some 15) (AK.ld none (AX.t 14)) none 1 false true), (AOp.mk (some 7) (AK.mv (AX.t 15)) none 2 false true)]) (AC.ops [(AOp.mk (some 16) (AK.mv (AX.t 5)) none 0 false true), (AOp.mk (some 17) (AK.mv (AX.t 0)) none 1 false true), (AOp.mk (some 18) (AK.mv (AX.t 1)) none 2 false true), (AOp.mk (some 19) (AK.mv (AX.t 7)) none 3 false true), (AOp.mk (some 20) (AK.call 100 [(AX.t 17), (AX.t 18), (AX.t 19)]) none 4 false true), (AOp.mk (some 21) (AK.call 35 [(AX.t 20)]) none 5 false true), (AOp.mk (some 22) (AK.len (AX.t 21)) none 6 false true), (AOp.mk (some 23) (AK.bslice false 3 1 1 [(PV.val (Value.int IntKind.i64 0))] [(0, (1, (AX.t 22)))]) none 7 false true), (AOp.mk (some 24) (AK.app false 3 1 8 [(PV.val (Value.int IntKind.i64 0))] (AX.t 16) (AX.t 23)) none 8 false true), (AOp.mk (some 5) (AK.mv (AX.t 24)) none 9 false true)]))) (AC.ops [(AOp.mk (some 25) (AK.bin false BinOp.add (AX.t 12) (AX.c (PV.val (Value.int IntKind.i64 1)))) none 0 false true), (AOp.mk (some 12) (AK.mv (AX.t 25)) none 1 false true)]))))))) (AC.seq (AC.ops [(AOp.mk (some 26) (AK.mv (AX.t 5)) none 0 false true), (AOp.mk (some 27) (AK.call 101 [(AX.c (PV.val (Value.int IntKind.i64 0))), (AX.t 26)]) none 1 false true), (AOp.mk (some 4) (AK.mv (AX.t 27)) none 2 false true)]) AC.ret))))
theorem ac77_ok : cCode Try.prog (fun _ => false) Try.f77.ntmps (Try.f77.body.getD .skip) = some ac77 := by kernel_rfl
def ac46 : AC := (AC.seq (AC.ops [(AOp.mk (some 6) (AK.mv (AX.c (PV.val (Value.bool false)))) none 0 false true)]) (AC.seq (AC.ops [(AOp.mk (some 7) (AK.mv (AX.t 0)) none 0 false true), (AOp.mk (some 8) (AK.mv (AX.t 1)) none 1 false true), (AOp.mk (some 9) (AK.call 77 [(AX.t 7), (AX.t 8)]) none 2 false true), (AOp.mk (some 10) (AK.mv (AX.t 0)) none 3 false true), (AOp.mk (some 11) (AK.mv (AX.t 2)) none 4 false true), (AOp.mk (some 12) (AK.call 77 [(AX.t 10), (AX.t 11)]) none 5 false true), (AOp.mk (some 13) (AK.bin false BinOp.lss (AX.t 9) (AX.t 12)) none 6 false true), (AOp.mk (some 6) (AK.mv (AX.t 13)) none 7 false true)]) AC.ret))
theorem ac46_ok : cCode Try.prog (fun _ => false) Try.f46.ntmps (Try.f46.body.getD .skip) = some ac46 := by kernel_rfl
def ac47 : AC := (AC.seq (AC.ops [(AOp.mk (some 1) (AK.box 2 (AX.t 0)) none 0 false true), (AOp.mk (some 2) (AK.mv (AX.c (PV.val (Value.int IntKind.i64 0)))) none 1 false true)]) (AC.seq (AC.ops [(AOp.mk (some 3) (AK.mv (AX.c (PV.val (Value.int IntKind.i64 0)))) none 0 false true)]) (AC.seq (AC.seq (AC.ops [(AOp.mk (some 5) (AK.fadr 0 (AX.t 1)) none 0 false true), (AOp.mk (some 6) (AK.ld none (AX.t 5)) none 1 false true), (AOp.mk (some 7) (AK.call 70 [(AX.t 6)]) none 2 false true), (AOp.mk (some 8) (AK.mv (AX.c (PV.val (Value.int IntKind.i64 0)))) none 3 false true)]) (AC.block 0 (AC.loop (AC.seq (AC.ops [(AOp.mk (some 9) (AK.bin false BinOp.lss (AX.t 8) (AX.t 7)) none 0 false true)]) (AC.seq (AC.cond (AX.t 9) AC.skip (AC.exit 0)) (AC.seq (AC.block 1 (AC.seq (AC.ops [(AOp.mk (some 10) (AK.mv (AX.t 8)) none 0 false true), (AOp.mk (some 4) (AK.mv (AX.t 10)) none 1 false true)]) (AC.seq (AC.ops [(AOp.mk (some 11) (AK.fadr 1 (AX.t 1)) none 0 false true), (AOp.mk (some 12) (AK.ld none (AX.t 11)) none 1 false true), (AOp.mk (some 13) (AK.mv (AX.t 4)) none 2 false true), (AOp.mk (some 14) (AK.mv (AX.t 3)) none 3 false true), (AOp.mk (some 15) (AK.callv (AX.t 12) [(AX.t 13), (AX.t 14)]) none 4 false true)]) (AC.cond (AX.t 15) (AC.ops [(AOp.mk (some 16) (AK.mv (AX.t 4)) none 0 false true), (AOp.mk (some 3) (AK.mv (AX.t 16)) none 1 false true)]) AC.skip)))) (AC.ops [(AOp.mk (some 17) (AK.bin false BinOp.add (AX.t 8) (AX.c (PV.val (Value.int IntKind.i64 1)))) none 0 false true), (AOp.mk (some 8) (AK.mv (AX.t 17)) none 1 false true)]))))))) (AC.seq (AC.ops [(AOp.mk (some 18) (AK.mv (AX.t 3)) none 0 false true), (AOp.mk (some 2) (AK.mv (AX.t 18)) none 1 false true)]) AC.ret))))
theorem ac47_ok : cCode Try.prog (fun _ => false) Try.f47.ntmps (Try.f47.body.getD .skip) = some ac47 := by kernel_rfl
def needsP (o : Option Nat) : PV := match o with | some z => .tup [pi (z : Nat), pb true] | none => .tup [pi 0, pb false]
def bothB (b : MBook) (o u : Nat) : Bool := (truthsL (unseenB b) o).any fun c1 => (truthsL (unseenB b) u).any fun c2 => !lackB fun q => valA (unseenB b) o c1 q &&& valA (unseenB b) u c2 q
theorem okC.bare {b : MBook} (ho : okC b) : okC (unseenB b) := ho.unseen [] fun _ h => by cases h
theorem withNil_sem (k k2 : SK) {b : MBook} (m : PV) (ho : okC b) : Sem1 75 [bookX k k2 b m, .sl .full 0 []] (bookP k .sh (unseenB b)) := by
  refine semC_of_exec' mixed Try.func75 (by kernel_rfl) (by kernel_rfl) ac75_ok 2 rfl (by decide) [(.tmp 4)] (by kernel_rfl) ?_
  intro hr C hC hI
  unfold ac75
  simp only [go_sem, Nat.reduceBEq, Nat.reduceAdd, Nat.reduceLeDiff, putCells]
  refine call_pure2 hC (bookOf_sem k .sh (b := unseenB b) ho.bare (by simp [unseenB])) rfl ⟨PVle.agg (show PVleL [_, _, _, _] [_, _, _, _] from ⟨PVle.refl _, PVle.nil _ _ _, PVle.refl _, PVle.refl _, trivial⟩), trivial⟩ ?_
  rintro r rfl
  simp only [go_sem, Nat.reduceBEq]
  exact retQ_one rfl rfl
theorem areTold_sem (k k2 : SK) {b : MBook} (ho : okC b) {o u : Nat} (hoo : o < b.makers.length) (hu : u < b.makers.length) : Sem1 45 [bookP k k2 b, pi o, pi u] (pb (!bothB b o u)) := by
  have hob := ho.bare
  obtain ⟨x, hx⟩ : ∃ x, unseenB b = x := ⟨_, rfl⟩
  have hox : o < x.makers.length := by rw [← hx]; exact hoo
  have hux : u < x.makers.length := by rw [← hx]; exact hu
  have hws := withNil_sem k k2 (b := b) (.mpf (ownE b)) ho
  have hbb : bothB b o u = (truthsL x o).any fun c1 => (truthsL x u).any fun c2 => !lackB fun q => valA x o c1 q &&& valA x u c2 q := by rw [← hx]; rfl
  rw [hx] at hob hws
  rw [hbb]
  clear hbb
  refine semC_of_exec' mixed Try.func45 (by kernel_rfl) (by kernel_rfl) ac45_ok 3 rfl (by decide) [(.cell 6 4)] (by kernel_rfl) ?_
  intro hr C hC hI
  unfold ac45
  simp only [go_sem, Nat.reduceBEq, Nat.reduceAdd]
  refine call_pure2 hC (hws) rfl (PVleL_refl _) ?_
  rintro r rfl
  simp only [go_sem, Nat.reduceBEq, Nat.reduceAdd, putCells]
  refine call_pure2 hC (truths_clo k .sh x _ [o] .full) rfl (PVleL_refl _) ?_
  rintro r rfl
  simp only [go_sem]
  refine rng_m (ι := Unit) (trL x [o]) (encTr x) [5, 6, 7] (fun _ _ => [.cells [.p (pi u)], .cells [.p (pb false)], .cells [.p (bookP k .sh x)]]) (fun _ _ => []) (fun _ => some []) (fun i _ => ∀ c1 ∈ (truthsL x o).take i, ((truthsL x u).any fun c2 => !lackB fun q => valA x o c1 q &&& valA x u c2 q) = false) () rfl rfl (hI _ _ _ (truths_it k .sh hob .full [o] (one_lt hox) (by simp))) ?_ (fun _ => rfl) (by simp [Wk, wkT, wkL, look, AV.lo, AV.lo.loL, keepS]) (by simp) ?_ ?_
  · simp only [show noY.noYR ((trL x [o]).map (encTr x)) = true from noY_trs x _, noY.noYL, noY, noY_pis2, noY_rowsC, noY_seenC, noY_ownE, Bool.and_true]
  · rintro i - hi hok
    obtain ⟨hl, e⟩ := tr_get hi
    rw [e]
    simp only [go_sem, Nat.reduceBEq, Nat.reduceAdd, encTr, truthC, putCells]
    refine call_pure2 hC (truths_clo k .sh x _ [u] .full) rfl (PVleL_refl _) ?_
    rintro r rfl
    simp only [go_sem]
    obtain ⟨c1, ec⟩ : ∃ c1, (truthsL x o)[i] = c1 := ⟨_, rfl⟩
    rw [ec]
    refine rng_m (ι := Unit) (trL x [u]) (encTr x) [5, 6, 7, 8] (fun _ _ => [.cells [.p (pi u)], .cells [.p (pb false)], .cells [.p (bookP k .sh x)], .cells ((truthC x o c1).map .p)]) (fun _ _ => []) (fun _ => some []) (fun j _ => ∀ c2 ∈ (truthsL x u).take j, (!lackB fun q => valA x o c1 q &&& valA x u c2 q) = false) () rfl rfl (hI _ _ _ (truths_it k .sh hob .full [u] (one_lt hux) (by simp))) ?_ (fun _ => rfl) (by simp [truthC, Wk, wkT, wkL, look, AV.lo, AV.lo.loL, keepS]) (by simp) ?_ ?_
    · simp only [show noY.noYR ((trL x [u]).map (encTr x)) = true from noY_trs x _, noY.noYL, noY, noY_pis2, noY_rowsC, noY_seenC, noY_ownE, Bool.and_true]
    · rintro j - hj hok2
      obtain ⟨hl2, e2⟩ := tr_get hj
      obtain ⟨c2, ec2⟩ : ∃ c2, (truthsL x u)[j] = c2 := ⟨_, rfl⟩
      rw [e2, ec2]
      simp only [go_sem, Nat.reduceBEq, Nat.reduceAdd, encTr, truthC, putCells, List.map_cons, List.map_nil]
      refine call_pure2 hC (common_sem (valA x o c1) (valA x u c2) (valA_le x o c1) (valA_le x u c2)) rfl (PVleL_refl _) ?_
      rintro r rfl
      simp only [go_sem, Nat.reduceBEq]
      refine call_pure2 hC (lacksSome_sem fun q => valA x o c1 q &&& valA x u c2 q) rfl (PVleL_refl _) ?_
      rintro r rfl
      simp only [go_sem, Nat.reduceBEq]
      cases hb : lackB fun q => valA x o c1 q &&& valA x u c2 q
      · have : ((truthsL x o).any fun c1 => (truthsL x u).any fun c2 => !lackB fun q => valA x o c1 q &&& valA x u c2 q) = true := List.any_eq_true.2 ⟨c1, ec ▸ List.getElem_mem hl, List.any_eq_true.2 ⟨c2, ec2 ▸ List.getElem_mem hl2, by rw [hb]; rfl⟩⟩
        rw [this]
        simp only [go_sem, Nat.reduceBEq, putCells]
        exact retQ_cell (n := none) (by kernel_rfl) rfl rfl
      · simp only [go_sem, Nat.reduceBEq]
        refine ⟨(), take_allG hl2 hok2 (by rw [ec2, hb]; rfl), ?_⟩
        simp [Wk, wkT, wkL, look, AV.lo, AV.lo.loL, ABlk.toZ]
    · rintro - hok2
      simp only [go_sem, Nat.reduceBEq]
      refine ⟨(), take_allG hl hok ?_, ?_⟩
      · rw [ec, List.any_eq_false]
        intro c2 hc
        have := hok2 c2 (by rw [trL_one, List.length_map, List.take_length]; exact hc)
        rw [this]
        decide
      · simp [Wk, wkT, wkL, look, AV.lo, AV.lo.loL, ABlk.toZ]
  · rintro - hok
    have : ((truthsL x o).any fun c1 => (truthsL x u).any fun c2 => !lackB fun q => valA x o c1 q &&& valA x u c2 q) = false := by
      rw [List.any_eq_false]
      intro c hc
      have := hok c (by rw [trL_one, List.length_map, List.take_length]; exact hc)
      rw [this]
      decide
    rw [this]
    simp only [go_sem, Nat.reduceBEq, putCells]
    exact retQ_cell (n := none) (by kernel_rfl) rfl rfl
theorem okC.know {b : MBook} (ho : okC b) {q v : Nat} (hq : q < nK b) (hv : v < 5) : okC (knowB b q v) := by
  obtain ⟨h1, h2, h3, h4, h5⟩ := ho
  refine ⟨h1, h2, h3, fun m hm => ?_, h5⟩
  rcases List.mem_append.1 hm with h | h
  · exact h4 m h
  · rw [List.mem_singleton] at h
    subst h
    have : v = 0 ∨ v = 1 ∨ v = 2 ∨ v = 3 ∨ v = 4 := by omega
    refine ⟨⟨by simp, by show (q : Int) < (nK b : Int); omega⟩, ?_⟩
    rcases this with rfl | rfl | rfl | rfl | rfl <;> (simp only; decide)
theorem knowing_sem (k k2 : SK) {b : MBook} (ho : okC b) {q v : Nat} (hq : q < nK b) (hv : v < 5) (hl : b.seen.length ≤ 999) : Sem1 100 [bookP k k2 b, pi q, pi v] (bookP k .sh (knowB b q v)) := by
  have hsl : slcS 2 (.p (.sl k2 2 (seenC b.seen))) (some none) (some (some (b.seen.length : Int))) (some (some (b.seen.length : Int))) = some (.p (.sl .full 2 (seenC b.seen))) := by
    have := slcS_all (sz := 2) (sz' := 2) (k := k2) (es := seenC b.seen) (.inl rfl)
    rwa [List.length_map] at this
  have hw : IntKind.i64.wrap (1 * 2 ^ min ((v : Int)).toNat 64) = ((2 ^ v : Nat) : Int) := shl6 (by omega)
  have hp : ((2 ^ v : Nat) : Int) = (2 : Int) ^ v := by norm_cast
  have hws := withSeen_sem k k2 b (.mpf (ownE b)) .sh (b.seen ++ [((q : Int), 2 ^ v)]) (by rw [List.length_append, List.length_singleton]; omega) (ho.know hq hv)
  refine semC_of_exec' mixed Try.func100 (by kernel_rfl) (by kernel_rfl) ac100_ok 3 rfl (by decide) [(.tmp 6)] (by kernel_rfl) ?_
  intro hr C hC hI
  unfold ac100
  simp only [go_sem, Nat.reduceBEq, Nat.reduceAdd, Nat.reduceLeDiff, List.length_map, hsl, bin_shl (show ¬ (v : Int) < 0 by omega), hw, hp]
  refine ⟨by omega, fun tk _ => ?_⟩
  refine call_pure2 hC (hws) rfl ⟨PVle.refl _, ?_, trivial⟩ ?_
  · have e : seenC (b.seen ++ [((q : Int), (2 : Int) ^ v)]) = seenC b.seen ++ [[pi q, pi ((2 : Int) ^ v)]] := by simp [seenC]
    rw [e]
    exact PVle.sh _ _ _
  rintro r rfl
  simp only [go_sem, Nat.reduceBEq]
  exact retQ_one rfl rfl
theorem maxI_nat (a b : Nat) : maxI true (a : Int) (b : Int) = ((max a b : Nat) : Int) := by
  unfold maxI
  simp only [if_true]
  split <;> omega
theorem greatest_sem (kk : SK) (sz : Nat) (l : List Nat) (hsz : sz = 1 ∨ l = []) (hl : l.length ≤ 1000) : Sem1 101 [pi 0, .sl kk sz ((natL l).map fun x => [pi x])] (pi (l.foldl max 0 : Nat)) := by
  refine semC_of_exec' mixed Try.func101 (by kernel_rfl) (by kernel_rfl) ac101_ok 2 rfl (by decide) [(.tmp 4)] (by kernel_rfl) ?_
  intro hr C hC hI
  unfold ac101
  simp only [go_sem, Nat.reduceBEq, List.length_map, natL_len]
  refine loop_k l.length (fun _ => True) [7, 8] (fun j => [(0, .p (pi ((l.take j).foldl max 0 : Nat))), (9, .p (pi j))]) trivial rfl ⟨rfl, by simp, by simp⟩ (by simp [wkT, look, AV.lo]) ?_
  rintro j ⟨hj, -⟩
  simp only [go_sem, Nat.reduceBEq]
  refine ⟨fun h5 => ?_, fun h5 => ?_⟩
  · have hj2 : j < l.length := by omega
    obtain rfl : sz = 1 := by
      rcases hsz with h | h
      · exact h
      · rw [h] at hj2
        simp at hj2
    have hil : j < (natL l).length := by rw [natL_len]; exact hj2
    have hiad := iadr_map (f := fun x : Int => [pi x]) (kd := kk) (sz := 1) hil
    have hiv : (natL l)[j] = ((l[j] : Nat) : Int) := by simp [natL]
    rw [hiv] at hiad
    have hn : (l.take (j + 1)).foldl max 0 = max ((l.take j).foldl max 0) l[j] := by
      rw [List.take_succ_eq_append_getElem hj2, List.foldl_append]
      rfl
    simp only [go_sem, Nat.reduceBEq, hiad, maxI_nat, wrap_succ (k := j) (by omega)]
    refine ⟨⟨j + 1, hj2, trivial⟩, by simp only; omega, ?_⟩
    simp only [hn]
    exact by simp [Wk, wkT, wkL, look, AV.lo]
  · have hjn : j = l.length := by omega
    subst hjn
    rw [List.take_length]
    exact retQ_one rfl rfl
def cntL (b : MBook) (q : Nat) (l : List Nat) : List Nat := l.map fun v => (whoL (knowB b q v)).length
theorem worst_fold (b : MBook) (q : Nat) : (cntL b q (valuesL b q)).foldl max 0 = worstN b q := by
  unfold cntL worstN
  rw [List.foldl_map]
theorem values_five {b : MBook} {q v : Nat} (h : v ∈ valuesL b q) : v < 5 := List.mem_range.1 (List.mem_filter.1 h).1
theorem values_len (b : MBook) (q : Nat) : (valuesL b q).length ≤ 5 := by
  unfold valuesL
  exact Nat.le_trans (List.length_filter_le ..) (by simp)
theorem atWorst_sem (k k2 : SK) {b : MBook} (ho : okC b) {q : Nat} (hq : q < nK b) (hl : b.seen.length ≤ 999) : Sem1 77 [bookP k k2 b, pi q] (pi (worstN b q : Nat)) := by
  have hvl := values_len b q
  rw [← worst_fold]
  refine semC_of_exec' mixed Try.func77 (by kernel_rfl) (by kernel_rfl) ac77_ok 2 rfl (by decide) [(.tmp 4)] (by kernel_rfl) ?_
  intro hr C hC hI
  unfold ac77
  simp only [go_sem, Nat.reduceBEq]
  refine call_pure2 hC (values_sem k k2 ho hq) rfl (PVleL_refl _) ?_
  rintro r rfl
  simp only [go_sem, Nat.reduceBEq, List.length_map, natL_len]
  refine loop_g (α := Nat × Option Nat) (fun a => a.1 ≤ (valuesL b q).length ∧ (a.2 = none → ((natL (cntL b q ((valuesL b q).take a.1))).map fun x => [pi x]) = [])) (fun a => (valuesL b q).length - a.1) [0, 1, 10, 11] (fun a => [(5, .p (slZ 3 1 a.2 ((natL (cntL b q ((valuesL b q).take a.1))).map fun x => [pi x]))), (12, .p (pi a.1))]) (fun _ => []) (fun a => a.2.toList) (0, none) ⟨by omega, fun _ => by simp [cntL, natL]⟩ (by simp [Wk, wkT, wkL, look, AV.lo, upS_eq, keepS_nil, keepS_cons, slZ]) ?_
  rintro ⟨j, o⟩ ⟨hj, h0⟩
  replace hj : j ≤ (valuesL b q).length := hj
  replace h0 : o = none → ((natL (cntL b q ((valuesL b q).take j))).map fun x => [pi x]) = [] := h0
  simp only [go_sem, Nat.reduceBEq]
  refine ⟨fun h5 => ?_, fun h5 => ?_⟩
  · have hj2 : j < (valuesL b q).length := by omega
    obtain ⟨v, ev⟩ : ∃ v, (valuesL b q)[j] = v := ⟨_, rfl⟩
    have hv5 : v < 5 := ev ▸ values_five (List.getElem_mem hj2)
    have hil : j < (natL (valuesL b q)).length := by rw [natL_len]; exact hj2
    have hiad := iadr_map (f := fun x : Int => [pi x]) (kd := .full) (sz := 1) hil
    have hiv : (natL (valuesL b q))[j] = (v : Int) := by simp [natL, ev]
    rw [hiv] at hiad
    have hnx : ((natL (cntL b q ((valuesL b q).take (j + 1)))).map fun x => [pi x]) = ((natL (cntL b q ((valuesL b q).take j))).map fun x => [pi x]) ++ [[pi ((whoL (knowB b q v)).length : Nat)]] := by
      rw [List.take_succ_eq_append_getElem hj2, ev]
      simp [cntL, natL]
    have hlen : ((natL (cntL b q ((valuesL b q).take j))).map fun x => [pi x]).length ≤ 999999 := by
      rw [List.length_map, natL_len]
      unfold cntL
      rw [List.length_map, List.length_take]
      omega
    simp only [go_sem, Nat.reduceBEq, hiad]
    refine call_pure2 hC (knowing_sem k k2 ho hq hv5 hl) rfl (PVleL_refl _) ?_
    rintro r rfl
    simp only [go_sem, Nat.reduceBEq]
    refine call_pure2 hC (possible_sem k .sh (ho.know hq hv5)) rfl (PVleL_refl _) ?_
    rintro r rfl
    simp only [go_sem, Nat.reduceBEq, List.length_map, natL_len]
    refine app_slZ h0 hlen (by simp) fun tk htk => ?_
    simp only [go_sem, Nat.reduceBEq, wrap_succ (k := j) (by omega)]
    refine ⟨⟨(j + 1, some tk), hj2, (fun h => by cases h)⟩, by simp only; omega, ?_⟩
    simp only [hnx]
    refine ⟨by simp [wkT, look, AV.lo], trivial, by simp, by simp, rfl, rfl, by simp⟩
  · have hjn : j = (valuesL b q).length := by omega
    subst hjn
    rw [List.take_length] at h0 ⊢
    have hcl : (cntL b q (valuesL b q)).length ≤ 1000 := by unfold cntL; rw [List.length_map]; omega
    cases o with
    | none =>
      have hn : cntL b q (valuesL b q) = [] := by
        have := h0 rfl
        rw [List.map_eq_nil_iff] at this
        unfold natL at this
        rwa [List.map_eq_nil_iff] at this
      rw [hn]
      refine call_pure2 hC (greatest_sem .full 0 [] (.inr rfl) (by simp)) rfl (PVleL_refl _) ?_
      rintro r rfl
      simp only [go_sem, Nat.reduceBEq]
      exact retQ_one rfl rfl
    | some t =>
      refine call_pure2 hC (greatest_sem (.own t 3 1) 1 (cntL b q (valuesL b q)) (.inl rfl) hcl) rfl (PVleL_refl _) ?_
      rintro r rfl
      simp only [go_sem, Nat.reduceBEq]
      exact retQ_one rfl rfl
theorem leaves_sem (k k2 : SK) {b : MBook} (ho : okC b) {q p : Nat} (hq : q < nK b) (hp : p < nK b) (hl : b.seen.length ≤ 999) : Sem1 46 [bookP k k2 b, pi q, pi p] (pb (decide (worstN b q < worstN b p))) := by
  refine semC_of_exec' mixed Try.func46 (by kernel_rfl) (by kernel_rfl) ac46_ok 3 rfl (by decide) [(.tmp 6)] (by kernel_rfl) ?_
  intro hr C hC hI
  unfold ac46
  simp only [go_sem, Nat.reduceBEq, Nat.reduceAdd]
  refine call_pure2 hC (atWorst_sem k k2 ho hq hl) rfl (PVleL_refl _) ?_
  rintro r rfl
  simp only [go_sem, Nat.reduceBEq]
  refine call_pure2 hC (atWorst_sem k k2 ho hp hl) rfl (PVleL_refl _) ?_
  rintro r rfl
  simp only [go_sem, Nat.reduceBEq]
  exact retQ_one rfl (congrArg pb (decide_eq_decide.2 (by omega)))
def bestK (b : MBook) (j : Nat) : Nat := (List.range j).foldl (fun best k => if worstN b k < worstN b best then k else best) 0
theorem bestK_next (b : MBook) (j : Nat) : bestK b (j + 1) = if worstN b j < worstN b (bestK b j) then j else bestK b j := by
  unfold bestK
  rw [List.range_succ, List.foldl_append]
  rfl
theorem bestK_lt {b : MBook} (h : 1 ≤ nK b) : ∀ j, j ≤ nK b → bestK b j < nK b
  | 0, _ => h
  | j + 1, hj => by
    rw [bestK_next]
    split
    · omega
    · exact bestK_lt h j (by omega)
theorem first_sem (k k2 : SK) {b : MBook} (ho : okC b) (hl : b.seen.length ≤ 999) : Sem1 47 [.agg [bookP k k2 b, .clo 46 [bookP k k2 b] []]] (pi (lookN b : Nat)) := by
  have h2 := ho.2.1
  refine semC_of_exec' mixed Try.func47 (by kernel_rfl) (by kernel_rfl) ac47_ok 1 rfl (by decide) [(.tmp 2)] (by kernel_rfl) ?_
  intro hr C hC hI
  unfold ac47
  simp only [go_sem, Nat.reduceBEq, Nat.reduceAdd]
  refine call_pure2 hC (kinds_sem k k2 b _) rfl (PVleL_refl _) ?_
  rintro r rfl
  simp only [go_sem]
  refine loop_k (nK b) (fun _ => True) [1, 7] (fun j => [(3, .p (pi (bestK b j : Nat))), (8, .p (pi j))]) trivial rfl ⟨rfl, by simp, by simp⟩ (by simp [bestK, wkT, look, AV.lo]) ?_
  rintro j ⟨hj, -⟩
  simp only [go_sem, Nat.reduceBEq]
  refine ⟨fun h5 => ?_, fun h5 => ?_⟩
  · have hj2 : j < nK b := by omega
    have hn := bestK_next b j
    refine call_pure2 hC (leaves_sem k k2 ho hj2 (bestK_lt h2.1 j (by omega)) hl) rfl (PVleL_refl _) ?_
    rintro r rfl
    by_cases hlt : worstN b j < worstN b (bestK b j)
    · rw [if_pos hlt] at hn
      simp only [go_sem, Nat.reduceBEq, eq_true hlt, wrap_succ (k := j) (by omega), decide_true]
      refine ⟨⟨j + 1, hj2, trivial⟩, by simp only; omega, ?_⟩
      simp only [hn]
      exact by simp [Wk, wkT, wkL, look, AV.lo, AV.lo.loL, ABlk.toZ]
    · rw [if_neg hlt] at hn
      simp only [go_sem, Nat.reduceBEq, eq_false hlt, wrap_succ (k := j) (by omega), decide_false]
      refine ⟨⟨j + 1, hj2, trivial⟩, by simp only; omega, ?_⟩
      simp only [hn]
      exact by simp [Wk, wkT, wkL, look, AV.lo, AV.lo.loL, ABlk.toZ]
  · have hjn : j = nK b := by omega
    subst hjn
    exact retQ_one rfl rfl
end Go.Proofs.Ytlbolnlcncjijaa.Mk
namespace Go.Proofs.Ytlbolnlcncjijaa.Mk
open Go.RowKit Ls
def ac39 : AC := (AC.seq (AC.ops [(AOp.mk (some 2) (AK.box 4 (AX.t 0)) none 0 false true), (AOp.mk (some 4) (AK.mv (AX.c PV.nilp)) none 1 false true), (AOp.mk (some 5) (AK.mv (AX.c (PV.val (Value.int IntKind.i64 0)))) none 2 false true)]) (AC.seq (AC.seq (AC.ops [(AOp.mk (some 7) (AK.ld (some 4) (AX.t 2)) none 0 false true), (AOp.mk (some 8) (AK.call 12 [(AX.t 7)]) none 1 false true), (AOp.mk (some 6) (AK.mv (AX.t 8)) none 2 false true)]) (AC.seq (AC.ops [(AOp.mk (some 9) (AK.mv (AX.t 6)) none 0 false true), (AOp.mk (some 10) (AK.bin false BinOp.neq (AX.t 9) (AX.c (PV.val (Value.int IntKind.i64 0)))) none 1 false true)]) (AC.cond (AX.t 10) (AC.seq (AC.ops [(AOp.mk (some 11) (AK.mv (AX.t 6)) none 0 false true), (AOp.mk (some 4) (AK.mv (AX.c PV.nilp)) none 1 false true), (AOp.mk (some 5) (AK.mv (AX.t 11)) none 2 false true)]) AC.ret) AC.skip))) (AC.seq (AC.seq (AC.ops [(AOp.mk (some 12) (AK.mv (AX.t 1)) none 0 false true), (AOp.mk (some 13) (AK.un UnOp.not (AX.t 12)) none 1 false true)]) (AC.cond (AX.t 13) (AC.seq (AC.ops [(AOp.mk (some 4) (AK.mv (AX.c PV.nilp)) none 0 false true), (AOp.mk (some 5) (AK.mv (AX.c (PV.val (Value.int IntKind.i64 51)))) none 1 false true)]) AC.ret) AC.skip)) (AC.seq (AC.ops [(AOp.mk (some 14) (AK.ld (some 4) (AX.t 2)) none 0 false true), (AOp.mk (some 15) (AK.call 68 [(AX.t 14)]) none 1 false true), (AOp.mk (some 4) (AK.mv (AX.t 15)) none 2 false true), (AOp.mk (some 5) (AK.mv (AX.c (PV.val (Value.int IntKind.i64 0)))) none 3 false true)]) AC.ret))))
theorem ac39_ok : cCode Try.prog (fun _ => false) Try.f39.ntmps (Try.f39.body.getD .skip) = some ac39 := by kernel_rfl
def ac34 : AC := (AC.seq (AC.ops [(AOp.mk (some 2) (AK.box 4 (AX.t 0)) none 0 false true), (AOp.mk (some 4) (AK.mv (AX.c PV.nilp)) none 1 false true), (AOp.mk (some 5) (AK.mv (AX.c (PV.val (Value.int IntKind.i64 0)))) none 2 false true)]) (AC.seq (AC.ops [(AOp.mk (some 9) (AK.ld (some 4) (AX.t 2)) none 0 false true), (AOp.mk (some 10) (AK.mv (AX.t 1)) none 1 false true), (AOp.mk (some 11) (AK.call 39 [(AX.t 9), (AX.t 10)]) none 2 false true), (AOp.mk (some 8) (AK.mv (AX.t 11)) none 3 false true), (AOp.mk (some 12) (AK.ext (AX.t 8) 0) none 4 false true), (AOp.mk (some 13) (AK.ext (AX.t 8) 1) none 5 false true), (AOp.mk (some 6) (AK.mv (AX.t 12)) none 6 false true), (AOp.mk (some 7) (AK.mv (AX.t 13)) none 7 false true)]) (AC.seq (AC.seq (AC.ops [(AOp.mk (some 14) (AK.mv (AX.t 7)) none 0 false true), (AOp.mk (some 15) (AK.bin false BinOp.neq (AX.t 14) (AX.c (PV.val (Value.int IntKind.i64 0)))) none 1 false true)]) (AC.cond (AX.t 15) (AC.seq (AC.ops [(AOp.mk (some 16) (AK.mv (AX.t 7)) none 0 false true), (AOp.mk (some 4) (AK.mv (AX.c PV.nilp)) none 1 false true), (AOp.mk (some 5) (AK.mv (AX.t 16)) none 2 false true)]) AC.ret) AC.skip)) (AC.seq (AC.seq (AC.ops [(AOp.mk (some 17) (AK.mv (AX.t 6)) none 0 false true), (AOp.mk (some 18) (AK.nilc (AX.t 17)) none 1 false true), (AOp.mk (some 19) (AK.fadr 4 (AX.t 18)) none 2 false true), (AOp.mk (some 20) (AK.ld (some 6) (AX.t 19)) none 3 false true), (AOp.mk (some 21) (AK.call 40 [(AX.t 20)]) none 4 false true)]) (AC.cond (AX.t 21) (AC.seq (AC.ops [(AOp.mk (some 4) (AK.mv (AX.c PV.nilp)) none 0 false true), (AOp.mk (some 5) (AK.mv (AX.c (PV.val (Value.int IntKind.i64 52)))) none 1 false true)]) AC.ret) AC.skip)) (AC.seq (AC.ops [(AOp.mk (some 22) (AK.mv (AX.t 6)) none 0 false true), (AOp.mk (some 4) (AK.mv (AX.t 22)) none 1 false true), (AOp.mk (some 5) (AK.mv (AX.c (PV.val (Value.int IntKind.i64 0)))) none 2 false true)]) AC.ret)))))
theorem ac34_ok : cCode Try.prog (fun _ => false) Try.f34.ntmps (Try.f34.body.getD .skip) = some ac34 := by kernel_rfl
def ac16 : AC := (AC.seq (AC.ops [(AOp.mk (some 1) (AK.box 4 (AX.t 0)) none 0 false true), (AOp.mk (some 2) (AK.mv (AX.c (PV.val (Value.bool false)))) none 1 false true), (AOp.mk (some 3) (AK.mv (AX.c (PV.val (Value.int IntKind.i64 0)))) none 2 false true)]) (AC.seq (AC.ops [(AOp.mk (some 7) (AK.ld (some 4) (AX.t 1)) none 0 false true), (AOp.mk (some 8) (AK.call 39 [(AX.t 7), (AX.c (PV.val (Value.bool true)))]) none 1 false true), (AOp.mk (some 6) (AK.mv (AX.t 8)) none 2 false true), (AOp.mk (some 9) (AK.ext (AX.t 6) 0) none 3 false true), (AOp.mk (some 10) (AK.ext (AX.t 6) 1) none 4 false true), (AOp.mk (some 4) (AK.mv (AX.t 9)) none 5 false true), (AOp.mk (some 5) (AK.mv (AX.t 10)) none 6 false true)]) (AC.seq (AC.seq (AC.ops [(AOp.mk (some 11) (AK.mv (AX.t 5)) none 0 false true), (AOp.mk (some 12) (AK.bin false BinOp.neq (AX.t 11) (AX.c (PV.val (Value.int IntKind.i64 0)))) none 1 false true)]) (AC.cond (AX.t 12) (AC.seq (AC.ops [(AOp.mk (some 13) (AK.mv (AX.t 5)) none 0 false true), (AOp.mk (some 2) (AK.mv (AX.c (PV.val (Value.bool false)))) none 1 false true), (AOp.mk (some 3) (AK.mv (AX.t 13)) none 2 false true)]) AC.ret) AC.skip)) (AC.seq (AC.ops [(AOp.mk (some 14) (AK.mv (AX.t 4)) none 0 false true), (AOp.mk (some 15) (AK.nilc (AX.t 14)) none 1 false true), (AOp.mk (some 16) (AK.fadr 4 (AX.t 15)) none 2 false true), (AOp.mk (some 17) (AK.ld (some 6) (AX.t 16)) none 3 false true), (AOp.mk (some 18) (AK.call 40 [(AX.t 17)]) none 4 false true), (AOp.mk (some 19) (AK.un UnOp.not (AX.t 18)) none 5 false true), (AOp.mk (some 2) (AK.mv (AX.t 19)) none 6 false true), (AOp.mk (some 3) (AK.mv (AX.c (PV.val (Value.int IntKind.i64 0)))) none 7 false true)]) AC.ret))))
def ac10 : AC := (AC.seq (AC.ops [(AOp.mk (some 1) (AK.box 4 (AX.t 0)) none 0 false true), (AOp.mk (some 2) (AK.mv (AX.c (PV.sl SK.full 0 []))) none 1 false true), (AOp.mk (some 3) (AK.mv (AX.c (PV.val (Value.int IntKind.i64 0)))) none 2 false true)]) (AC.seq (AC.ops [(AOp.mk (some 7) (AK.ld (some 4) (AX.t 1)) none 0 false true), (AOp.mk (some 8) (AK.call 34 [(AX.t 7), (AX.c (PV.val (Value.bool true)))]) none 1 false true), (AOp.mk (some 6) (AK.mv (AX.t 8)) none 2 false true), (AOp.mk (some 9) (AK.ext (AX.t 6) 0) none 3 false true), (AOp.mk (some 10) (AK.ext (AX.t 6) 1) none 4 false true), (AOp.mk (some 4) (AK.mv (AX.t 9)) none 5 false true), (AOp.mk (some 5) (AK.mv (AX.t 10)) none 6 false true)]) (AC.seq (AC.seq (AC.ops [(AOp.mk (some 11) (AK.mv (AX.t 5)) none 0 false true), (AOp.mk (some 12) (AK.bin false BinOp.neq (AX.t 11) (AX.c (PV.val (Value.int IntKind.i64 0)))) none 1 false true)]) (AC.cond (AX.t 12) (AC.seq (AC.ops [(AOp.mk (some 13) (AK.mv (AX.t 5)) none 0 false true), (AOp.mk (some 2) (AK.mv (AX.c (PV.sl SK.full 0 []))) none 1 false true), (AOp.mk (some 3) (AK.mv (AX.t 13)) none 2 false true)]) AC.ret) AC.skip)) (AC.seq (AC.ops [(AOp.mk (some 14) (AK.mv (AX.t 4)) none 0 false true), (AOp.mk (some 15) (AK.call 35 [(AX.t 14)]) none 1 false true), (AOp.mk (some 2) (AK.mv (AX.t 15)) none 2 false true), (AOp.mk (some 3) (AK.mv (AX.c (PV.val (Value.int IntKind.i64 0)))) none 3 false true)]) AC.ret))))
theorem ac10_ok : cCode Try.prog (fun _ => false) Try.f10.ntmps (Try.f10.body.getD .skip) = some ac10 := by kernel_rfl
def ac17 : AC := (AC.seq (AC.ops [(AOp.mk (some 2) (AK.box 4 (AX.t 0)) none 0 false true), (AOp.mk (some 4) (AK.mv (AX.c (PV.val (Value.int IntKind.i64 0)))) none 1 false true), (AOp.mk (some 5) (AK.mv (AX.c (PV.val (Value.int IntKind.i64 0)))) none 2 false true)]) (AC.seq (AC.ops [(AOp.mk (some 11) (AK.ld (some 4) (AX.t 2)) none 0 true false), (AOp.mk (some 12) (AK.ld (some 4) (AX.t 2)) none 1 true false), (AOp.mk (some 13) (AK.mv (AX.t 1)) none 2 true false), (AOp.mk (some 14) (AK.call 41 [(AX.t 12), (AX.t 13)]) none 3 false false), (AOp.mk (some 15) (AK.call 34 [(AX.t 11), (AX.t 14)]) none 4 false true), (AOp.mk (some 10) (AK.mv (AX.t 15)) none 5 true true), (AOp.mk (some 16) (AK.ext (AX.t 10) 0) none 6 true false), (AOp.mk (some 17) (AK.ext (AX.t 10) 1) none 7 true false), (AOp.mk (some 6) (AK.mv (AX.t 16)) none 8 true false), (AOp.mk (some 7) (AK.mv (AX.t 17)) none 9 true true)]) (AC.seq (AC.seq (AC.ops [(AOp.mk (some 18) (AK.mv (AX.t 7)) none 0 false true), (AOp.mk (some 19) (AK.bin false BinOp.neq (AX.t 18) (AX.c (PV.val (Value.int IntKind.i64 0)))) none 1 false true)]) (AC.cond (AX.t 19) (AC.seq (AC.ops [(AOp.mk (some 20) (AK.mv (AX.t 7)) none 0 false true), (AOp.mk (some 4) (AK.mv (AX.c (PV.val (Value.int IntKind.i64 0)))) none 1 false true), (AOp.mk (some 5) (AK.mv (AX.t 20)) none 2 false true)]) AC.ret) AC.skip)) (AC.seq (AC.ops [(AOp.mk (some 22) (AK.mv (AX.t 6)) none 0 false true), (AOp.mk (some 23) (AK.mv (AX.t 1)) none 1 false true), (AOp.mk (some 24) (AK.call 42 [(AX.t 22), (AX.t 23)]) none 2 false true), (AOp.mk (some 21) (AK.mv (AX.t 24)) none 3 false true), (AOp.mk (some 25) (AK.ext (AX.t 21) 0) none 4 false true), (AOp.mk (some 26) (AK.ext (AX.t 21) 1) none 5 false true), (AOp.mk (some 8) (AK.mv (AX.t 25)) none 6 false true), (AOp.mk (some 9) (AK.mv (AX.t 26)) none 7 false true)]) (AC.seq (AC.seq (AC.ops [(AOp.mk (some 27) (AK.mv (AX.t 9)) none 0 false true), (AOp.mk (some 28) (AK.un UnOp.not (AX.t 27)) none 1 false true)]) (AC.cond (AX.t 28) (AC.seq (AC.ops [(AOp.mk (some 4) (AK.mv (AX.c (PV.val (Value.int IntKind.i64 0)))) none 0 false true), (AOp.mk (some 5) (AK.mv (AX.c (PV.val (Value.int IntKind.i64 4)))) none 1 false true)]) AC.ret) AC.skip)) (AC.seq (AC.ops [(AOp.mk (some 29) (AK.mv (AX.t 8)) none 0 false true), (AOp.mk (some 4) (AK.mv (AX.t 29)) none 1 false true), (AOp.mk (some 5) (AK.mv (AX.c (PV.val (Value.int IntKind.i64 0)))) none 2 false true)]) AC.ret))))))
def ac18 : AC := (AC.seq (AC.ops [(AOp.mk (some 3) (AK.box 4 (AX.t 0)) none 0 false true), (AOp.mk (some 6) (AK.mv (AX.c (PV.val (Value.int IntKind.i64 0)))) none 1 false true), (AOp.mk (some 7) (AK.mv (AX.c (PV.val (Value.int IntKind.i64 0)))) none 2 false true)]) (AC.seq (AC.ops [(AOp.mk (some 11) (AK.ld (some 4) (AX.t 3)) none 0 true false), (AOp.mk (some 12) (AK.ld (some 4) (AX.t 3)) none 1 true false), (AOp.mk (some 13) (AK.mv (AX.t 1)) none 2 true false), (AOp.mk (some 14) (AK.call 41 [(AX.t 12), (AX.t 13)]) none 3 false false), (AOp.mk (some 15) (AK.mv (AX.t 14)) none 4 true false), (AOp.mk (some 16) (AK.ld (some 4) (AX.t 3)) (some (15, true)) 5 true false), (AOp.mk (some 17) (AK.mv (AX.t 2)) (some (15, true)) 6 true false), (AOp.mk (some 18) (AK.call 36 [(AX.t 16), (AX.t 17)]) (some (15, true)) 7 false false), (AOp.mk (some 19) (AK.pick (AX.t 15) (AX.t 18) (AX.c (PV.val (Value.bool false)))) none 8 true false), (AOp.mk (some 20) (AK.call 34 [(AX.t 11), (AX.t 19)]) none 9 false true), (AOp.mk (some 10) (AK.mv (AX.t 20)) none 10 true true), (AOp.mk (some 21) (AK.ext (AX.t 10) 0) none 11 true false), (AOp.mk (some 22) (AK.ext (AX.t 10) 1) none 12 true false), (AOp.mk (some 8) (AK.mv (AX.t 21)) none 13 true false), (AOp.mk (some 9) (AK.mv (AX.t 22)) none 14 true true)]) (AC.seq (AC.seq (AC.ops [(AOp.mk (some 23) (AK.mv (AX.t 9)) none 0 false true), (AOp.mk (some 24) (AK.bin false BinOp.neq (AX.t 23) (AX.c (PV.val (Value.int IntKind.i64 0)))) none 1 false true)]) (AC.cond (AX.t 24) (AC.seq (AC.ops [(AOp.mk (some 25) (AK.mv (AX.t 9)) none 0 false true), (AOp.mk (some 6) (AK.mv (AX.c (PV.val (Value.int IntKind.i64 0)))) none 1 false true), (AOp.mk (some 7) (AK.mv (AX.t 25)) none 2 false true)]) AC.ret) AC.skip)) (AC.seq (AC.seq (AC.ops [(AOp.mk (some 26) (AK.mv (AX.t 8)) none 0 false true), (AOp.mk (some 27) (AK.mv (AX.t 1)) none 1 false true), (AOp.mk (some 28) (AK.call 43 [(AX.t 26), (AX.t 27)]) none 2 false true), (AOp.mk (some 29) (AK.un UnOp.not (AX.t 28)) none 3 false true)]) (AC.cond (AX.t 29) (AC.seq (AC.ops [(AOp.mk (some 6) (AK.mv (AX.c (PV.val (Value.int IntKind.i64 0)))) none 0 false true), (AOp.mk (some 7) (AK.mv (AX.c (PV.val (Value.int IntKind.i64 4)))) none 1 false true)]) AC.ret) AC.skip)) (AC.seq (AC.ops [(AOp.mk (some 30) (AK.mv (AX.t 8)) none 0 false true), (AOp.mk (some 31) (AK.mv (AX.t 1)) none 1 false true), (AOp.mk (some 32) (AK.mv (AX.t 2)) none 2 false true), (AOp.mk (some 33) (AK.build [(PV.val (Value.int IntKind.i64 0)), (PV.val (Value.int IntKind.i64 0))] [(0, (1, (AX.t 31))), (1, (1, (AX.t 32)))]) none 3 false true), (AOp.mk (some 34) (AK.call 44 [(AX.t 30), (AX.t 33)]) none 4 false true), (AOp.mk (some 6) (AK.mv (AX.t 34)) none 5 false true), (AOp.mk (some 7) (AK.mv (AX.c (PV.val (Value.int IntKind.i64 0)))) none 6 false true)]) AC.ret)))))
def ac11 : AC := (AC.seq (AC.ops [(AOp.mk (some 2) (AK.box 4 (AX.t 0)) none 0 false true), (AOp.mk (some 4) (AK.mv (AX.c (PV.sl SK.full 0 []))) none 1 false true), (AOp.mk (some 5) (AK.mv (AX.c (PV.val (Value.int IntKind.i64 0)))) none 2 false true)]) (AC.seq (AC.ops [(AOp.mk (some 9) (AK.ld (some 4) (AX.t 2)) none 0 true false), (AOp.mk (some 10) (AK.ld (some 4) (AX.t 2)) none 1 true false), (AOp.mk (some 11) (AK.mv (AX.t 1)) none 2 true false), (AOp.mk (some 12) (AK.call 36 [(AX.t 10), (AX.t 11)]) none 3 false false), (AOp.mk (some 13) (AK.call 34 [(AX.t 9), (AX.t 12)]) none 4 false true), (AOp.mk (some 8) (AK.mv (AX.t 13)) none 5 true true), (AOp.mk (some 14) (AK.ext (AX.t 8) 0) none 6 true false), (AOp.mk (some 15) (AK.ext (AX.t 8) 1) none 7 true false), (AOp.mk (some 6) (AK.mv (AX.t 14)) none 8 true false), (AOp.mk (some 7) (AK.mv (AX.t 15)) none 9 true true)]) (AC.seq (AC.seq (AC.ops [(AOp.mk (some 16) (AK.mv (AX.t 7)) none 0 false true), (AOp.mk (some 17) (AK.bin false BinOp.neq (AX.t 16) (AX.c (PV.val (Value.int IntKind.i64 0)))) none 1 false true)]) (AC.cond (AX.t 17) (AC.seq (AC.ops [(AOp.mk (some 18) (AK.mv (AX.t 7)) none 0 false true), (AOp.mk (some 4) (AK.mv (AX.c (PV.sl SK.full 0 []))) none 1 false true), (AOp.mk (some 5) (AK.mv (AX.t 18)) none 2 false true)]) AC.ret) AC.skip)) (AC.seq (AC.ops [(AOp.mk (some 19) (AK.mv (AX.t 6)) none 0 false true), (AOp.mk (some 20) (AK.mv (AX.t 1)) none 1 false true), (AOp.mk (some 21) (AK.call 37 [(AX.t 19), (AX.t 20)]) none 2 false true), (AOp.mk (some 4) (AK.mv (AX.t 21)) none 3 false true), (AOp.mk (some 5) (AK.mv (AX.c (PV.val (Value.int IntKind.i64 0)))) none 4 false true)]) AC.ret))))
def ac19 : AC := (AC.seq (AC.ops [(AOp.mk (some 3) (AK.box 4 (AX.t 0)) none 0 false true), (AOp.mk (some 6) (AK.mv (AX.c (PV.val (Value.bool false)))) none 1 false true), (AOp.mk (some 7) (AK.mv (AX.c (PV.val (Value.int IntKind.i64 0)))) none 2 false true)]) (AC.seq (AC.ops [(AOp.mk (some 11) (AK.ld (some 4) (AX.t 3)) none 0 true false), (AOp.mk (some 12) (AK.ld (some 4) (AX.t 3)) none 1 true false), (AOp.mk (some 13) (AK.mv (AX.t 1)) none 2 true false), (AOp.mk (some 14) (AK.call 41 [(AX.t 12), (AX.t 13)]) none 3 false false), (AOp.mk (some 15) (AK.mv (AX.t 14)) none 4 true false), (AOp.mk (some 16) (AK.ld (some 4) (AX.t 3)) (some (15, true)) 5 true false), (AOp.mk (some 17) (AK.mv (AX.t 2)) (some (15, true)) 6 true false), (AOp.mk (some 18) (AK.call 41 [(AX.t 16), (AX.t 17)]) (some (15, true)) 7 false false), (AOp.mk (some 19) (AK.pick (AX.t 15) (AX.t 18) (AX.c (PV.val (Value.bool false)))) none 8 true false), (AOp.mk (some 20) (AK.mv (AX.t 19)) none 9 true false), (AOp.mk (some 21) (AK.mv (AX.t 1)) (some (20, true)) 10 true false), (AOp.mk (some 22) (AK.mv (AX.t 2)) (some (20, true)) 11 true false), (AOp.mk (some 23) (AK.bin false BinOp.neq (AX.t 21) (AX.t 22)) (some (20, true)) 12 true false), (AOp.mk (some 24) (AK.pick (AX.t 20) (AX.t 23) (AX.c (PV.val (Value.bool false)))) none 13 true false), (AOp.mk (some 25) (AK.call 39 [(AX.t 11), (AX.t 24)]) none 14 false true), (AOp.mk (some 10) (AK.mv (AX.t 25)) none 15 true true), (AOp.mk (some 26) (AK.ext (AX.t 10) 0) none 16 true false), (AOp.mk (some 27) (AK.ext (AX.t 10) 1) none 17 true false), (AOp.mk (some 8) (AK.mv (AX.t 26)) none 18 true false), (AOp.mk (some 9) (AK.mv (AX.t 27)) none 19 true true)]) (AC.seq (AC.seq (AC.ops [(AOp.mk (some 28) (AK.mv (AX.t 9)) none 0 false true), (AOp.mk (some 29) (AK.bin false BinOp.neq (AX.t 28) (AX.c (PV.val (Value.int IntKind.i64 0)))) none 1 false true)]) (AC.cond (AX.t 29) (AC.seq (AC.ops [(AOp.mk (some 30) (AK.mv (AX.t 9)) none 0 false true), (AOp.mk (some 6) (AK.mv (AX.c (PV.val (Value.bool false)))) none 1 false true), (AOp.mk (some 7) (AK.mv (AX.t 30)) none 2 false true)]) AC.ret) AC.skip)) (AC.seq (AC.ops [(AOp.mk (some 31) (AK.mv (AX.t 8)) none 0 false true), (AOp.mk (some 32) (AK.mv (AX.t 1)) none 1 false true), (AOp.mk (some 33) (AK.mv (AX.t 2)) none 2 false true), (AOp.mk (some 34) (AK.call 45 [(AX.t 31), (AX.t 32), (AX.t 33)]) none 3 false true), (AOp.mk (some 6) (AK.mv (AX.t 34)) none 4 false true), (AOp.mk (some 7) (AK.mv (AX.c (PV.val (Value.int IntKind.i64 0)))) none 5 false true)]) AC.ret))))
theorem ac19_ok : cCode Try.prog (fun _ => false) Try.f19.ntmps (Try.f19.body.getD .skip) = some ac19 := by kernel_rfl
def ac20 : AC := (AC.seq (AC.ops [(AOp.mk (some 1) (AK.box 4 (AX.t 0)) none 0 false true), (AOp.mk (some 2) (AK.mv (AX.c (PV.val (Value.int IntKind.i64 0)))) none 1 false true), (AOp.mk (some 3) (AK.mv (AX.c (PV.val (Value.int IntKind.i64 0)))) none 2 false true)]) (AC.seq (AC.ops [(AOp.mk (some 7) (AK.ld (some 4) (AX.t 1)) none 0 false true), (AOp.mk (some 8) (AK.call 34 [(AX.t 7), (AX.c (PV.val (Value.bool true)))]) none 1 false true), (AOp.mk (some 6) (AK.mv (AX.t 8)) none 2 false true), (AOp.mk (some 9) (AK.ext (AX.t 6) 0) none 3 false true), (AOp.mk (some 10) (AK.ext (AX.t 6) 1) none 4 false true), (AOp.mk (some 4) (AK.mv (AX.t 9)) none 5 false true), (AOp.mk (some 5) (AK.mv (AX.t 10)) none 6 false true)]) (AC.seq (AC.seq (AC.ops [(AOp.mk (some 11) (AK.mv (AX.t 5)) none 0 false true), (AOp.mk (some 12) (AK.bin false BinOp.neq (AX.t 11) (AX.c (PV.val (Value.int IntKind.i64 0)))) none 1 false true)]) (AC.cond (AX.t 12) (AC.seq (AC.ops [(AOp.mk (some 13) (AK.mv (AX.t 5)) none 0 false true), (AOp.mk (some 2) (AK.mv (AX.c (PV.val (Value.int IntKind.i64 0)))) none 1 false true), (AOp.mk (some 3) (AK.mv (AX.t 13)) none 2 false true)]) AC.ret) AC.skip)) (AC.seq (AC.seq (AC.ops [(AOp.mk (some 14) (AK.mv (AX.t 4)) none 0 false true), (AOp.mk (some 15) (AK.call 35 [(AX.t 14)]) none 1 false true), (AOp.mk (some 16) (AK.len (AX.t 15)) none 2 false true), (AOp.mk (some 17) (AK.bin false BinOp.lss (AX.t 16) (AX.c (PV.val (Value.int IntKind.i64 2)))) none 3 false true)]) (AC.cond (AX.t 17) (AC.seq (AC.ops [(AOp.mk (some 2) (AK.mv (AX.c (PV.val (Value.int IntKind.i64 0)))) none 0 false true), (AOp.mk (some 3) (AK.mv (AX.c (PV.val (Value.int IntKind.i64 4)))) none 1 false true)]) AC.ret) AC.skip)) (AC.seq (AC.ops [(AOp.mk (some 18) (AK.mv (AX.t 4)) none 0 false true), (AOp.mk (some 19) (AK.mv (AX.t 4)) none 1 false true), (AOp.mk (some 20) (AK.mkf 46 [(AX.t 19)] []) none 2 false true), (AOp.mk (some 21) (AK.build [PV.nilp, (PV.val Value.nilFunc)] [(0, (1, (AX.t 18))), (1, (1, (AX.t 20)))]) none 3 false true), (AOp.mk (some 22) (AK.call 47 [(AX.t 21)]) none 4 false true), (AOp.mk (some 2) (AK.mv (AX.t 22)) none 5 false true), (AOp.mk (some 3) (AK.mv (AX.c (PV.val (Value.int IntKind.i64 0)))) none 6 false true)]) AC.ret)))))
def errA (b : MBook) (known : Bool) : Int := if okBook b then (if known then 0 else 51) else 50
def errR (b : MBook) (known : Bool) : Int := if okBook b then (if known then (if rightB b then 0 else 52) else 51) else 50
theorem askedBook_sem (k k2 : SK) (b : MBook) (known : Bool) : Sem1 39 [.agg (bookC k k2 b), pb known] (.tup [if errA b known = 0 then bookP k k2 b else .nilp, pi (errA b known)]) := by
  refine semC_of_exec' mixed Try.func39 (by kernel_rfl) (by kernel_rfl) ac39_ok 2 rfl (by decide) [(.tmp 4), (.tmp 5)] (by kernel_rfl) ?_
  intro hr C hC hI
  unfold ac39
  simp only [go_sem, Nat.reduceBEq, Nat.reduceAdd]
  refine call_pure2 hC (Check_sem k k2 b) rfl (PVleL_refl _) ?_
  rintro r rfl
  simp only [go_sem, Nat.reduceBEq]
  by_cases ho : okBook b
  · rw [if_pos ho]
    refine ⟨fun h => absurd rfl h, fun _ => ?_⟩
    cases known
    · have he : errA b false = 51 := by unfold errA; rw [if_pos ho]; rfl
      rw [he]
      simp only [go_sem, Nat.reduceBEq]
      exact retQ_two rfl rfl rfl
    · have he : errA b true = 0 := by unfold errA; rw [if_pos ho]; rfl
      rw [he]
      simp only [go_sem, Nat.reduceBEq, Nat.reduceAdd]
      refine call_pure2 hC (bookOf_sem k k2 ho.1 (by have := ho.2; omega)) rfl (PVleL_refl _) ?_
      rintro r rfl
      simp only [go_sem, Nat.reduceBEq]
      exact retQ_two rfl rfl rfl
  · have he : errA b known = 50 := by unfold errA; rw [if_neg ho]
    rw [if_neg ho, he]
    refine ⟨fun _ => retQ_two rfl rfl rfl, fun h => absurd h (by decide)⟩
theorem lack_right {b : MBook} (ho : okC b) : lackB (seenN b) = !rightB b := by
  rw [Bool.eq_iff_iff, lack_iff, Bool.not_eq_true', Bool.eq_false_iff, Ne]
  unfold rightB
  rw [List.all_eq_true]
  constructor
  · rintro ⟨k, hk, h⟩ H
    rcases Nat.lt_or_ge k (nK b) with hkn | hkn
    · have := H k (List.mem_range.2 hkn)
      rw [h] at this
      simp at this
    · rw [seen_out ho hkn] at h
      cases h
  · intro H
    refine Classical.byContradiction fun hn => H fun k hk => ?_
    have hk := List.mem_range.1 hk
    rw [decide_eq_true_eq]
    intro h0
    exact hn ⟨k, by have := ho.2.1; omega, h0⟩
theorem rightBook_sem (k k2 : SK) (b : MBook) (known : Bool) : Sem1 34 [.agg (bookC k k2 b), pb known] (.tup [if errR b known = 0 then bookP k k2 b else .nilp, pi (errR b known)]) := by
  refine semC_of_exec' mixed Try.func34 (by kernel_rfl) (by kernel_rfl) ac34_ok 2 rfl (by decide) [(.tmp 4), (.tmp 5)] (by kernel_rfl) ?_
  intro hr C hC hI
  unfold ac34
  simp only [go_sem, Nat.reduceBEq, Nat.reduceAdd]
  refine call_pure2 hC (askedBook_sem k k2 b known) rfl (PVleL_refl _) ?_
  rintro r rfl
  simp only [go_sem, Nat.reduceBEq]
  by_cases ho : okBook b
  · have hl := lack_right ho.1
    cases known
    · have he : errA b false = 51 := by unfold errA; rw [if_pos ho]; rfl
      have he2 : errR b false = 51 := by unfold errR; rw [if_pos ho]; rfl
      rw [he, he2]
      simp only [go_sem, decide_true, not_false_eq_true, false_implies, true_implies, Int.reduceEq]
      exact retQ_two rfl rfl rfl
    · have he : errA b true = 0 := by unfold errA; rw [if_pos ho]; rfl
      rw [he, if_pos rfl]
      simp only [go_sem, Nat.reduceBEq, Nat.reduceAdd, Nat.reduceLeDiff, decide_false, not_true_eq_false, false_implies, true_implies]
      refine call_pure2 hC (lacksSome_sem (seenN b)) rfl (PVleL_refl _) ?_
      rintro r rfl
      simp only [go_sem, Nat.reduceBEq]
      rw [hl]
      cases hr2 : rightB b
      · have he2 : errR b true = 52 := by unfold errR; rw [if_pos ho, hr2]; rfl
        rw [he2]
        simp only [go_sem]
        exact retQ_two rfl rfl rfl
      · have he2 : errR b true = 0 := by unfold errR; rw [if_pos ho, hr2]; rfl
        rw [he2, if_pos rfl]
        simp only [go_sem, Nat.reduceBEq]
        exact retQ_two rfl rfl rfl
  · have he : errA b known = 50 := by unfold errA; rw [if_neg ho]
    have he2 : errR b known = 50 := by unfold errR; rw [if_neg ho]
    rw [he, he2]
    simp only [go_sem, decide_true, not_false_eq_true, false_implies, true_implies, Int.reduceEq]
    exact retQ_two rfl rfl rfl
theorem askP {C : Con} (hC : ∀ f args rd K s, SemP Try.prog Fence.wide f args rd K s → C.call f args rd K s) (k k2 : SK) (b : MBook) (known : Bool) {rd : List Nat} {K : AV → AS → Prop} {s : AS}
    (h1 : errA b known ≠ 0 → K (.p (.tup [.nilp, pi (errA b known)])) s) (h2 : errA b known = 0 → K (.p (.tup [bookP k k2 b, pi 0])) s) : C.call 39 [.p (.agg (bookC k k2 b)), .p (pb known)] rd K s := by
  refine call_pure2 hC (askedBook_sem k k2 b known) rfl (PVleL_refl _) ?_
  rintro r rfl
  by_cases he : errA b known = 0
  · rw [if_pos he, he]; exact h2 he
  · rw [if_neg he]; exact h1 he
theorem rightP {C : Con} (hC : ∀ f args rd K s, SemP Try.prog Fence.wide f args rd K s → C.call f args rd K s) (k k2 : SK) (b : MBook) (known : Bool) {rd : List Nat} {K : AV → AS → Prop} {s : AS}
    (h1 : errR b known ≠ 0 → K (.p (.tup [.nilp, pi (errR b known)])) s) (h2 : errR b known = 0 → K (.p (.tup [bookP k k2 b, pi 0])) s) : C.call 34 [.p (.agg (bookC k k2 b)), .p (pb known)] rd K s := by
  refine call_pure2 hC (rightBook_sem k k2 b known) rfl (PVleL_refl _) ?_
  rintro r rfl
  by_cases he : errR b known = 0
  · rw [if_pos he, he]; exact h2 he
  · rw [if_neg he]; exact h1 he
theorem errA_ok {b : MBook} {known : Bool} (h : errA b known = 0) : okBook b ∧ known = true := by
  unfold errA at h
  split at h
  · rename_i ho
    split at h
    · rename_i hk; exact ⟨ho, hk⟩
    · omega
  · omega
theorem errR_ok {b : MBook} {known : Bool} (h : errR b known = 0) : okBook b ∧ known = true ∧ rightB b = true := by
  unfold errR at h
  split at h
  · rename_i ho
    split at h
    · rename_i hk
      split at h
      · rename_i hr; exact ⟨ho, hk, hr⟩
      · omega
    · omega
  · omega
def okM (b : MBook) (n : Int) : Bool := decide (0 ≤ n ∧ n < b.makers.length)
def okK (b : MBook) (n : Int) : Bool := decide (0 ≤ n ∧ n < (nK b : Int))
theorem okM_nat {b : MBook} {n : Int} (h : okM b n = true) : ∃ m : Nat, n = m ∧ m < b.makers.length := by
  have := of_decide_eq_true h
  exact ⟨n.toNat, by omega, by omega⟩
theorem Who_sem (k k2 : SK) (b : MBook) : Sem1 10 [.agg (bookC k k2 b)] (if errR b true = 0 then .tup [pis (natL (whoL b)), pi 0] else .tup [pis [], pi (errR b true)]) := by
  refine semC_of_exec' mixed Try.func10 (by kernel_rfl) (by kernel_rfl) ac10_ok 1 rfl (by decide) [(.tmp 2), (.tmp 3)] (by kernel_rfl) ?_
  intro hr C hC hI
  unfold ac10
  simp only [go_sem, Nat.reduceBEq, Nat.reduceAdd]
  refine rightP hC k k2 b true (fun hne => ?_) (fun h0 => ?_)
  · rw [if_neg hne]
    simp only [go_sem, Nat.reduceBEq, eq_true hne, decide_true]
    exact retQ_two_le rfl rfl (PVle.nil _ _ _) (PVle.refl _) rfl
  · obtain ⟨ho, -⟩ := errR_ok h0
    rw [if_pos h0]
    simp only [go_sem, Nat.reduceBEq, decide_false, not_true_eq_false]
    refine call_pure2 hC (possible_sem k k2 ho.1) rfl (PVleL_refl _) ?_
    rintro r rfl
    simp only [go_sem, Nat.reduceBEq]
    exact retQ_two_le rfl rfl (PVle.sh _ _ _) (PVle.refl _) rfl
def needsR (o : Option Nat) : PV := match o with | some z => .tup [pi (z : Nat), pi 0] | none => .tup [pi 0, pi 4]
theorem hasM_sem (k k2 : SK) (b : MBook) (n : Int) (hl : b.makers.length ≤ 140737488355328) : Sem1 41 [.agg (bookC k k2 b), pi n] (pb (okM b n)) := hasMaker_sem k k2 b n hl
def okT (b : MBook) (n p : Int) : Bool := okM b n && okM b p && decide (n ≠ p)
theorem Told_sem (k k2 : SK) (b : MBook) (n p : Int) : Sem1 19 [.agg (bookC k k2 b), pi n, pi p] (if errA b (okT b n p) = 0 then .tup [pb (!bothB b n.toNat p.toNat), pi 0] else .tup [pb false, pi (errA b (okT b n p))]) := by
  unfold okT
  refine semC_of_exec' mixed Try.func19 (by kernel_rfl) (by kernel_rfl) ac19_ok 3 rfl (by decide) [(.tmp 6), (.tmp 7)] (by kernel_rfl) ?_
  intro hr C hC hI
  unfold ac19
  simp only [go_sem, Nat.reduceBEq, Nat.reduceAdd]
  have hlen := real_aggL (i := 0) (j := 0) hr rfl rfl
  rw [List.length_map] at hlen
  have bad : errA b false ≠ 0 := fun h => by have := (errA_ok h).2; cases this
  refine call_pure2 hC (hasM_sem k k2 b n hlen) rfl (PVleL_refl _) ?_
  rintro r rfl
  simp only [go_sem, Nat.reduceBEq]
  cases hM : okM b n
  · rw [Bool.false_and, Bool.false_and, if_neg bad]
    simp only [go_sem, Nat.reduceBEq]
    refine askP hC k k2 b false (fun hne => ?_) (fun h0 => absurd h0 bad)
    simp only [go_sem, Nat.reduceBEq, eq_true hne, decide_true]
    exact retQ_two rfl rfl rfl
  · rw [Bool.true_and]
    simp only [go_sem, Nat.reduceBEq, Nat.reduceAdd]
    refine call_pure2 hC (hasM_sem k k2 b p hlen) rfl (PVleL_refl _) ?_
    rintro r rfl
    simp only [go_sem, Nat.reduceBEq]
    cases hP : okM b p
    · rw [Bool.false_and, if_neg bad]
      simp only [go_sem, Nat.reduceBEq]
      refine askP hC k k2 b false (fun hne => ?_) (fun h0 => absurd h0 bad)
      simp only [go_sem, Nat.reduceBEq, eq_true hne, decide_true]
      exact retQ_two rfl rfl rfl
    · rw [Bool.true_and]
      simp only [go_sem, Nat.reduceBEq]
      refine askP hC k k2 b (decide (n ≠ p)) (fun hne => ?_) (fun h0 => ?_)
      · rw [if_neg hne]
        simp only [go_sem, Nat.reduceBEq, eq_true hne, decide_true]
        exact retQ_two rfl rfl rfl
      · obtain ⟨ho, -⟩ := errA_ok h0
        obtain ⟨m, rfl, hm⟩ := okM_nat hM
        obtain ⟨u, rfl, hu⟩ := okM_nat hP
        rw [if_pos h0, Int.toNat_natCast, Int.toNat_natCast]
        simp only [go_sem, Nat.reduceBEq, decide_false, not_true_eq_false]
        refine call_pure2 hC (areTold_sem k k2 ho.1 hm hu) rfl (PVleL_refl _) ?_
        rintro r rfl
        simp only [go_sem, Nat.reduceBEq]
        exact retQ_two rfl rfl rfl
end Go.Proofs.Ytlbolnlcncjijaa.Mk
