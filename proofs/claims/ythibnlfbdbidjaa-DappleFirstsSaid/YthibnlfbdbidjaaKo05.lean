/- Contracts of dapple: where it is best to look. Mathematics of dapple: sets, turns. -/
import Derived.Test.YthibnlfbdbidjaaKo04
namespace Go.Proofs.Ythibnlfbdbidjaa
open Go.RowKit
def ac152 : AC := (AC.seq (AC.ops [(AOp.mk (some 2) (AK.box 1 (AX.t 0)) none 0 false true), (AOp.mk (some 3) (AK.box 2 (AX.t 1)) none 1 false true), (AOp.mk (some 4) (AK.mv (AX.c (PV.val (Value.int IntKind.i64 0)))) none 2 false true)]) (AC.seq (AC.ops [(AOp.mk (some 5) (AK.new (PV.val (Value.int IntKind.i64 0))) none 0 false true), (AOp.mk none (AK.st 1 (AX.t 5) (AX.c (PV.val (Value.int IntKind.i64 0)))) none 1 false true)]) (AC.seq (AC.seq (AC.ops [(AOp.mk (some 7) (AK.ld none (AX.t 2)) none 0 true false), (AOp.mk (some 8) (AK.nilc (AX.t 7)) none 1 true false), (AOp.mk (some 9) (AK.fadr 2 (AX.t 8)) none 2 true false), (AOp.mk (some 10) (AK.ld none (AX.t 9)) none 3 true false), (AOp.mk (some 11) (AK.ld (some 2) (AX.t 3)) none 4 true false), (AOp.mk (some 12) (AK.lkp [CK.i, CK.i] true (PV.agg [(PV.val (Value.int IntKind.i64 0)), (PV.val (Value.int IntKind.i64 0)), (PV.val (Value.int IntKind.i64 0)), (PV.val (Value.int IntKind.i64 0)), (PV.val (Value.int IntKind.i64 0)), (PV.val (Value.int IntKind.i64 0)), (PV.val (Value.int IntKind.i64 0)), (PV.val (Value.int IntKind.i64 0))]) false (AX.t 10) (AX.t 11)) none 5 true true), (AOp.mk (some 13) (AK.idx 1 8 none (AX.t 12) (AX.c (PV.val (Value.int IntKind.i64 0)))) none 6 true true), (AOp.mk (some 14) (AK.call 143 [(AX.t 13)]) none 7 false true)]) (AC.block 0 (AC.rng (AX.t 14) [15] (AC.ops [(AOp.mk (some 6) (AK.mv (AX.t 15)) none 0 false true)]) (AC.block 1 (AC.ops [(AOp.mk (some 16) (AK.ld none (AX.t 5)) none 0 true false), (AOp.mk (some 17) (AK.ld none (AX.t 2)) none 1 true false), (AOp.mk (some 18) (AK.ld (some 2) (AX.t 3)) none 2 true false), (AOp.mk (some 19) (AK.mv (AX.t 6)) none 3 true false), (AOp.mk (some 20) (AK.call 166 [(AX.t 17), (AX.t 18), (AX.t 19)]) none 4 false false), (AOp.mk (some 21) (AK.call 167 [(AX.t 20)]) none 5 false false), (AOp.mk (some 22) (AK.bslice false 3 1 1 [(PV.val (Value.int IntKind.i64 0))] [(0, (1, (AX.t 21)))]) none 6 false false), (AOp.mk (some 23) (AK.call 108 [(AX.t 16), (AX.t 22)]) none 7 false true), (AOp.mk none (AK.st 1 (AX.t 5) (AX.t 23)) none 8 false true)]))))) (AC.seq (AC.ops [(AOp.mk (some 24) (AK.ld none (AX.t 5)) none 0 false true), (AOp.mk (some 4) (AK.mv (AX.t 24)) none 1 false true)]) AC.ret))))
theorem ac152_ok : cCode Try.prog (fun _ => false) Try.f152.ntmps (Try.f152.body.getD .skip) = some ac152 := by kernel_rfl
def ac125 : AC := (AC.seq (AC.ops [(AOp.mk (some 1) (AK.box 1 (AX.t 0)) none 0 false true), (AOp.mk (some 2) (AK.mv (AX.c (PV.val Value.nilFunc))) none 1 false true)]) (AC.seq (AC.ops [(AOp.mk (some 3) (AK.mkf 151 [] [(AX.t 1)]) none 0 false true), (AOp.mk (some 2) (AK.mv (AX.t 3)) none 1 false true)]) AC.ret))
theorem ac125_ok : cCode Try.prog (fun _ => false) Try.f125.ntmps (Try.f125.body.getD .skip) = some ac125 := by kernel_rfl
def ac151 : AC := (AC.seq (AC.ops [(AOp.mk (some 7) (AK.ld none (AX.t 1)) none 0 false true), (AOp.mk (some 8) (AK.nilc (AX.t 7)) none 1 false true), (AOp.mk (some 9) (AK.fadr 0 (AX.t 8)) none 2 false true), (AOp.mk (some 10) (AK.fadr 1 (AX.t 9)) none 3 false true), (AOp.mk (some 11) (AK.ld none (AX.t 10)) none 4 false true), (AOp.mk (some 12) (AK.len (AX.t 11)) none 5 false true), (AOp.mk (some 13) (AK.mv (AX.c (PV.val (Value.int IntKind.i64 0)))) none 6 false true)]) (AC.block 0 (AC.loop (AC.seq (AC.ops [(AOp.mk (some 14) (AK.bin false BinOp.lss (AX.t 13) (AX.t 12)) none 0 false true)]) (AC.seq (AC.cond (AX.t 14) AC.skip (AC.exit 0)) (AC.seq (AC.block 1 (AC.seq (AC.ops [(AOp.mk (some 15) (AK.mv (AX.t 13)) none 0 false true), (AOp.mk (some 3) (AK.mv (AX.t 15)) none 1 false true)]) (AC.seq (AC.ops [(AOp.mk (some 16) (AK.ld none (AX.t 1)) none 0 false true), (AOp.mk (some 17) (AK.mv (AX.t 3)) none 1 false true), (AOp.mk (some 18) (AK.call 122 [(AX.t 16), (AX.t 17)]) none 2 false true), (AOp.mk (some 19) (AK.mv (AX.c (PV.val (Value.int IntKind.i64 0)))) none 3 false true)]) (AC.block 2 (AC.loop (AC.seq (AC.ops [(AOp.mk (some 20) (AK.bin false BinOp.lss (AX.t 19) (AX.c (PV.val (Value.int IntKind.i64 8)))) none 0 false true)]) (AC.seq (AC.cond (AX.t 20) AC.skip (AC.exit 2)) (AC.seq (AC.block 3 (AC.seq (AC.ops [(AOp.mk (some 21) (AK.mv (AX.t 19)) none 0 false true), (AOp.mk (some 22) (AK.idx 1 8 none (AX.t 18) (AX.t 19)) none 1 false true), (AOp.mk (some 4) (AK.mv (AX.t 21)) none 2 false true), (AOp.mk (some 5) (AK.mv (AX.t 22)) none 3 false true)]) (AC.seq (AC.ops [(AOp.mk (some 23) (AK.mv (AX.t 3)) none 0 false true), (AOp.mk (some 24) (AK.mv (AX.t 4)) none 1 false true), (AOp.mk (some 25) (AK.build [(PV.val (Value.int IntKind.i64 0)), (PV.val (Value.int IntKind.i64 0))] [(0, (1, (AX.t 23))), (1, (1, (AX.t 24)))]) none 2 false true), (AOp.mk (some 6) (AK.new (PV.agg [(PV.val (Value.int IntKind.i64 0)), (PV.val (Value.int IntKind.i64 0))])) none 3 false true), (AOp.mk none (AK.st 2 (AX.t 6) (AX.t 25)) none 4 false true)]) (AC.seq (AC.ops [(AOp.mk (some 26) (AK.mv (AX.t 5)) none 0 true true), (AOp.mk (some 27) (AK.bin false BinOp.neq (AX.t 26) (AX.c (PV.val (Value.int IntKind.i64 0)))) none 1 true true), (AOp.mk (some 28) (AK.mv (AX.t 27)) none 2 true true), (AOp.mk (some 29) (AK.mv (AX.t 0)) (some (28, true)) 3 true false), (AOp.mk (some 30) (AK.ld (some 2) (AX.t 6)) (some (28, true)) 4 true false), (AOp.mk (some 31) (AK.ld none (AX.t 1)) (some (28, true)) 5 true false), (AOp.mk (some 32) (AK.ld (some 2) (AX.t 6)) (some (28, true)) 6 true false), (AOp.mk (some 33) (AK.call 152 [(AX.t 31), (AX.t 32)]) (some (28, true)) 7 false false), (AOp.mk (some 34) (AK.build [(PV.val (Value.int IntKind.i64 0)), (PV.val (Value.int IntKind.i64 0)), (PV.val (Value.int IntKind.i64 0))] [(0, (2, (AX.t 30))), (2, (1, (AX.t 33)))]) (some (28, true)) 8 true false), (AOp.mk (some 35) (AK.callv (AX.t 29) [(AX.t 34)]) (some (28, true)) 9 false true), (AOp.mk (some 36) (AK.un UnOp.not (AX.t 35)) (some (28, true)) 10 true true), (AOp.mk (some 37) (AK.pick (AX.t 28) (AX.t 36) (AX.c (PV.val (Value.bool false)))) none 11 true true)]) (AC.cond (AX.t 37) AC.ret AC.skip))))) (AC.ops [(AOp.mk (some 38) (AK.bin false BinOp.add (AX.t 19) (AX.c (PV.val (Value.int IntKind.i64 1)))) none 0 false true), (AOp.mk (some 19) (AK.mv (AX.t 38)) none 1 false true)]))))))))) (AC.ops [(AOp.mk (some 39) (AK.bin false BinOp.add (AX.t 13) (AX.c (PV.val (Value.int IntKind.i64 1)))) none 0 false true), (AOp.mk (some 13) (AK.mv (AX.t 39)) none 1 false true)])))))))
theorem ac151_ok : cCode Try.prog (fun _ => false) Try.f151.ntmps (Try.f151.body.getD .skip) = some ac151 := by kernel_rfl
def ac150 : AC := (AC.seq (AC.ops [(AOp.mk (some 2) (AK.new (PV.agg [(PV.val (Value.int IntKind.i64 0)), (PV.val (Value.int IntKind.i64 0)), (PV.val (Value.int IntKind.i64 0))])) none 0 false true), (AOp.mk (some 3) (AK.new (PV.val (Value.bool false))) none 1 false true)]) (AC.seq (AC.seq (AC.ops [(AOp.mk (some 6) (AK.mv (AX.t 0)) none 0 false true)]) (AC.block 0 (AC.rng (AX.t 6) [7] (AC.ops [(AOp.mk (some 4) (AK.new (PV.agg [(PV.val (Value.int IntKind.i64 0)), (PV.val (Value.int IntKind.i64 0)), (PV.val (Value.int IntKind.i64 0))])) none 0 false true), (AOp.mk none (AK.st 3 (AX.t 4) (AX.t 7)) none 1 false true)]) (AC.block 1 (AC.seq (AC.ops [(AOp.mk (some 8) (AK.ld (some 3) (AX.t 4)) none 0 false true), (AOp.mk none (AK.st 3 (AX.t 2) (AX.t 8)) none 1 false true), (AOp.mk none (AK.st 1 (AX.t 3) (AX.c (PV.val (Value.bool true)))) none 2 false true)]) AC.ret))))) (AC.seq (AC.ops [(AOp.mk (some 5) (AK.new (PV.agg [(PV.val (Value.int IntKind.i64 0)), (PV.val (Value.int IntKind.i64 0)), (PV.val (Value.int IntKind.i64 0))])) none 0 false true)]) (AC.seq (AC.ops [(AOp.mk (some 9) (AK.ld (some 3) (AX.t 5)) none 0 false true), (AOp.mk none (AK.st 3 (AX.t 2) (AX.t 9)) none 1 false true), (AOp.mk none (AK.st 1 (AX.t 3) (AX.c (PV.val (Value.bool false)))) none 2 false true)]) AC.ret))))
theorem ac150_ok : cCode Try.prog (fun _ => false) Try.f150.ntmps (Try.f150.body.getD .skip) = some ac150 := by kernel_rfl
def ac123 : AC := (AC.seq (AC.ops [(AOp.mk (some 2) (AK.box 3 (AX.t 0)) none 0 false true), (AOp.mk (some 3) (AK.box 3 (AX.t 1)) none 1 false true), (AOp.mk (some 4) (AK.mv (AX.c (PV.val (Value.bool false)))) none 2 false true)]) (AC.seq (AC.ops [(AOp.mk (some 5) (AK.fadr 2 (AX.t 2)) none 0 false true), (AOp.mk (some 6) (AK.ld none (AX.t 5)) none 1 false true), (AOp.mk (some 7) (AK.fadr 2 (AX.t 3)) none 2 false true), (AOp.mk (some 8) (AK.ld none (AX.t 7)) none 3 false true), (AOp.mk (some 9) (AK.bin false BinOp.lss (AX.t 6) (AX.t 8)) none 4 false true), (AOp.mk (some 4) (AK.mv (AX.t 9)) none 5 false true)]) AC.ret))
theorem ac123_ok : cCode Try.prog (fun _ => false) Try.f123.ntmps (Try.f123.body.getD .skip) = some ac123 := by kernel_rfl
def ac124 : AC := (AC.seq (AC.ops [(AOp.mk (some 2) (AK.box 1 (AX.t 0)) none 0 false true), (AOp.mk (some 4) (AK.new (PV.agg [(PV.val (Value.int IntKind.i64 0)), (PV.val (Value.int IntKind.i64 0)), (PV.val (Value.int IntKind.i64 0))])) none 1 false true)]) (AC.seq (AC.ops [(AOp.mk (some 9) (AK.mv (AX.t 1)) none 0 false true), (AOp.mk (some 10) (AK.call 150 [(AX.t 9)]) none 1 false true), (AOp.mk (some 8) (AK.mv (AX.t 10)) none 2 false true), (AOp.mk (some 11) (AK.ext (AX.t 8) 0) none 3 false true), (AOp.mk (some 12) (AK.ext (AX.t 8) 1) none 4 false true), (AOp.mk (some 5) (AK.new (PV.agg [(PV.val (Value.int IntKind.i64 0)), (PV.val (Value.int IntKind.i64 0)), (PV.val (Value.int IntKind.i64 0))])) none 5 false true), (AOp.mk none (AK.st 3 (AX.t 5) (AX.t 11)) none 6 false true), (AOp.mk (some 6) (AK.mv (AX.t 12)) none 7 false true)]) (AC.seq (AC.seq (AC.ops [(AOp.mk (some 13) (AK.mv (AX.t 1)) none 0 false true)]) (AC.block 0 (AC.rng (AX.t 13) [14] (AC.ops [(AOp.mk (some 7) (AK.new (PV.agg [(PV.val (Value.int IntKind.i64 0)), (PV.val (Value.int IntKind.i64 0)), (PV.val (Value.int IntKind.i64 0))])) none 0 false true), (AOp.mk none (AK.st 3 (AX.t 7) (AX.t 14)) none 1 false true)]) (AC.block 1 (AC.seq (AC.ops [(AOp.mk (some 15) (AK.fadr 0 (AX.t 2)) none 0 false true), (AOp.mk (some 16) (AK.ld none (AX.t 15)) none 1 false true), (AOp.mk (some 17) (AK.ld (some 3) (AX.t 7)) none 2 false true), (AOp.mk (some 18) (AK.ld (some 3) (AX.t 5)) none 3 false true), (AOp.mk (some 19) (AK.callv (AX.t 16) [(AX.t 17), (AX.t 18)]) none 4 false true)]) (AC.cond (AX.t 19) (AC.ops [(AOp.mk (some 20) (AK.ld (some 3) (AX.t 7)) none 0 false true), (AOp.mk none (AK.st 3 (AX.t 5) (AX.t 20)) none 1 false true)]) AC.skip)))))) (AC.seq (AC.ops [(AOp.mk (some 21) (AK.ld (some 3) (AX.t 5)) none 0 false true), (AOp.mk none (AK.st 3 (AX.t 4) (AX.t 21)) none 1 false true)]) AC.ret))))
theorem ac124_ok : cCode Try.prog (fun _ => false) Try.f124.ntmps (Try.f124.body.getD .skip) = some ac124 := by kernel_rfl
def ac89 : AC := (AC.seq (AC.ops [(AOp.mk (some 2) (AK.new (PV.agg [(PV.val (Value.int IntKind.i64 0)), (PV.val (Value.int IntKind.i64 0)), (PV.val (Value.int IntKind.i64 0))])) none 0 false true)]) (AC.seq (AC.ops [(AOp.mk (some 4) (AK.build [(PV.val Value.nilFunc)] [(0, (1, (AX.c (PV.val (Value.func (Fn.func 123) #[] #[])))))]) none 0 false true), (AOp.mk (some 3) (AK.new (PV.agg [(PV.val Value.nilFunc)])) none 1 false true), (AOp.mk none (AK.st 1 (AX.t 3) (AX.t 4)) none 2 false true)]) (AC.seq (AC.ops [(AOp.mk (some 5) (AK.ld (some 1) (AX.t 3)) none 0 true false), (AOp.mk (some 6) (AK.mv (AX.t 0)) none 1 true false), (AOp.mk (some 7) (AK.call 125 [(AX.t 6)]) none 2 false false), (AOp.mk (some 8) (AK.call 124 [(AX.t 5), (AX.t 7)]) none 3 false true), (AOp.mk none (AK.st 3 (AX.t 2) (AX.t 8)) none 4 false true)]) AC.ret)))
theorem ac89_ok : cCode Try.prog (fun _ => false) Try.f89.ntmps (Try.f89.body.getD .skip) = some ac89 := by kernel_rfl
def ac36 : AC := (AC.seq (AC.ops [(AOp.mk (some 1) (AK.box 2 (AX.t 0)) none 0 false true), (AOp.mk (some 2) (AK.mv (AX.c (PV.val (Value.int IntKind.i64 0)))) none 1 false true), (AOp.mk (some 3) (AK.mv (AX.c (PV.val (Value.int IntKind.i64 0)))) none 2 false true), (AOp.mk (some 4) (AK.mv (AX.c (PV.val (Value.int IntKind.i64 0)))) none 3 false true)]) (AC.seq (AC.ops [(AOp.mk (some 8) (AK.ld (some 2) (AX.t 1)) none 0 false true), (AOp.mk (some 9) (AK.call 64 [(AX.t 8), (AX.c (PV.val (Value.bool true)))]) none 1 false true), (AOp.mk (some 7) (AK.mv (AX.t 9)) none 2 false true), (AOp.mk (some 10) (AK.ext (AX.t 7) 0) none 3 false true), (AOp.mk (some 11) (AK.ext (AX.t 7) 1) none 4 false true), (AOp.mk (some 5) (AK.mv (AX.t 10)) none 5 false true), (AOp.mk (some 4) (AK.mv (AX.t 11)) none 6 false true)]) (AC.seq (AC.seq (AC.ops [(AOp.mk (some 12) (AK.mv (AX.t 4)) none 0 false true), (AOp.mk (some 13) (AK.bin false BinOp.neq (AX.t 12) (AX.c (PV.val (Value.int IntKind.i64 0)))) none 1 false true)]) (AC.cond (AX.t 13) (AC.seq (AC.ops [(AOp.mk (some 14) (AK.mv (AX.t 4)) none 0 false true), (AOp.mk (some 2) (AK.mv (AX.c (PV.val (Value.int IntKind.i64 0)))) none 1 false true), (AOp.mk (some 3) (AK.mv (AX.c (PV.val (Value.int IntKind.i64 0)))) none 2 false true), (AOp.mk (some 4) (AK.mv (AX.t 14)) none 3 false true)]) AC.ret) AC.skip)) (AC.seq (AC.seq (AC.ops [(AOp.mk (some 15) (AK.mv (AX.t 5)) none 0 false true), (AOp.mk (some 16) (AK.call 88 [(AX.t 15)]) none 1 false true)]) (AC.cond (AX.t 16) (AC.seq (AC.ops [(AOp.mk (some 2) (AK.mv (AX.c (PV.val (Value.int IntKind.i64 0)))) none 0 false true), (AOp.mk (some 3) (AK.mv (AX.c (PV.val (Value.int IntKind.i64 0)))) none 1 false true), (AOp.mk (some 4) (AK.mv (AX.c (PV.val (Value.int IntKind.i64 4)))) none 2 false true)]) AC.ret) AC.skip)) (AC.seq (AC.ops [(AOp.mk (some 17) (AK.mv (AX.t 5)) none 0 false true), (AOp.mk (some 18) (AK.call 89 [(AX.t 17)]) none 1 false true), (AOp.mk (some 6) (AK.new (PV.agg [(PV.val (Value.int IntKind.i64 0)), (PV.val (Value.int IntKind.i64 0)), (PV.val (Value.int IntKind.i64 0))])) none 2 false true), (AOp.mk none (AK.st 3 (AX.t 6) (AX.t 18)) none 3 false true)]) (AC.seq (AC.ops [(AOp.mk (some 19) (AK.fadr 0 (AX.t 6)) none 0 true false), (AOp.mk (some 20) (AK.fadr 0 (AX.t 19)) none 1 true false), (AOp.mk (some 21) (AK.ld none (AX.t 20)) none 2 true false), (AOp.mk (some 22) (AK.fadr 0 (AX.t 6)) none 3 true false), (AOp.mk (some 23) (AK.fadr 1 (AX.t 22)) none 4 true false), (AOp.mk (some 24) (AK.ld none (AX.t 23)) none 5 true false), (AOp.mk (some 2) (AK.mv (AX.t 21)) none 6 true false), (AOp.mk (some 3) (AK.mv (AX.t 24)) none 7 true true), (AOp.mk (some 4) (AK.mv (AX.c (PV.val (Value.int IntKind.i64 0)))) none 8 true true)]) AC.ret))))))
theorem ac36_ok : cCode Try.prog (fun _ => false) Try.f36.ntmps (Try.f36.body.getD .skip) = some ac36 := by kernel_rfl
def worstF (b : DBook) (h p : Nat) (l : List Nat) : Int := l.foldl (fun m s => maxI true m (clashI (knowB b h p s))) 0
def worstI (b : DBook) (h p : Nat) : Int := worstF b h p (sizesL ((rowL b h p).getD 0 0))
theorem worst_sem (k : SK) {b : DBook} (ho : okBook b) {h p : Nat} (hh : h < b.horses.length) (hp : p < nR b) : Sem1 152 [bookP k b, .agg [pi h, pi p]] (pi (worstI b h p)) := by
  have hrl : (rowL b h p).length = 8 := rowN_len ..
  have hr0 : ((rowL b h p).map pi)[0]? = some (pi ((rowL b h p).getD 0 0)) := cell_ints (by omega)
  unfold worstI
  obtain ⟨x, hx⟩ : ∃ x, (rowL b h p).getD 0 0 = x := ⟨_, rfl⟩
  rw [hx] at hr0 ⊢
  refine semC_of_exec' mixed Try.func152 (by kernel_rfl) (by kernel_rfl) ac152_ok 2 rfl (by decide) [(.tmp 4)] (by kernel_rfl) ?_
  intro hr C hC hI
  unfold ac152
  simp only [go_sem, Nat.reduceBEq, Nat.reduceAdd, look_row hh hp, Option.map_some, putCells]
  simp only [go_sem, Nat.reduceBEq, show idxS 1 8 none (.p (.agg ((rowL b h p).map pi))) (.p (pi 0)) = _ from idx8 (j := 0) (by omega) hr0]
  refine call_pure2 hC (sizes_sem x) rfl (PVleL_refl _) ?_
  rintro r rfl
  simp only [go_sem]
  refine rng_m (ι := Unit) (sizesL x) encT [2, 3, 5] (fun q _ => [.cells [.p (bookP k b)], .cells [.p (pi h), .p (pi p)], .cells [.p (pi (worstF b h p ((sizesL x).take q)))]]) (fun _ _ => []) (fun _ => some []) (fun _ _ => True) () rfl rfl (hI _ _ _ (sizes_it x)) ?_ (fun _ => rfl) (by simp [Wk, wkT, wkL, look, AV.lo, AV.lo.loL, keepS, worstF]) trivial ?_ ?_
  · simp only [noY_turns, noY.noYL, noY, Bool.and_true]
  · rintro q - hq -
    obtain ⟨hs4, hsx⟩ := mem_sizes.1 (List.getElem_mem hq)
    have hn : worstF b h p ((sizesL x).take (q + 1)) = maxI true (worstF b h p ((sizesL x).take q)) (clashI (knowB b h p (sizesL x)[q])) := by
      unfold worstF
      rw [List.take_succ_eq_append_getElem hq, List.foldl_append]
      rfl
    simp only [go_sem, Nat.reduceBEq, Nat.reduceAdd, encT]
    refine call_pure2 hC (knowing_sem k ho h p hs4) rfl (PVleL_refl _) ?_
    rintro r rfl
    simp only [go_sem, Nat.reduceBEq]
    refine call_pure2 hC (clashes_sem .sh (knowB_ok ho h p hs4)) rfl (PVleL_refl _) ?_
    rintro r rfl
    simp only [go_sem, Nat.reduceBEq]
    refine call_pure2 hC (greatest_sem .full _ _) rfl (PVleL_refl _) ?_
    rintro r rfl
    simp only [go_sem, Nat.reduceBEq, putCells]
    refine ⟨(), ?_⟩
    rw [hn]
    exact by simp [Wk, wkT, wkL, look, AV.lo, AV.lo.loL, ABlk.toZ]
  · rintro - -
    rw [List.take_length]
    simp only [go_sem, Nat.reduceBEq]
    exact retQ_one rfl rfl
def encC (b : DBook) (v : Nat × Nat) : List PV := [.agg [pi v.1, pi v.2, pi (worstI b v.1 v.2)]]
def chIL (b : DBook) (h j : Nat) : List (Nat × Nat) := (((List.range 8).drop j).filter fun p => decide (openF b h p ≠ 0)).map fun p => (h, p)
def chL (b : DBook) (i : Nat) : List (Nat × Nat) := ((List.range b.horses.length).drop i).flatMap fun h => chIL b h 0
def chO (b : DBook) (i : Nat) : List (List PV) := (chL b i).map (encC b)
def chI (b : DBook) (h j : Nat) : List (List PV) := (chIL b h j).map (encC b)
theorem chO_next {b : DBook} {i : Nat} (h : i < b.horses.length) : chO b i = chI b i 0 ++ chO b (i + 1) := by
  unfold chO chI chL
  rw [List.drop_eq_getElem_cons (by simpa using h), List.flatMap_cons, List.map_append, List.getElem_range]
theorem chO_end (b : DBook) : chO b b.horses.length = [] := by
  unfold chO chL
  rw [List.drop_eq_nil_of_le (by simp)]
  rfl
theorem chI_next (b : DBook) (h : Nat) {j : Nat} (hj : j < 8) : chI b h j = (if openF b h j = 0 then [] else [encC b (h, j)]) ++ chI b h (j + 1) := by
  unfold chI chIL
  rw [List.drop_eq_getElem_cons (by simpa using hj), List.filter_cons]
  simp only [List.getElem_range]
  by_cases h0 : openF b h j = 0
  · simp [h0]
  · simp [h0]
theorem chI_end (b : DBook) (h : Nat) : chI b h 8 = [] := rfl
theorem rowL_out {b : DBook} {h t p : Nat} (hp : nR b ≤ p) : (rowL b h t).getD p 0 = 0 := by
  unfold rowL rowN
  rw [List.getD_eq_getElem?_getD, List.getElem?_map]
  rcases Nat.lt_or_ge p 8 with h8 | h8
  · rw [List.getElem?_range h8]
    show (if p < nR b then _ else (0 : Int)) = 0
    rw [if_neg (by omega)]
  · rw [List.getElem?_eq_none (show (List.range 8).length ≤ p by simpa using h8)]
    rfl
theorem openF_lt {b : DBook} {h p : Nat} (h0 : openF b h p ≠ 0) : p < nR b := by
  rcases Nat.lt_or_ge p (nR b) with hp | hp
  · exact hp
  · refine absurd ?_ h0
    unfold openF
    rw [rowL_out hp]
    exact ite_self _
theorem choices_sem (k : SK) (b : DBook) : Sem1 125 [bookP k b] (.clo 151 [] [.ptr [bookP k b] 0]) := by
  refine semC_of_exec' mixed Try.func125 (by kernel_rfl) (by kernel_rfl) ac125_ok 1 rfl (by decide) [(.tmp 2)] (by kernel_rfl) ?_
  intro hr C hC hI
  unfold ac125
  simp only [go_sem, Nat.reduceBEq]
  exact retQ_pur rfl rfl (PVle.refl _) rfl
theorem open_get {b : DBook} {h j : Nat} (hj : j < 8) : ((openL b h).map pi)[j]? = some (pi (openF b h j)) := by
  unfold openL arrN
  simp [hj]
theorem choices_it (k : SK) {b : DBook} (ho : okBook b) : IterC Try.prog Fence.wide 151 [.yld, .ptr [bookP k b] 0] (chO b 0) := by
  have h6 := ho.2.1
  obtain ⟨h1, h8, hn⟩ := okR ho
  refine iterC_of_exec' mixed Try.func151 (by kernel_rfl) (by kernel_rfl) ac151_ok 2 rfl (by decide) (by kernel_rfl) ?_
  intro C hC hI
  unfold ac151
  simp only [go_sem, Nat.reduceBEq, List.length_map]
  refine loop_ky b.horses.length (fun _ => True) [0, 1, 12] (fun i => [(13, .p (pi i))]) (fun _ => []) (fun i => some (chO b i)) trivial (by simp [Wk, wkT, wkL, look, AV.lo, keepS]) ?_
  rintro i ⟨hi, -⟩
  simp only [go_sem, Nat.reduceBEq]
  refine ⟨fun h5 => ?_, fun h5 => ?_⟩
  · have hi2 : i < b.horses.length := by omega
    rw [chO_next hi2]
    refine call_pure2 hC (open_sem k ho hi2) rfl (PVleL_refl _) ?_
    rintro r rfl
    simp only [go_sem]
    refine loop_ky 8 (fun _ => True) [0, 1, 3, 12, 13, 18] (fun j => [(19, .p (pi j))]) (fun _ => []) (fun j => some (chI b i j ++ chO b (i + 1))) trivial (by simp [Wk, wkT, wkL, look, AV.lo, keepS]) ?_
    rintro j ⟨hj, -⟩
    simp only [go_sem, Nat.reduceBEq]
    refine ⟨fun h6 => ?_, fun h6 => ?_⟩
    · have hj2 : j < 8 := by omega
      have hget := open_get (b := b) (h := i) hj2
      have hnx := chI_next b i hj2
      by_cases h0 : openF b i j = 0
      · rw [h0] at hget
        rw [if_pos h0, List.nil_append] at hnx
        rw [hnx]
        simp only [go_sem, Nat.reduceBEq, Nat.reduceAdd, Nat.reduceLeDiff, idx8 hj2 hget, putCells, wrap_succ (k := j) (by omega)]
        refine ⟨fun h => h.elim, fun _ => ?_⟩
        exact ⟨⟨j + 1, hj2, trivial⟩, by simp only; omega, by simp [Wk, wkT, wkL, look, AV.lo]⟩
      · rw [if_neg h0, List.singleton_append] at hnx
        rw [hnx, List.cons_append]
        simp only [go_sem, Nat.reduceBEq, Nat.reduceAdd, Nat.reduceLeDiff, idx8 hj2 hget, putCells]
        refine ⟨fun _ => ?_, fun h => absurd h h0⟩
        refine call_pure2 hC (worst_sem k ho hi2 (openF_lt h0)) rfl (PVleL_refl _) ?_
        rintro r rfl
        simp only [go_sem, Nat.reduceBEq, Nat.reduceAdd, Nat.reduceLeDiff]
        simp only [go_sem, wrap_succ (k := j) (by omega), encC]
        refine ⟨PVleL_refl _, ⟨⟨j + 1, hj2, trivial⟩, by simp only; omega, ?_⟩, .inr rfl⟩
        exact by simp [Wk, wkT, wkL, look, AV.lo]
    · have hjn : j = 8 := by omega
      subst hjn
      rw [chI_end, List.nil_append]
      simp only [go_sem, wrap_succ (k := i) (by omega)]
      exact ⟨⟨i + 1, hi2, trivial⟩, by simp only; omega, by simp [Wk, wkT, wkL, look, AV.lo]⟩
  · have hin : i = b.horses.length := by omega
    subst hin
    rw [chO_end]
    exact .inl rfl
def lessC (b : DBook) (v w : Nat × Nat) : Bool := decide (worstI b v.1 v.2 < worstI b w.1 w.2)
def bestF (b : DBook) (v : Nat × Nat) (l : List (Nat × Nat)) : Nat × Nat := l.foldl (fun m c => if lessC b c m then c else m) v
theorem retQ_cellsG {P : Program} {t t' : Nat} {ty ty' : TypeId} {n n' : Option Nat} {R : PV → Prop} {s : AS} {x y : PV} (hs : shapeN P ty = some n) (hs' : shapeN P ty' = some n') (h : stillV s (.ld n (.t t)) = some (.p x)) (h' : stillV s (.ld n' (.t t')) = some (.p y)) (hR : R (.tup [x, y])) : retQ P [.cell t ty, .cell t' ty'] R s :=
  ⟨[.p x, .p y], [x, y], s.loc, .tup [x, y], by simp [resA, hs, hs', h, h'], rfl, PVle.refl _, hR⟩
theorem firstC_sem {b : DBook} {f : FuncId} {fi cap : List PV} {v : Nat × Nat} {zs : List (Nat × Nat)} (hit : IterC Try.prog Fence.wide f (fi ++ .yld :: cap) ((v :: zs).map (encC b))) (hno : (noY.noYL fi && noY.noYL cap) = true) : Sem1 150 [.clo f fi cap] (.tup [.agg [pi v.1, pi v.2, pi (worstI b v.1 v.2)], pb true]) := by
  refine semC_of_exec' mixed Try.func150 (by kernel_rfl) (by kernel_rfl) ac150_ok 1 rfl (by decide) [(.cell 2 106), (.cell 3 4)] (by kernel_rfl) ?_
  intro hr C hC hI
  unfold ac150
  simp only [go_sem, Nat.reduceBEq]
  refine rng_m (ι := Unit) (v :: zs) (encC b) [2, 3] (fun _ _ => [.cells [.p (pi 0), .p (pi 0), .p (pi 0)], .cells [.p (pb false)]]) (fun _ _ => []) (fun _ => some []) (fun i _ => i = 0) () rfl rfl (hI _ _ _ hit) ?_ (fun _ => rfl) (by simp [Wk, wkT, wkL, look, AV.lo, AV.lo.loL, keepS]) rfl ?_ ?_
  · simp only [show noY.noYR ((v :: zs).map (encC b)) = true from noYR_map (fun _ => rfl) _, hno, Bool.and_true]
  · rintro q - hq hok
    subst hok
    rw [List.getElem_cons_zero]
    simp only [go_sem, Nat.reduceBEq, Nat.reduceAdd, Nat.reduceEqDiff, encC, putCells]
    exact retQ_cellsG (n := some 3) (n' := none) (by kernel_rfl) (by kernel_rfl) rfl rfl rfl
  · rintro - hok
    exact absurd hok (by simp)
theorem look1_sem (b : DBook) (v w : Nat × Nat) : Sem1 123 [.agg [pi v.1, pi v.2, pi (worstI b v.1 v.2)], .agg [pi w.1, pi w.2, pi (worstI b w.1 w.2)]] (pb (lessC b v w)) := by
  refine semC_of_exec' mixed Try.func123 (by kernel_rfl) (by kernel_rfl) ac123_ok 2 rfl (by decide) [(.tmp 4)] (by kernel_rfl) ?_
  intro hr C hC hI
  unfold ac123
  simp only [go_sem, Nat.reduceBEq, Nat.reduceAdd]
  exact retQ_one rfl rfl
theorem best_sem {b : DBook} {f : FuncId} {fi cap : List PV} {v : Nat × Nat} {l zs : List (Nat × Nat)} (hlv : l = v :: zs) (hit : IterC Try.prog Fence.wide f (fi ++ .yld :: cap) (l.map (encC b))) (hno : (noY.noYL fi && noY.noYL cap) = true) {R : Nat × Nat} (hR : bestF b v l = R) : Sem1 124 [.agg [fnV 123], .clo f fi cap] (.agg [pi R.1, pi R.2, pi (worstI b R.1 R.2)]) := by
  refine semC_of_exec' mixed Try.func124 (by kernel_rfl) (by kernel_rfl) ac124_ok 2 rfl (by decide) [(.cell 4 106)] (by kernel_rfl) ?_
  intro hr C hC hI
  unfold ac124
  simp only [go_sem, Nat.reduceBEq]
  refine call_pure2 hC (firstC_sem (hlv ▸ hit) hno) rfl (PVleL_refl _) ?_
  rintro r rfl
  simp only [go_sem, Nat.reduceBEq, Nat.reduceAdd, putCells]
  refine rng_m (ι := Unit) l (encC b) [2, 4, 5] (fun i _ => [.cells [.p (fnV 123)], .cells [.p (pi 0), .p (pi 0), .p (pi 0)], .cells [.p (pi (bestF b v (l.take i)).1), .p (pi (bestF b v (l.take i)).2), .p (pi (worstI b (bestF b v (l.take i)).1 (bestF b v (l.take i)).2))]]) (fun _ _ => []) (fun _ => some []) (fun _ _ => True) () rfl rfl (hI _ _ _ hit) ?_ (fun _ => rfl) (by simp [Wk, wkT, wkL, look, AV.lo, AV.lo.loL, keepS, bestF]) trivial ?_ ?_
  · simp only [show noY.noYR (l.map (encC b)) = true from noYR_map (fun _ => rfl) _, hno, Bool.and_true]
  · rintro q - hq -
    have hn : bestF b v (l.take (q + 1)) = if lessC b l[q] (bestF b v (l.take q)) then l[q] else bestF b v (l.take q) := by
      unfold bestF
      rw [List.take_succ_eq_append_getElem hq, List.foldl_append]
      rfl
    obtain ⟨c, hc⟩ : ∃ c, l[q] = c := ⟨_, rfl⟩
    obtain ⟨m, hm⟩ : ∃ m, bestF b v (l.take q) = m := ⟨_, rfl⟩
    rw [hc, hm] at hn
    rw [hc, hm]
    simp only [go_sem, Nat.reduceBEq, Nat.reduceAdd, encC, putCells]
    refine call_pure2 hC (look1_sem b c m) rfl (PVleL_refl _) ?_
    rintro r rfl
    simp only [go_sem, Nat.reduceBEq]
    cases hl : lessC b c m
    · rw [hl, if_neg (by decide)] at hn
      simp only [go_sem]
      refine ⟨(), ?_⟩
      rw [hn]
      exact by simp [Wk, wkT, wkL, look, AV.lo, AV.lo.loL, ABlk.toZ]
    · rw [hl, if_pos rfl] at hn
      simp only [go_sem, Nat.reduceBEq, Nat.reduceAdd, putCells]
      refine ⟨(), ?_⟩
      rw [hn]
      exact by simp [Wk, wkT, wkL, look, AV.lo, AV.lo.loL, ABlk.toZ]
  · rintro - -
    rw [List.take_length, hR]
    simp only [go_sem, Nat.reduceBEq, Nat.reduceAdd, putCells]
    exact retQ_cell (n := some 3) (by kernel_rfl) rfl rfl
def lookI (b : DBook) : Nat × Nat := match chL b 0 with | [] => (0, 0) | v :: zs => bestF b v (v :: zs)
theorem look_sem (k : SK) {b : DBook} (ho : okBook b) (hne : chL b 0 ≠ []) : Sem1 89 [bookP k b] (.agg [pi (lookI b).1, pi (lookI b).2, pi (worstI b (lookI b).1 (lookI b).2)]) := by
  have hit := choices_it k ho
  unfold chO at hit
  obtain ⟨v, zs, hl⟩ : ∃ v zs, chL b 0 = v :: zs := List.exists_cons_of_ne_nil hne
  have hR : bestF b v (chL b 0) = lookI b := by unfold lookI; rw [hl]
  refine semC_of_exec' mixed Try.func89 (by kernel_rfl) (by kernel_rfl) ac89_ok 1 rfl (by decide) [(.cell 2 106)] (by kernel_rfl) ?_
  intro hr C hC hI
  unfold ac89
  simp only [go_sem, Nat.reduceBEq, putCells]
  refine call_pure2 hC (choices_sem k b) rfl (PVleL_refl _) ?_
  rintro r rfl
  simp only [go_sem, Nat.reduceBEq]
  refine call_pure2 hC (best_sem hl hit (by simp only [noY.noYL, noY, noY_rows, noY_rowsE, Bool.and_true]) hR) rfl (PVleL_refl _) ?_
  rintro r rfl
  simp only [go_sem, Nat.reduceBEq, Nat.reduceAdd, putCells]
  exact retQ_cell (n := some 3) (by kernel_rfl) rfl rfl
theorem mem_chL {b : DBook} {h p : Nat} : (h, p) ∈ chL b 0 ↔ h < b.horses.length ∧ p < 8 ∧ openF b h p ≠ 0 := by
  unfold chL chIL
  simp only [List.drop_zero, List.mem_flatMap, List.mem_range, List.mem_map, List.mem_filter, decide_eq_true_eq, Prod.mk.injEq]
  constructor
  · rintro ⟨h', hh, p', ⟨hp, h0⟩, rfl, rfl⟩
    exact ⟨hh, hp, h0⟩
  · rintro ⟨hh, hp, h0⟩
    exact ⟨h, hh, p, ⟨hp, h0⟩, rfl, rfl⟩
theorem knownH_iff {b : DBook} {h : Nat} : knownH b h = true ↔ ∀ p, p < 8 → openF b h p = 0 := by
  unfold knownH
  rw [decide_eq_true_eq]
  constructor
  · intro e p hp
    have hg := open_get (b := b) (h := h) hp
    rw [e] at hg
    have : p = 0 ∨ p = 1 ∨ p = 2 ∨ p = 3 ∨ p = 4 ∨ p = 5 ∨ p = 6 ∨ p = 7 := by omega
    rcases this with rfl | rfl | rfl | rfl | rfl | rfl | rfl | rfl <;> (simp at hg; exact hg.symm)
  · intro h0
    unfold openL arrN
    simp only [List.range, List.range.loop, List.map_cons, List.map_nil]
    simp [h0]
theorem chL_ne {b : DBook} (hk : knownB b = false) : chL b 0 ≠ [] := by
  intro he
  have : knownB b = true := by
    unfold knownB
    refine List.all_eq_true.2 fun h hh => knownH_iff.2 fun p hp => ?_
    rcases Decidable.em (openF b h p = 0) with h0 | h0
    · exact h0
    · have := mem_chL.2 ⟨List.mem_range.1 hh, hp, h0⟩
      rw [he] at this
      exact absurd this (by simp)
  rw [this] at hk
  cases hk
def lookR (b : DBook) : PV := if okBook b then (if knownB b then .tup [pi 0, pi 0, pi 4] else .tup [pi (lookI b).1, pi (lookI b).2, pi 0]) else .tup [pi 0, pi 0, pi 70]
theorem Look_sem (k : SK) (b : DBook) : Sem1 36 [.agg (bookC k b)] (lookR b) := by
  unfold lookR
  refine semC_of_exec' mixed Try.func36 (by kernel_rfl) (by kernel_rfl) ac36_ok 1 rfl (by decide) [(.tmp 2), (.tmp 3), (.tmp 4)] (by kernel_rfl) ?_
  intro hr C hC hI
  unfold ac36
  simp only [go_sem, Nat.reduceBEq, Nat.reduceAdd]
  refine askP hC k b true (fun hne => ?_) (fun h0 => ?_)
  · have ho : ¬ okBook b := fun ho => errI_ne hne ⟨ho, rfl⟩
    have he : errI b true = 70 := by unfold errI; rw [if_neg ho]
    rw [he, if_neg ho]
    simp only [go_sem, Nat.reduceBEq]
    exact ⟨fun _ => retQ_three rfl rfl rfl rfl, fun h => absurd h (by decide)⟩
  obtain ⟨ho, -⟩ := errI_ok h0
  rw [if_pos ho]
  simp only [go_sem, Nat.reduceBEq]
  refine ⟨fun h => h.elim, fun _ => ?_⟩
  refine call_pure2 hC (isKnown_sem k ho) rfl (PVleL_refl _) ?_
  rintro r rfl
  simp only [go_sem, Nat.reduceBEq]
  cases hk : knownB b
  · simp only [go_sem, Nat.reduceBEq]
    refine call_pure2 hC (look_sem k ho (chL_ne hk)) rfl (PVleL_refl _) ?_
    rintro r rfl
    simp only [go_sem, Nat.reduceBEq, Nat.reduceAdd, putCells]
    exact retQ_three rfl rfl rfl rfl
  · simp only [go_sem]
    exact retQ_three rfl rfl rfl rfl
end Go.Proofs.Ythibnlfbdbidjaa
namespace Go.Proofs.Ythibnlfbdbidjaa
open Go.RowKit
/-- A set of sizes. -/
def setB (x : Int) : Prop := 1 ≤ x ∧ x ≤ 15
theorem setB_cases {x : Int} (h : setB x) : ∃ i : Fin 15, x = (i.val : Int) + 1 := ⟨⟨(x - 1).toNat, by unfold setB at h; omega⟩, by unfold setB at h; simp only; omega⟩
theorem meet_comm (x y : Int) : meetB x y = meetB y x := by
  unfold meetB andI
  rw [BitVec.and_comm]
set_option maxRecDepth 100000 in
theorem meet_tab : ∀ i j : Fin 15, meetB ((i.val : Int) + 1) ((j.val : Int) + 1) = (List.range 4).any fun s => hasS ((i.val : Int) + 1) s && hasS ((j.val : Int) + 1) s := by decide
theorem meet_iff {x y : Int} (hx : setB x) (hy : setB y) : meetB x y = true ↔ ∃ s, s < 4 ∧ hasS x s = true ∧ hasS y s = true := by
  obtain ⟨i, rfl⟩ := setB_cases hx
  obtain ⟨j, rfl⟩ := setB_cases hy
  rw [meet_tab, List.any_eq_true]
  constructor
  · rintro ⟨s, hs, h⟩
    rw [Bool.and_eq_true] at h
    exact ⟨s, List.mem_range.1 hs, h.1, h.2⟩
  · rintro ⟨s, hs, h1, h2⟩
    exact ⟨s, List.mem_range.2 hs, by rw [Bool.and_eq_true]; exact ⟨h1, h2⟩⟩
set_option maxRecDepth 100000 in
theorem open_tab : ∀ i : Fin 15, openB ((i.val : Int) + 1) = decide ((listI ((i.val : Int) + 1) 4).length ≠ 1) := by decide
theorem open_iff {x : Int} (hx : setB x) : openB x = decide ((listI x 4).length ≠ 1) := by
  obtain ⟨i, rfl⟩ := setB_cases hx
  exact open_tab i
set_option maxRecDepth 100000 in
theorem of_tab : ∀ i : Fin 15, ∀ s : Fin 4, ofI ((i.val : Int) + 1) s.val = hasS ((i.val : Int) + 1) s.val := by decide
theorem of_has {x : Int} (hx : setB x) {s : Nat} (hs : s < 4) : ofI x s = hasS x s := by
  obtain ⟨i, rfl⟩ := setB_cases hx
  exact of_tab i ⟨s, hs⟩
set_option maxRecDepth 100000 in
theorem sure_tab : ∀ i j : Fin 15, sureB ((i.val : Int) + 1) ((j.val : Int) + 1) = (meetB ((i.val : Int) + 1) ((j.val : Int) + 1) && !openB ((i.val : Int) + 1) && !openB ((j.val : Int) + 1)) := by decide
/-- Surely the same are two that can be, and that are known. -/
theorem sure_eq {x y : Int} (hx : setB x) (hy : setB y) : sureB x y = (meetB x y && !openB x && !openB y) := by
  obtain ⟨i, rfl⟩ := setB_cases hx
  obtain ⟨j, rfl⟩ := setB_cases hy
  exact sure_tab i j
/-- A dapple's set. -/
def hsI (b : DBook) (h p : Nat) : Int := (b.horses.getD h []).getD p 0
theorem hs_set {b : DBook} (ho : okBook b) {h p : Nat} (hh : h < b.horses.length) (hp : p < nR b) : setB (hsI b h p) := by
  have hH := ho.2.2 _ (List.getElem_mem hh)
  have hq : p < b.horses[h].length := by have := hH.1; have := (okR ho).2.2; omega
  have e : hsI b h p = b.horses[h][p] := by simp [hsI, List.getD_eq_getElem?_getD, List.getElem?_eq_getElem hh, List.getElem?_eq_getElem hq]
  rw [e]
  exact hH.2 _ (List.getElem_mem hq)
theorem rowI_hs (b : DBook) (h t p : Nat) : rowI b h t p = hsI b h ((p + t) % nR b) := rfl
theorem rowL_get {b : DBook} (ho : okBook b) {h t q : Nat} (hq : q < nR b) : (rowL b h t).getD q 0 = rowI b h t q := by
  obtain ⟨h1, h8, hn⟩ := okR ho
  unfold rowL rowN
  rw [List.getD_eq_getElem?_getD, List.getElem?_map, List.getElem?_range (by omega)]
  show (if q < nR b then rowI b h t q else 0) = _
  rw [if_pos hq]
theorem rowI_0 {b : DBook} {h q : Nat} (hq : q < nR b) : rowI b h 0 q = hsI b h q := by
  rw [rowI_hs, Nat.add_zero, Nat.mod_eq_of_lt hq]
/-- Do two horses fit in a turn? -/
def fit2 (b : DBook) (p : Int → Int → Bool) (h o t : Nat) : Prop := ∀ q, q < nR b → p (hsI b h ((q + t) % nR b)) (hsI b o q) = true
theorem fit2_iff {b : DBook} (ho : okBook b) {p : Int → Int → Bool} {h o t : Nat} : fitB b p h (rowL b o 0) t = true ↔ fit2 b p h o t := by
  unfold fitB fit2
  rw [List.all_eq_true]
  constructor
  · intro H q hq
    have := H q (List.mem_range.2 hq)
    rwa [rowL_get ho hq, rowI_0 hq] at this
  · intro H q hq
    have hq := List.mem_range.1 hq
    rw [rowL_get ho hq, rowI_0 hq]
    exact H q hq
theorem mem_turns {b : DBook} (ho : okBook b) {p : Int → Int → Bool} {h o t : Nat} : t ∈ turnsP b p h (rowL b o 0) ↔ t < nR b ∧ fit2 b p h o t := by
  unfold turnsP
  rw [List.mem_filter, List.mem_range, fit2_iff ho]
def backT (r t : Nat) : Nat := (r - t) % r
theorem back_lt {r t : Nat} (h : 1 ≤ r) : backT r t < r := Nat.mod_lt _ h
theorem back_mod {r t q : Nat} (ht : t < r) (hq : q < r) : ((q + t) % r + backT r t) % r = q := by
  unfold backT
  rcases Nat.eq_zero_or_pos t with rfl | h0
  · simp [Nat.mod_eq_of_lt hq]
  · rw [Nat.mod_eq_of_lt (show r - t < r by omega)]
    rcases Nat.lt_or_ge (q + t) r with h | h
    · rw [Nat.mod_eq_of_lt h, show q + t + (r - t) = q + r by omega, Nat.add_mod_right, Nat.mod_eq_of_lt hq]
    · rw [Nat.mod_eq_sub_mod h, Nat.mod_eq_of_lt (show q + t - r < r by omega), show q + t - r + (r - t) = q by omega, Nat.mod_eq_of_lt hq]
theorem back_back {r t : Nat} (ht : t < r) : backT r (backT r t) = t := by
  unfold backT
  rcases Nat.eq_zero_or_pos t with rfl | h0
  · simp
  · rw [Nat.mod_eq_of_lt (show r - t < r by omega), show r - (r - t) = t by omega, Nat.mod_eq_of_lt ht]
theorem fit_back {b : DBook} {p : Int → Int → Bool} (hp : ∀ x y, p x y = p y x) {h o t : Nat} (ht : t < nR b) (H : fit2 b p h o t) : fit2 b p o h (backT (nR b) t) := by
  intro q hq
  have h1 : 1 ≤ nR b := by omega
  have h2 := H ((q + backT (nR b) t) % nR b) (Nat.mod_lt _ h1)
  rw [hp]
  have e := back_mod (back_lt (t := t) h1) hq
  rw [back_back ht] at e
  rwa [e] at h2
theorem fit_iff {b : DBook} {p : Int → Int → Bool} (hp : ∀ x y, p x y = p y x) {h o t : Nat} (ht : t < nR b) : fit2 b p o h (backT (nR b) t) ↔ fit2 b p h o t := by
  constructor
  · intro H
    have := fit_back hp (back_lt (t := t) (by omega)) H
    rwa [back_back ht] at this
  · exact fit_back hp ht
theorem sure_comm (x y : Int) : sureB x y = sureB y x := by
  unfold sureB
  by_cases h : x = y
  · rw [h]
  · rw [decide_eq_false h, decide_eq_false (fun e => h e.symm), Bool.false_and, Bool.false_and]
theorem turns_nil_comm {b : DBook} (ho : okBook b) {p : Int → Int → Bool} (hp : ∀ x y, p x y = p y x) (h o : Nat) : turnsP b p h (rowL b o 0) = [] ↔ turnsP b p o (rowL b h 0) = [] := by
  have key : ∀ h o, turnsP b p h (rowL b o 0) = [] → turnsP b p o (rowL b h 0) = [] := by
    intro h o e
    rw [List.eq_nil_iff_forall_not_mem]
    intro t ht
    obtain ⟨h1, h2⟩ := (mem_turns ho).1 ht
    have := (mem_turns ho).2 ⟨back_lt (by omega), fit_back hp h1 h2⟩
    rw [e] at this
    exact absurd this (by simp)
  exact ⟨key h o, key o h⟩
theorem turns_len {b : DBook} (ho : okBook b) {p : Int → Int → Bool} (hp : ∀ x y, p x y = p y x) (h o : Nat) : (turnsP b p h (rowL b o 0)).length = (turnsP b p o (rowL b h 0)).length := by
  obtain ⟨h1, h8, hn⟩ := okR ho
  have hperm : ((List.range (nR b)).map (backT (nR b))).Perm (List.range (nR b)) := by
    generalize nR b = r at *
    have : r = 1 ∨ r = 2 ∨ r = 3 ∨ r = 4 ∨ r = 5 ∨ r = 6 ∨ r = 7 ∨ r = 8 := by omega
    rcases this with rfl | rfl | rfl | rfl | rfl | rfl | rfl | rfl <;> decide
  have h2 := (hperm.filter (fitB b p o (rowL b h 0))).length_eq
  unfold turnsP
  rw [← h2, List.filter_map, List.length_map]
  congr 1
  refine List.filter_congr fun t ht => ?_
  have ht := List.mem_range.1 ht
  rw [Bool.eq_iff_iff, fit2_iff ho]
  show _ ↔ fitB b p o (rowL b h 0) (backT (nR b) t) = true
  rw [fit2_iff ho, fit_iff hp ht]
/-- How much two horses are the same. -/
theorem same_eq {b : DBook} (ho : okBook b) (h o : Nat) : sameI b h o = if turnsP b sureB h (rowL b o 0) = [] then (if turnsP b meetB h (rowL b o 0) = [] then 0 else 1) else 2 := by
  unfold sameI
  have e0 : likeAt b h (rowL b o 0) 1 = 0 := by
    show (if turnsP b (pL 0) h (rowL b o 0) = [] then (0 : Int) else maxI true 0 0) = 0
    split <;> rfl
  show (if turnsP b (pL 2) h (rowL b o 0) = [] then (if turnsP b (pL 1) h (rowL b o 0) = [] then likeAt b h (rowL b o 0) 1 else maxI true (likeAt b h (rowL b o 0) 1) 1) else maxI true (if turnsP b (pL 1) h (rowL b o 0) = [] then likeAt b h (rowL b o 0) 1 else maxI true (likeAt b h (rowL b o 0) 1) 1) 2) = _
  rw [e0]
  rw [show pL 2 = sureB from rfl, show pL 1 = meetB from rfl]
  split
  · split <;> rfl
  · split <;> rfl
theorem same_comm {b : DBook} (ho : okBook b) (h o : Nat) : sameI b h o = sameI b o h := by
  rw [same_eq ho, same_eq ho]
  simp only [turns_nil_comm ho sure_comm h o, turns_nil_comm ho meet_comm h o]
/-- Is all of a horse known? -/
def allK (b : DBook) (h : Nat) : Prop := ∀ p, p < nR b → openB (hsI b h p) = false
theorem fit_sure {b : DBook} (ho : okBook b) {h o t : Nat} (hh : h < b.horses.length) (hoo : o < b.horses.length) (ht : t < nR b) : fit2 b sureB h o t ↔ fit2 b meetB h o t ∧ allK b h ∧ allK b o := by
  have h1 : 1 ≤ nR b := by omega
  constructor
  · intro H
    have H2 : ∀ q, q < nR b → meetB (hsI b h ((q + t) % nR b)) (hsI b o q) = true ∧ openB (hsI b h ((q + t) % nR b)) = false ∧ openB (hsI b o q) = false := by
      intro q hq
      have := H q hq
      rw [sure_eq (hs_set ho hh (Nat.mod_lt _ h1)) (hs_set ho hoo hq)] at this
      simpa [and_assoc] using this
    refine ⟨fun q hq => (H2 q hq).1, fun p hp => ?_, fun p hp => (H2 p hp).2.2⟩
    have e := back_mod (back_lt (t := t) h1) hp
    rw [back_back ht] at e
    have := (H2 _ (Nat.mod_lt (p + backT (nR b) t) h1)).2.1
    rwa [e] at this
  · rintro ⟨H, k1, k2⟩ q hq
    rw [sure_eq (hs_set ho hh (Nat.mod_lt _ h1)) (hs_set ho hoo hq), H q hq, k1 _ (Nat.mod_lt _ h1), k2 q hq]
    rfl
theorem same_two {b : DBook} (ho : okBook b) {h o : Nat} (hh : h < b.horses.length) (hoo : o < b.horses.length) : sameI b h o = 2 ↔ turnsI b h o ≠ [] ∧ allK b h ∧ allK b o := by
  rw [same_eq ho]
  have key : turnsP b sureB h (rowL b o 0) ≠ [] ↔ turnsI b h o ≠ [] ∧ allK b h ∧ allK b o := by
    constructor
    · intro hne
      obtain ⟨t, ht⟩ := List.exists_mem_of_ne_nil _ hne
      obtain ⟨h1, h2⟩ := (mem_turns ho).1 ht
      obtain ⟨h3, h4, h5⟩ := (fit_sure ho hh hoo h1).1 h2
      exact ⟨List.ne_nil_of_mem ((mem_turns ho).2 ⟨h1, h3⟩), h4, h5⟩
    · rintro ⟨hne, h4, h5⟩
      obtain ⟨t, ht⟩ := List.exists_mem_of_ne_nil _ hne
      obtain ⟨h1, h2⟩ := (mem_turns ho).1 ht
      exact List.ne_nil_of_mem ((mem_turns ho).2 ⟨h1, (fit_sure ho hh hoo h1).2 ⟨h2, h4, h5⟩⟩)
  split
  · rename_i h0
    constructor
    · intro e; split at e <;> omega
    · intro e; exact absurd h0 (key.2 e)
  · rename_i h0
    exact ⟨fun _ => key.1 h0, fun _ => rfl⟩
theorem same_pos {b : DBook} (ho : okBook b) {h o : Nat} (hh : h < b.horses.length) (hoo : o < b.horses.length) : sameI b h o ≠ 0 ↔ turnsI b h o ≠ [] := by
  have h2 := same_two ho hh hoo
  rw [same_eq ho] at h2 ⊢
  split
  · rename_i h0
    rw [show turnsI b h o = turnsP b meetB h (rowL b o 0) from rfl]
    split
    · rename_i h1; simp [h1]
    · rename_i h1; simp [h1]
  · rename_i h0
    rw [if_neg h0] at h2
    exact ⟨fun _ => (h2.1 rfl).1, fun _ => by omega⟩
theorem same_range {b : DBook} (ho : okBook b) (h o : Nat) : 0 ≤ sameI b h o ∧ sameI b h o ≤ 2 := by
  rw [same_eq ho]
  split
  · split <;> omega
  · omega
end Go.Proofs.Ythibnlfbdbidjaa
