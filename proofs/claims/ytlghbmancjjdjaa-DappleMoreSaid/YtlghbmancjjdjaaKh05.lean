/- Contracts of dapple: where it is best to look. Mathematics of dapple: sets, turns. Mathematics of dapple: the first of lists. Mathematics of dapple: which horses must go. Mathematics of dapple: rows that no horse has. -/
import Derived.Test.YtlghbmancjjdjaaKh04
namespace Go.Proofs.Ytlghbmancjjdjaa
open Go.RowKit
def ac152 : AC := (AC.seq (AC.ops [(AOp.mk (some 2) (AK.box 1 (AX.t 0)) none 0 false true), (AOp.mk (some 3) (AK.box 2 (AX.t 1)) none 1 false true), (AOp.mk (some 4) (AK.mv (AX.c (PV.val (Value.int IntKind.i64 0)))) none 2 false true)]) (AC.seq (AC.ops [(AOp.mk (some 5) (AK.new (PV.val (Value.int IntKind.i64 0))) none 0 false true), (AOp.mk none (AK.st 1 (AX.t 5) (AX.c (PV.val (Value.int IntKind.i64 0)))) none 1 false true)]) (AC.seq (AC.seq (AC.ops [(AOp.mk (some 7) (AK.ld none (AX.t 2)) none 0 true false), (AOp.mk (some 8) (AK.nilc (AX.t 7)) none 1 true false), (AOp.mk (some 9) (AK.fadr 2 (AX.t 8)) none 2 true false), (AOp.mk (some 10) (AK.ld none (AX.t 9)) none 3 true false), (AOp.mk (some 11) (AK.ld (some 2) (AX.t 3)) none 4 true false), (AOp.mk (some 12) (AK.lkp [CK.i, CK.i] true (PV.agg [(PV.val (Value.int IntKind.i64 0)), (PV.val (Value.int IntKind.i64 0)), (PV.val (Value.int IntKind.i64 0)), (PV.val (Value.int IntKind.i64 0)), (PV.val (Value.int IntKind.i64 0)), (PV.val (Value.int IntKind.i64 0)), (PV.val (Value.int IntKind.i64 0)), (PV.val (Value.int IntKind.i64 0))]) false (AX.t 10) (AX.t 11)) none 5 true true), (AOp.mk (some 13) (AK.idx 1 8 none (AX.t 12) (AX.c (PV.val (Value.int IntKind.i64 0)))) none 6 true true), (AOp.mk (some 14) (AK.call 143 [(AX.t 13)]) none 7 false true)]) (AC.block 0 (AC.rng (AX.t 14) [15] (AC.ops [(AOp.mk (some 6) (AK.mv (AX.t 15)) none 0 false true)]) (AC.block 1 (AC.ops [(AOp.mk (some 16) (AK.ld none (AX.t 5)) none 0 true false), (AOp.mk (some 17) (AK.ld none (AX.t 2)) none 1 true false), (AOp.mk (some 18) (AK.ld (some 2) (AX.t 3)) none 2 true false), (AOp.mk (some 19) (AK.mv (AX.t 6)) none 3 true false), (AOp.mk (some 20) (AK.call 166 [(AX.t 17), (AX.t 18), (AX.t 19)]) none 4 false false), (AOp.mk (some 21) (AK.call 167 [(AX.t 20)]) none 5 false false), (AOp.mk (some 22) (AK.bslice false 3 1 1 [(PV.val (Value.int IntKind.i64 0))] [(0, (1, (AX.t 21)))]) none 6 false false), (AOp.mk (some 23) (AK.call 108 [(AX.t 16), (AX.t 22)]) none 7 false true), (AOp.mk none (AK.st 1 (AX.t 5) (AX.t 23)) none 8 false true)]))))) (AC.seq (AC.ops [(AOp.mk (some 24) (AK.ld none (AX.t 5)) none 0 false true), (AOp.mk (some 4) (AK.mv (AX.t 24)) none 1 false true)]) AC.ret))))
theorem ac152_ok : cCode Try.prog (fun _ => false) Try.f152.ntmps (Try.f152.body.getD .skip) = some ac152 := by kernel_rfl
def ac125 : AC := (AC.seq (AC.ops [(AOp.mk (some 1) (AK.box 1 (AX.t 0)) none 0 false true), (AOp.mk (some 2) (AK.mv (AX.c (PV.val Value.nilFunc))) none 1 false true)]) (AC.seq (AC.ops [(AOp.mk (some 3) (AK.mkf 151 [] [(AX.t 1)]) none 0 false true), (AOp.mk (some 2) (AK.mv (AX.t 3)) none 1 false true)]) AC.ret))
theorem ac125_ok : cCode Try.prog (fun _ => false) Try.f125.ntmps (Try.f125.body.getD .skip) = some ac125 := by kernel_rfl
def ac151 : AC := (AC.seq (AC.ops [(AOp.mk (some 7) (AK.ld none (AX.t 1)) none 0 false true), (AOp.mk (some 8) (AK.nilc (AX.t 7)) none 1 false true), (AOp.mk (some 9) (AK.fadr 0 (AX.t 8)) none 2 false true), (AOp.mk (some 10) (AK.fadr 1 (AX.t 9)) none 3 false true), (AOp.mk (some 11) (AK.ld none (AX.t 10)) none 4 false true), (AOp.mk (some 12) (AK.len (AX.t 11)) none 5 false true), (AOp.mk (some 13) (AK.mv (AX.c (PV.val (Value.int IntKind.i64 0)))) none 6 false true)]) (AC.block 0 (AC.loop (AC.seq (AC.ops [(AOp.mk (some 14) (AK.bin false BinOp.lss (AX.t 13) (AX.t 12)) none 0 false true)]) (AC.seq (AC.cond (AX.t 14) AC.skip (AC.exit 0)) (AC.seq (AC.block 1 (AC.seq (AC.ops [(AOp.mk (some 15) (AK.mv (AX.t 13)) none 0 false true), (AOp.mk (some 3) (AK.mv (AX.t 15)) none 1 false true)]) (AC.seq (AC.ops [(AOp.mk (some 16) (AK.ld none (AX.t 1)) none 0 false true), (AOp.mk (some 17) (AK.mv (AX.t 3)) none 1 false true), (AOp.mk (some 18) (AK.call 122 [(AX.t 16), (AX.t 17)]) none 2 false true), (AOp.mk (some 19) (AK.mv (AX.c (PV.val (Value.int IntKind.i64 0)))) none 3 false true)]) (AC.block 2 (AC.loop (AC.seq (AC.ops [(AOp.mk (some 20) (AK.bin false BinOp.lss (AX.t 19) (AX.c (PV.val (Value.int IntKind.i64 8)))) none 0 false true)]) (AC.seq (AC.cond (AX.t 20) AC.skip (AC.exit 2)) (AC.seq (AC.block 3 (AC.seq (AC.ops [(AOp.mk (some 21) (AK.mv (AX.t 19)) none 0 false true), (AOp.mk (some 22) (AK.idx 1 8 none (AX.t 18) (AX.t 19)) none 1 false true), (AOp.mk (some 4) (AK.mv (AX.t 21)) none 2 false true), (AOp.mk (some 5) (AK.mv (AX.t 22)) none 3 false true)]) (AC.seq (AC.ops [(AOp.mk (some 23) (AK.mv (AX.t 3)) none 0 false true), (AOp.mk (some 24) (AK.mv (AX.t 4)) none 1 false true), (AOp.mk (some 25) (AK.build [(PV.val (Value.int IntKind.i64 0)), (PV.val (Value.int IntKind.i64 0))] [(0, (1, (AX.t 23))), (1, (1, (AX.t 24)))]) none 2 false true), (AOp.mk (some 6) (AK.new (PV.agg [(PV.val (Value.int IntKind.i64 0)), (PV.val (Value.int IntKind.i64 0))])) none 3 false true), (AOp.mk none (AK.st 2 (AX.t 6) (AX.t 25)) none 4 false true)]) (AC.seq (AC.ops [(AOp.mk (some 26) (AK.mv (AX.t 5)) none 0 true true), (AOp.mk (some 27) (AK.bin false BinOp.neq (AX.t 26) (AX.c (PV.val (Value.int IntKind.i64 0)))) none 1 true true), (AOp.mk (some 28) (AK.mv (AX.t 27)) none 2 true true), (AOp.mk (some 29) (AK.mv (AX.t 0)) (some (28, true)) 3 true false), (AOp.mk (some 30) (AK.ld (some 2) (AX.t 6)) (some (28, true)) 4 true false), (AOp.mk (some 31) (AK.ld none (AX.t 1)) (some (28, true)) 5 true false), (AOp.mk (some 32) (AK.ld (some 2) (AX.t 6)) (some (28, true)) 6 true false), (AOp.mk (some 33) (AK.call 152 [(AX.t 31), (AX.t 32)]) (some (28, true)) 7 false false), (AOp.mk (some 34) (AK.build [(PV.val (Value.int IntKind.i64 0)), (PV.val (Value.int IntKind.i64 0)), (PV.val (Value.int IntKind.i64 0))] [(0, (2, (AX.t 30))), (2, (1, (AX.t 33)))]) (some (28, true)) 8 true false), (AOp.mk (some 35) (AK.callv (AX.t 29) [(AX.t 34)]) (some (28, true)) 9 false true), (AOp.mk (some 36) (AK.un UnOp.not (AX.t 35)) (some (28, true)) 10 true true), (AOp.mk (some 37) (AK.pick (AX.t 28) (AX.t 36) (AX.c (PV.val (Value.bool false)))) none 11 true true)]) (AC.cond (AX.t 37) AC.ret AC.skip))))) (AC.ops [(AOp.mk (some 38) (AK.bin false BinOp.add (AX.t 19) (AX.c (PV.val (Value.int IntKind.i64 1)))) none 0 false true), (AOp.mk (some 19) (AK.mv (AX.t 38)) none 1 false true)]))))))))) (AC.ops [(AOp.mk (some 39) (AK.bin false BinOp.add (AX.t 13) (AX.c (PV.val (Value.int IntKind.i64 1)))) none 0 false true), (AOp.mk (some 13) (AK.mv (AX.t 39)) none 1 false true)])))))))
theorem ac151_ok : cCode Try.prog (fun _ => false) Try.f151.ntmps (Try.f151.body.getD .skip) = some ac151 := by kernel_rfl
def ac150 : AC := (AC.seq (AC.ops [(AOp.mk (some 2) (AK.new (PV.agg [(PV.val (Value.int IntKind.i64 0)), (PV.val (Value.int IntKind.i64 0)), (PV.val (Value.int IntKind.i64 0))])) none 0 false true), (AOp.mk (some 3) (AK.new (PV.val (Value.bool false))) none 1 false true)]) (AC.seq (AC.seq (AC.ops [(AOp.mk (some 6) (AK.mv (AX.t 0)) none 0 false true)]) (AC.block 0 (AC.rng (AX.t 6) [7] (AC.ops [(AOp.mk (some 4) (AK.new (PV.agg [(PV.val (Value.int IntKind.i64 0)), (PV.val (Value.int IntKind.i64 0)), (PV.val (Value.int IntKind.i64 0))])) none 0 false true), (AOp.mk none (AK.st 3 (AX.t 4) (AX.t 7)) none 1 false true)]) (AC.block 1 (AC.seq (AC.ops [(AOp.mk (some 8) (AK.ld (some 3) (AX.t 4)) none 0 false true), (AOp.mk none (AK.st 3 (AX.t 2) (AX.t 8)) none 1 false true), (AOp.mk none (AK.st 1 (AX.t 3) (AX.c (PV.val (Value.bool true)))) none 2 false true)]) AC.ret))))) (AC.seq (AC.ops [(AOp.mk (some 5) (AK.new (PV.agg [(PV.val (Value.int IntKind.i64 0)), (PV.val (Value.int IntKind.i64 0)), (PV.val (Value.int IntKind.i64 0))])) none 0 false true)]) (AC.seq (AC.ops [(AOp.mk (some 9) (AK.ld (some 3) (AX.t 5)) none 0 false true), (AOp.mk none (AK.st 3 (AX.t 2) (AX.t 9)) none 1 false true), (AOp.mk none (AK.st 1 (AX.t 3) (AX.c (PV.val (Value.bool false)))) none 2 false true)]) AC.ret))))
theorem ac150_ok : cCode Try.prog (fun _ => false) Try.f150.ntmps (Try.f150.body.getD .skip) = some ac150 := by kernel_rfl
def ac123 : AC := (AC.seq (AC.ops [(AOp.mk (some 2) (AK.box 3 (AX.t 0)) none 0 false true), (AOp.mk (some 3) (AK.box 3 (AX.t 1)) none 1 false true), (AOp.mk (some 4) (AK.mv (AX.c (PV.val (Value.bool false)))) none 2 false true)]) (AC.seq (AC.ops [(AOp.mk (some 5) (AK.fadr 2 (AX.t 2)) none 0 false true), (AOp.mk (some 6) (AK.ld none (AX.t 5)) none 1 false true), (AOp.mk (some 7) (AK.fadr 2 (AX.t 3)) none 2 false true), (AOp.mk (some 8) (AK.ld none (AX.t 7)) none 3 false true), (AOp.mk (some 9) (AK.bin false BinOp.lss (AX.t 6) (AX.t 8)) none 4 false true), (AOp.mk (some 4) (AK.mv (AX.t 9)) none 5 false true)]) AC.ret))
theorem ac123_ok : cCode Try.prog (fun _ => false) Try.f123.ntmps (Try.f123.body.getD .skip) = some ac123 := by kernel_rfl
def ac124 : AC := (AC.seq (AC.ops [(AOp.mk (some 2) (AK.box 1 (AX.t 0)) none 0 false true), (AOp.mk (some 4) (AK.new (PV.agg [(PV.val (Value.int IntKind.i64 0)), (PV.val (Value.int IntKind.i64 0)), (PV.val (Value.int IntKind.i64 0))])) none 1 false true)]) (AC.seq (AC.ops [(AOp.mk (some 9) (AK.mv (AX.t 1)) none 0 false true), (AOp.mk (some 10) (AK.call 150 [(AX.t 9)]) none 1 false true), (AOp.mk (some 8) (AK.mv (AX.t 10)) none 2 false true), (AOp.mk (some 11) (AK.ext (AX.t 8) 0) none 3 false true), (AOp.mk (some 12) (AK.ext (AX.t 8) 1) none 4 false true), (AOp.mk (some 5) (AK.new (PV.agg [(PV.val (Value.int IntKind.i64 0)), (PV.val (Value.int IntKind.i64 0)), (PV.val (Value.int IntKind.i64 0))])) none 5 false true), (AOp.mk none (AK.st 3 (AX.t 5) (AX.t 11)) none 6 false true), (AOp.mk (some 6) (AK.mv (AX.t 12)) none 7 false true)]) (AC.seq (AC.seq (AC.ops [(AOp.mk (some 13) (AK.mv (AX.t 1)) none 0 false true)]) (AC.block 0 (AC.rng (AX.t 13) [14] (AC.ops [(AOp.mk (some 7) (AK.new (PV.agg [(PV.val (Value.int IntKind.i64 0)), (PV.val (Value.int IntKind.i64 0)), (PV.val (Value.int IntKind.i64 0))])) none 0 false true), (AOp.mk none (AK.st 3 (AX.t 7) (AX.t 14)) none 1 false true)]) (AC.block 1 (AC.seq (AC.ops [(AOp.mk (some 15) (AK.fadr 0 (AX.t 2)) none 0 false true), (AOp.mk (some 16) (AK.ld none (AX.t 15)) none 1 false true), (AOp.mk (some 17) (AK.ld (some 3) (AX.t 7)) none 2 false true), (AOp.mk (some 18) (AK.ld (some 3) (AX.t 5)) none 3 false true), (AOp.mk (some 19) (AK.callv (AX.t 16) [(AX.t 17), (AX.t 18)]) none 4 false true)]) (AC.cond (AX.t 19) (AC.ops [(AOp.mk (some 20) (AK.ld (some 3) (AX.t 7)) none 0 false true), (AOp.mk none (AK.st 3 (AX.t 5) (AX.t 20)) none 1 false true)]) AC.skip)))))) (AC.seq (AC.ops [(AOp.mk (some 21) (AK.ld (some 3) (AX.t 5)) none 0 false true), (AOp.mk none (AK.st 3 (AX.t 4) (AX.t 21)) none 1 false true)]) AC.ret))))
theorem ac124_ok : cCode Try.prog (fun _ => false) Try.f124.ntmps (Try.f124.body.getD .skip) = some ac124 := by kernel_rfl
def ac89 : AC := (AC.seq (AC.ops [(AOp.mk (some 2) (AK.new (PV.agg [(PV.val (Value.int IntKind.i64 0)), (PV.val (Value.int IntKind.i64 0)), (PV.val (Value.int IntKind.i64 0))])) none 0 false true)]) (AC.seq (AC.ops [(AOp.mk (some 4) (AK.build [(PV.val Value.nilFunc)] [(0, (1, (AX.c (PV.val (Value.func (Fn.func 123) #[] #[])))))]) none 0 false true), (AOp.mk (some 3) (AK.new (PV.agg [(PV.val Value.nilFunc)])) none 1 false true), (AOp.mk none (AK.st 1 (AX.t 3) (AX.t 4)) none 2 false true)]) (AC.seq (AC.ops [(AOp.mk (some 5) (AK.ld (some 1) (AX.t 3)) none 0 true false), (AOp.mk (some 6) (AK.mv (AX.t 0)) none 1 true false), (AOp.mk (some 7) (AK.call 125 [(AX.t 6)]) none 2 false false), (AOp.mk (some 8) (AK.call 124 [(AX.t 5), (AX.t 7)]) none 3 false true), (AOp.mk none (AK.st 3 (AX.t 2) (AX.t 8)) none 4 false true)]) AC.ret)))
theorem ac89_ok : cCode Try.prog (fun _ => false) Try.f89.ntmps (Try.f89.body.getD .skip) = some ac89 := by kernel_rfl
def ac36 : AC := (AC.seq (AC.ops [(AOp.mk (some 1) (AK.box 2 (AX.t 0)) none 0 false true), (AOp.mk (some 2) (AK.mv (AX.c (PV.val (Value.int IntKind.i64 0)))) none 1 false true), (AOp.mk (some 3) (AK.mv (AX.c (PV.val (Value.int IntKind.i64 0)))) none 2 false true), (AOp.mk (some 4) (AK.mv (AX.c (PV.val (Value.int IntKind.i64 0)))) none 3 false true)]) (AC.seq (AC.ops [(AOp.mk (some 8) (AK.ld (some 2) (AX.t 1)) none 0 false true), (AOp.mk (some 9) (AK.call 64 [(AX.t 8), (AX.c (PV.val (Value.bool true)))]) none 1 false true), (AOp.mk (some 7) (AK.mv (AX.t 9)) none 2 false true), (AOp.mk (some 10) (AK.ext (AX.t 7) 0) none 3 false true), (AOp.mk (some 11) (AK.ext (AX.t 7) 1) none 4 false true), (AOp.mk (some 5) (AK.mv (AX.t 10)) none 5 false true), (AOp.mk (some 4) (AK.mv (AX.t 11)) none 6 false true)]) (AC.seq (AC.seq (AC.ops [(AOp.mk (some 12) (AK.mv (AX.t 4)) none 0 false true), (AOp.mk (some 13) (AK.bin false BinOp.neq (AX.t 12) (AX.c (PV.val (Value.int IntKind.i64 0)))) none 1 false true)]) (AC.cond (AX.t 13) (AC.seq (AC.ops [(AOp.mk (some 14) (AK.mv (AX.t 4)) none 0 false true), (AOp.mk (some 2) (AK.mv (AX.c (PV.val (Value.int IntKind.i64 0)))) none 1 false true), (AOp.mk (some 3) (AK.mv (AX.c (PV.val (Value.int IntKind.i64 0)))) none 2 false true), (AOp.mk (some 4) (AK.mv (AX.t 14)) none 3 false true)]) AC.ret) AC.skip)) (AC.seq (AC.seq (AC.ops [(AOp.mk (some 15) (AK.mv (AX.t 5)) none 0 false true), (AOp.mk (some 16) (AK.call 88 [(AX.t 15)]) none 1 false true)]) (AC.cond (AX.t 16) (AC.seq (AC.ops [(AOp.mk (some 2) (AK.mv (AX.c (PV.val (Value.int IntKind.i64 0)))) none 0 false true), (AOp.mk (some 3) (AK.mv (AX.c (PV.val (Value.int IntKind.i64 0)))) none 1 false true), (AOp.mk (some 4) (AK.mv (AX.c (PV.val (Value.int IntKind.i64 4)))) none 2 false true)]) AC.ret) AC.skip)) (AC.seq (AC.ops [(AOp.mk (some 17) (AK.mv (AX.t 5)) none 0 false true), (AOp.mk (some 18) (AK.call 89 [(AX.t 17)]) none 1 false true), (AOp.mk (some 6) (AK.new (PV.agg [(PV.val (Value.int IntKind.i64 0)), (PV.val (Value.int IntKind.i64 0)), (PV.val (Value.int IntKind.i64 0))])) none 2 false true), (AOp.mk none (AK.st 3 (AX.t 6) (AX.t 18)) none 3 false true)]) (AC.seq (AC.ops [(AOp.mk (some 19) (AK.fadr 0 (AX.t 6)) none 0 true false), (AOp.mk (some 20) (AK.fadr 0 (AX.t 19)) none 1 true false), (AOp.mk (some 21) (AK.ld none (AX.t 20)) none 2 true false), (AOp.mk (some 22) (AK.fadr 0 (AX.t 6)) none 3 true false), (AOp.mk (some 23) (AK.fadr 1 (AX.t 22)) none 4 true false), (AOp.mk (some 24) (AK.ld none (AX.t 23)) none 5 true false), (AOp.mk (some 2) (AK.mv (AX.t 21)) none 6 true false), (AOp.mk (some 3) (AK.mv (AX.t 24)) none 7 true true), (AOp.mk (some 4) (AK.mv (AX.c (PV.val (Value.int IntKind.i64 0)))) none 8 true true)]) AC.ret))))))
theorem ac36_ok : cCode Try.prog (fun _ => false) Try.f36.ntmps (Try.f36.body.getD .skip) = some ac36 := by kernel_rfl
def worstF (b : DBook) (h p : Nat) (l : List Nat) : Int := l.foldl (fun m s => maxI true m (clashI (knowB b h p s))) 0
def worstI (b : DBook) (h p : Nat) : Int := worstF b h p (sizesL ((rowL b h p).getD 0 0))
theorem worst_sem (k : SK) {b : DBook} (ho : okBook b) {h p : Nat} (hh : h < b.horses.length) (hp : p < nR b) : Sem1 152 [bookP k b, .agg [pi h, pi p]] (pi (worstI b h p)) := by
  have hrl : (rowL b h p).length = 8 := rowN_len ..
  have hr0 : ((rowL b h p).map pi)[0]? = some (pi ((rowL b h p).getD 0 0)) := cell_ints (by omega)
  unfold worstI
  obtain ⟨x, hx⟩ : ∃ x, (rowL b h p).getD 0 0 = x := ⟨_, rfl⟩
  rw [hx] at hr0 ⊢
  refine semC_of_exec' mixed Try.func152 (by kernel_rfl) (by kernel_rfl) ac152_ok 2 rfl (by decide) [(.tmp 4)] (by kernel_rfl) ?_
  intro hr C hC hI
  unfold ac152
  simp only [go_sem, Nat.reduceBEq, Nat.reduceAdd, look_row hh hp, Option.map_some, putCells]
  simp only [go_sem, Nat.reduceBEq, show idxS 1 8 none (.p (.agg ((rowL b h p).map pi))) (.p (pi 0)) = _ from idx8 (j := 0) (by omega) hr0]
  refine call_pure2 hC (sizes_sem x) rfl (PVleL_refl _) ?_
  rintro r rfl
  simp only [go_sem]
  refine rng_m (ι := Unit) (sizesL x) encT [2, 3, 5] (fun q _ => [.cells [.p (bookP k b)], .cells [.p (pi h), .p (pi p)], .cells [.p (pi (worstF b h p ((sizesL x).take q)))]]) (fun _ _ => []) (fun _ => some []) (fun _ _ => True) () rfl rfl (hI _ _ _ (sizes_it x)) ?_ (fun _ => rfl) (by simp [Wk, wkT, wkL, look, AV.lo, AV.lo.loL, keepS, worstF]) trivial ?_ ?_
  · simp only [noY_turns, noY.noYL, noY, Bool.and_true]
  · rintro q - hq -
    obtain ⟨hs4, hsx⟩ := mem_sizes.1 (List.getElem_mem hq)
    have hn : worstF b h p ((sizesL x).take (q + 1)) = maxI true (worstF b h p ((sizesL x).take q)) (clashI (knowB b h p (sizesL x)[q])) := by
      unfold worstF
      rw [List.take_succ_eq_append_getElem hq, List.foldl_append]
      rfl
    simp only [go_sem, Nat.reduceBEq, Nat.reduceAdd, encT]
    refine call_pure2 hC (knowing_sem k ho h p hs4) rfl (PVleL_refl _) ?_
    rintro r rfl
    simp only [go_sem, Nat.reduceBEq]
    refine call_pure2 hC (clashes_sem .sh (knowB_ok ho h p hs4)) rfl (PVleL_refl _) ?_
    rintro r rfl
    simp only [go_sem, Nat.reduceBEq]
    refine call_pure2 hC (greatest_sem .full _ _) rfl (PVleL_refl _) ?_
    rintro r rfl
    simp only [go_sem, Nat.reduceBEq, putCells]
    refine ⟨(), ?_⟩
    rw [hn]
    exact by simp [Wk, wkT, wkL, look, AV.lo, AV.lo.loL, ABlk.toZ]
  · rintro - -
    rw [List.take_length]
    simp only [go_sem, Nat.reduceBEq]
    exact retQ_one rfl rfl
def encC (b : DBook) (v : Nat × Nat) : List PV := [.agg [pi v.1, pi v.2, pi (worstI b v.1 v.2)]]
def chIL (b : DBook) (h j : Nat) : List (Nat × Nat) := (((List.range 8).drop j).filter fun p => decide (openF b h p ≠ 0)).map fun p => (h, p)
def chL (b : DBook) (i : Nat) : List (Nat × Nat) := ((List.range b.horses.length).drop i).flatMap fun h => chIL b h 0
def chO (b : DBook) (i : Nat) : List (List PV) := (chL b i).map (encC b)
def chI (b : DBook) (h j : Nat) : List (List PV) := (chIL b h j).map (encC b)
theorem chO_next {b : DBook} {i : Nat} (h : i < b.horses.length) : chO b i = chI b i 0 ++ chO b (i + 1) := by
  unfold chO chI chL
  rw [List.drop_eq_getElem_cons (by simpa using h), List.flatMap_cons, List.map_append, List.getElem_range]
theorem chO_end (b : DBook) : chO b b.horses.length = [] := by
  unfold chO chL
  rw [List.drop_eq_nil_of_le (by simp)]
  rfl
theorem chI_next (b : DBook) (h : Nat) {j : Nat} (hj : j < 8) : chI b h j = (if openF b h j = 0 then [] else [encC b (h, j)]) ++ chI b h (j + 1) := by
  unfold chI chIL
  rw [List.drop_eq_getElem_cons (by simpa using hj), List.filter_cons]
  simp only [List.getElem_range]
  by_cases h0 : openF b h j = 0
  · simp [h0]
  · simp [h0]
theorem chI_end (b : DBook) (h : Nat) : chI b h 8 = [] := rfl
theorem rowL_out {b : DBook} {h t p : Nat} (hp : nR b ≤ p) : (rowL b h t).getD p 0 = 0 := by
  unfold rowL rowN
  rw [List.getD_eq_getElem?_getD, List.getElem?_map]
  rcases Nat.lt_or_ge p 8 with h8 | h8
  · rw [List.getElem?_range h8]
    show (if p < nR b then _ else (0 : Int)) = 0
    rw [if_neg (by omega)]
  · rw [List.getElem?_eq_none (show (List.range 8).length ≤ p by simpa using h8)]
    rfl
theorem openF_lt {b : DBook} {h p : Nat} (h0 : openF b h p ≠ 0) : p < nR b := by
  rcases Nat.lt_or_ge p (nR b) with hp | hp
  · exact hp
  · refine absurd ?_ h0
    unfold openF
    rw [rowL_out hp]
    exact ite_self _
theorem choices_sem (k : SK) (b : DBook) : Sem1 125 [bookP k b] (.clo 151 [] [.ptr [bookP k b] 0]) := by
  refine semC_of_exec' mixed Try.func125 (by kernel_rfl) (by kernel_rfl) ac125_ok 1 rfl (by decide) [(.tmp 2)] (by kernel_rfl) ?_
  intro hr C hC hI
  unfold ac125
  simp only [go_sem, Nat.reduceBEq]
  exact retQ_pur rfl rfl (PVle.refl _) rfl
theorem open_get {b : DBook} {h j : Nat} (hj : j < 8) : ((openL b h).map pi)[j]? = some (pi (openF b h j)) := by
  unfold openL arrN
  simp [hj]
theorem choices_it (k : SK) {b : DBook} (ho : okBook b) : IterC Try.prog Fence.wide 151 [.yld, .ptr [bookP k b] 0] (chO b 0) := by
  have h6 := ho.2.1
  obtain ⟨h1, h8, hn⟩ := okR ho
  refine iterC_of_exec' mixed Try.func151 (by kernel_rfl) (by kernel_rfl) ac151_ok 2 rfl (by decide) (by kernel_rfl) ?_
  intro C hC hI
  unfold ac151
  simp only [go_sem, Nat.reduceBEq, List.length_map]
  refine loop_ky b.horses.length (fun _ => True) [0, 1, 12] (fun i => [(13, .p (pi i))]) (fun _ => []) (fun i => some (chO b i)) trivial (by simp [Wk, wkT, wkL, look, AV.lo, keepS]) ?_
  rintro i ⟨hi, -⟩
  simp only [go_sem, Nat.reduceBEq]
  refine ⟨fun h5 => ?_, fun h5 => ?_⟩
  · have hi2 : i < b.horses.length := by omega
    rw [chO_next hi2]
    refine call_pure2 hC (open_sem k ho hi2) rfl (PVleL_refl _) ?_
    rintro r rfl
    simp only [go_sem]
    refine loop_ky 8 (fun _ => True) [0, 1, 3, 12, 13, 18] (fun j => [(19, .p (pi j))]) (fun _ => []) (fun j => some (chI b i j ++ chO b (i + 1))) trivial (by simp [Wk, wkT, wkL, look, AV.lo, keepS]) ?_
    rintro j ⟨hj, -⟩
    simp only [go_sem, Nat.reduceBEq]
    refine ⟨fun h6 => ?_, fun h6 => ?_⟩
    · have hj2 : j < 8 := by omega
      have hget := open_get (b := b) (h := i) hj2
      have hnx := chI_next b i hj2
      by_cases h0 : openF b i j = 0
      · rw [h0] at hget
        rw [if_pos h0, List.nil_append] at hnx
        rw [hnx]
        simp only [go_sem, Nat.reduceBEq, Nat.reduceAdd, Nat.reduceLeDiff, idx8 hj2 hget, putCells, wrap_succ (k := j) (by omega)]
        refine ⟨fun h => h.elim, fun _ => ?_⟩
        exact ⟨⟨j + 1, hj2, trivial⟩, by simp only; omega, by simp [Wk, wkT, wkL, look, AV.lo]⟩
      · rw [if_neg h0, List.singleton_append] at hnx
        rw [hnx, List.cons_append]
        simp only [go_sem, Nat.reduceBEq, Nat.reduceAdd, Nat.reduceLeDiff, idx8 hj2 hget, putCells]
        refine ⟨fun _ => ?_, fun h => absurd h h0⟩
        refine call_pure2 hC (worst_sem k ho hi2 (openF_lt h0)) rfl (PVleL_refl _) ?_
        rintro r rfl
        simp only [go_sem, Nat.reduceBEq, Nat.reduceAdd, Nat.reduceLeDiff]
        simp only [go_sem, wrap_succ (k := j) (by omega), encC]
        refine ⟨PVleL_refl _, ⟨⟨j + 1, hj2, trivial⟩, by simp only; omega, ?_⟩, .inr rfl⟩
        exact by simp [Wk, wkT, wkL, look, AV.lo]
    · have hjn : j = 8 := by omega
      subst hjn
      rw [chI_end, List.nil_append]
      simp only [go_sem, wrap_succ (k := i) (by omega)]
      exact ⟨⟨i + 1, hi2, trivial⟩, by simp only; omega, by simp [Wk, wkT, wkL, look, AV.lo]⟩
  · have hin : i = b.horses.length := by omega
    subst hin
    rw [chO_end]
    exact .inl rfl
def lessC (b : DBook) (v w : Nat × Nat) : Bool := decide (worstI b v.1 v.2 < worstI b w.1 w.2)
def bestF (b : DBook) (v : Nat × Nat) (l : List (Nat × Nat)) : Nat × Nat := l.foldl (fun m c => if lessC b c m then c else m) v
theorem retQ_cellsG {P : Program} {t t' : Nat} {ty ty' : TypeId} {n n' : Option Nat} {R : PV → Prop} {s : AS} {x y : PV} (hs : shapeN P ty = some n) (hs' : shapeN P ty' = some n') (h : stillV s (.ld n (.t t)) = some (.p x)) (h' : stillV s (.ld n' (.t t')) = some (.p y)) (hR : R (.tup [x, y])) : retQ P [.cell t ty, .cell t' ty'] R s :=
  ⟨[.p x, .p y], [x, y], s.loc, .tup [x, y], by simp [resA, hs, hs', h, h'], rfl, PVle.refl _, hR⟩
theorem firstC_sem {b : DBook} {f : FuncId} {fi cap : List PV} {v : Nat × Nat} {zs : List (Nat × Nat)} (hit : IterC Try.prog Fence.wide f (fi ++ .yld :: cap) ((v :: zs).map (encC b))) (hno : (noY.noYL fi && noY.noYL cap) = true) : Sem1 150 [.clo f fi cap] (.tup [.agg [pi v.1, pi v.2, pi (worstI b v.1 v.2)], pb true]) := by
  refine semC_of_exec' mixed Try.func150 (by kernel_rfl) (by kernel_rfl) ac150_ok 1 rfl (by decide) [(.cell 2 106), (.cell 3 4)] (by kernel_rfl) ?_
  intro hr C hC hI
  unfold ac150
  simp only [go_sem, Nat.reduceBEq]
  refine rng_m (ι := Unit) (v :: zs) (encC b) [2, 3] (fun _ _ => [.cells [.p (pi 0), .p (pi 0), .p (pi 0)], .cells [.p (pb false)]]) (fun _ _ => []) (fun _ => some []) (fun i _ => i = 0) () rfl rfl (hI _ _ _ hit) ?_ (fun _ => rfl) (by simp [Wk, wkT, wkL, look, AV.lo, AV.lo.loL, keepS]) rfl ?_ ?_
  · simp only [show noY.noYR ((v :: zs).map (encC b)) = true from noYR_map (fun _ => rfl) _, hno, Bool.and_true]
  · rintro q - hq hok
    subst hok
    rw [List.getElem_cons_zero]
    simp only [go_sem, Nat.reduceBEq, Nat.reduceAdd, Nat.reduceEqDiff, encC, putCells]
    exact retQ_cellsG (n := some 3) (n' := none) (by kernel_rfl) (by kernel_rfl) rfl rfl rfl
  · rintro - hok
    exact absurd hok (by simp)
theorem look1_sem (b : DBook) (v w : Nat × Nat) : Sem1 123 [.agg [pi v.1, pi v.2, pi (worstI b v.1 v.2)], .agg [pi w.1, pi w.2, pi (worstI b w.1 w.2)]] (pb (lessC b v w)) := by
  refine semC_of_exec' mixed Try.func123 (by kernel_rfl) (by kernel_rfl) ac123_ok 2 rfl (by decide) [(.tmp 4)] (by kernel_rfl) ?_
  intro hr C hC hI
  unfold ac123
  simp only [go_sem, Nat.reduceBEq, Nat.reduceAdd]
  exact retQ_one rfl rfl
theorem best_sem {b : DBook} {f : FuncId} {fi cap : List PV} {v : Nat × Nat} {l zs : List (Nat × Nat)} (hlv : l = v :: zs) (hit : IterC Try.prog Fence.wide f (fi ++ .yld :: cap) (l.map (encC b))) (hno : (noY.noYL fi && noY.noYL cap) = true) {R : Nat × Nat} (hR : bestF b v l = R) : Sem1 124 [.agg [fnV 123], .clo f fi cap] (.agg [pi R.1, pi R.2, pi (worstI b R.1 R.2)]) := by
  refine semC_of_exec' mixed Try.func124 (by kernel_rfl) (by kernel_rfl) ac124_ok 2 rfl (by decide) [(.cell 4 106)] (by kernel_rfl) ?_
  intro hr C hC hI
  unfold ac124
  simp only [go_sem, Nat.reduceBEq]
  refine call_pure2 hC (firstC_sem (hlv ▸ hit) hno) rfl (PVleL_refl _) ?_
  rintro r rfl
  simp only [go_sem, Nat.reduceBEq, Nat.reduceAdd, putCells]
  refine rng_m (ι := Unit) l (encC b) [2, 4, 5] (fun i _ => [.cells [.p (fnV 123)], .cells [.p (pi 0), .p (pi 0), .p (pi 0)], .cells [.p (pi (bestF b v (l.take i)).1), .p (pi (bestF b v (l.take i)).2), .p (pi (worstI b (bestF b v (l.take i)).1 (bestF b v (l.take i)).2))]]) (fun _ _ => []) (fun _ => some []) (fun _ _ => True) () rfl rfl (hI _ _ _ hit) ?_ (fun _ => rfl) (by simp [Wk, wkT, wkL, look, AV.lo, AV.lo.loL, keepS, bestF]) trivial ?_ ?_
  · simp only [show noY.noYR (l.map (encC b)) = true from noYR_map (fun _ => rfl) _, hno, Bool.and_true]
  · rintro q - hq -
    have hn : bestF b v (l.take (q + 1)) = if lessC b l[q] (bestF b v (l.take q)) then l[q] else bestF b v (l.take q) := by
      unfold bestF
      rw [List.take_succ_eq_append_getElem hq, List.foldl_append]
      rfl
    obtain ⟨c, hc⟩ : ∃ c, l[q] = c := ⟨_, rfl⟩
    obtain ⟨m, hm⟩ : ∃ m, bestF b v (l.take q) = m := ⟨_, rfl⟩
    rw [hc, hm] at hn
    rw [hc, hm]
    simp only [go_sem, Nat.reduceBEq, Nat.reduceAdd, encC, putCells]
    refine call_pure2 hC (look1_sem b c m) rfl (PVleL_refl _) ?_
    rintro r rfl
    simp only [go_sem, Nat.reduceBEq]
    cases hl : lessC b c m
    · rw [hl, if_neg (by decide)] at hn
      simp only [go_sem]
      refine ⟨(), ?_⟩
      rw [hn]
      exact by simp [Wk, wkT, wkL, look, AV.lo, AV.lo.loL, ABlk.toZ]
    · rw [hl, if_pos rfl] at hn
      simp only [go_sem, Nat.reduceBEq, Nat.reduceAdd, putCells]
      refine ⟨(), ?_⟩
      rw [hn]
      exact by simp [Wk, wkT, wkL, look, AV.lo, AV.lo.loL, ABlk.toZ]
  · rintro - -
    rw [List.take_length, hR]
    simp only [go_sem, Nat.reduceBEq, Nat.reduceAdd, putCells]
    exact retQ_cell (n := some 3) (by kernel_rfl) rfl rfl
def lookI (b : DBook) : Nat × Nat := match chL b 0 with | [] => (0, 0) | v :: zs => bestF b v (v :: zs)
theorem look_sem (k : SK) {b : DBook} (ho : okBook b) (hne : chL b 0 ≠ []) : Sem1 89 [bookP k b] (.agg [pi (lookI b).1, pi (lookI b).2, pi (worstI b (lookI b).1 (lookI b).2)]) := by
  have hit := choices_it k ho
  unfold chO at hit
  obtain ⟨v, zs, hl⟩ : ∃ v zs, chL b 0 = v :: zs := List.exists_cons_of_ne_nil hne
  have hR : bestF b v (chL b 0) = lookI b := by unfold lookI; rw [hl]
  refine semC_of_exec' mixed Try.func89 (by kernel_rfl) (by kernel_rfl) ac89_ok 1 rfl (by decide) [(.cell 2 106)] (by kernel_rfl) ?_
  intro hr C hC hI
  unfold ac89
  simp only [go_sem, Nat.reduceBEq, putCells]
  refine call_pure2 hC (choices_sem k b) rfl (PVleL_refl _) ?_
  rintro r rfl
  simp only [go_sem, Nat.reduceBEq]
  refine call_pure2 hC (best_sem hl hit (by simp only [noY.noYL, noY, noY_rows, noY_rowsE, Bool.and_true]) hR) rfl (PVleL_refl _) ?_
  rintro r rfl
  simp only [go_sem, Nat.reduceBEq, Nat.reduceAdd, putCells]
  exact retQ_cell (n := some 3) (by kernel_rfl) rfl rfl
theorem mem_chL {b : DBook} {h p : Nat} : (h, p) ∈ chL b 0 ↔ h < b.horses.length ∧ p < 8 ∧ openF b h p ≠ 0 := by
  unfold chL chIL
  simp only [List.drop_zero, List.mem_flatMap, List.mem_range, List.mem_map, List.mem_filter, decide_eq_true_eq, Prod.mk.injEq]
  constructor
  · rintro ⟨h', hh, p', ⟨hp, h0⟩, rfl, rfl⟩
    exact ⟨hh, hp, h0⟩
  · rintro ⟨hh, hp, h0⟩
    exact ⟨h, hh, p, ⟨hp, h0⟩, rfl, rfl⟩
theorem knownH_iff {b : DBook} {h : Nat} : knownH b h = true ↔ ∀ p, p < 8 → openF b h p = 0 := by
  unfold knownH
  rw [decide_eq_true_eq]
  constructor
  · intro e p hp
    have hg := open_get (b := b) (h := h) hp
    rw [e] at hg
    have : p = 0 ∨ p = 1 ∨ p = 2 ∨ p = 3 ∨ p = 4 ∨ p = 5 ∨ p = 6 ∨ p = 7 := by omega
    rcases this with rfl | rfl | rfl | rfl | rfl | rfl | rfl | rfl <;> (simp at hg; exact hg.symm)
  · intro h0
    unfold openL arrN
    simp only [List.range, List.range.loop, List.map_cons, List.map_nil]
    simp [h0]
theorem chL_ne {b : DBook} (hk : knownB b = false) : chL b 0 ≠ [] := by
  intro he
  have : knownB b = true := by
    unfold knownB
    refine List.all_eq_true.2 fun h hh => knownH_iff.2 fun p hp => ?_
    rcases Decidable.em (openF b h p = 0) with h0 | h0
    · exact h0
    · have := mem_chL.2 ⟨List.mem_range.1 hh, hp, h0⟩
      rw [he] at this
      exact absurd this (by simp)
  rw [this] at hk
  cases hk
def lookR (b : DBook) : PV := if okBook b then (if knownB b then .tup [pi 0, pi 0, pi 4] else .tup [pi (lookI b).1, pi (lookI b).2, pi 0]) else .tup [pi 0, pi 0, pi 70]
theorem Look_sem (k : SK) (b : DBook) : Sem1 36 [.agg (bookC k b)] (lookR b) := by
  unfold lookR
  refine semC_of_exec' mixed Try.func36 (by kernel_rfl) (by kernel_rfl) ac36_ok 1 rfl (by decide) [(.tmp 2), (.tmp 3), (.tmp 4)] (by kernel_rfl) ?_
  intro hr C hC hI
  unfold ac36
  simp only [go_sem, Nat.reduceBEq, Nat.reduceAdd]
  refine askP hC k b true (fun hne => ?_) (fun h0 => ?_)
  · have ho : ¬ okBook b := fun ho => errI_ne hne ⟨ho, rfl⟩
    have he : errI b true = 70 := by unfold errI; rw [if_neg ho]
    rw [he, if_neg ho]
    simp only [go_sem, Nat.reduceBEq]
    exact ⟨fun _ => retQ_three rfl rfl rfl rfl, fun h => absurd h (by decide)⟩
  obtain ⟨ho, -⟩ := errI_ok h0
  rw [if_pos ho]
  simp only [go_sem, Nat.reduceBEq]
  refine ⟨fun h => h.elim, fun _ => ?_⟩
  refine call_pure2 hC (isKnown_sem k ho) rfl (PVleL_refl _) ?_
  rintro r rfl
  simp only [go_sem, Nat.reduceBEq]
  cases hk : knownB b
  · simp only [go_sem, Nat.reduceBEq]
    refine call_pure2 hC (look_sem k ho (chL_ne hk)) rfl (PVleL_refl _) ?_
    rintro r rfl
    simp only [go_sem, Nat.reduceBEq, Nat.reduceAdd, putCells]
    exact retQ_three rfl rfl rfl rfl
  · simp only [go_sem]
    exact retQ_three rfl rfl rfl rfl
end Go.Proofs.Ytlghbmancjjdjaa
namespace Go.Proofs.Ytlghbmancjjdjaa
open Go.RowKit
/-- A set of sizes. -/
def setB (x : Int) : Prop := 1 ≤ x ∧ x ≤ 15
theorem setB_cases {x : Int} (h : setB x) : ∃ i : Fin 15, x = (i.val : Int) + 1 := ⟨⟨(x - 1).toNat, by unfold setB at h; omega⟩, by unfold setB at h; simp only; omega⟩
theorem meet_comm (x y : Int) : meetB x y = meetB y x := by
  unfold meetB andI
  rw [BitVec.and_comm]
set_option maxRecDepth 100000 in
theorem meet_tab : ∀ i j : Fin 15, meetB ((i.val : Int) + 1) ((j.val : Int) + 1) = (List.range 4).any fun s => hasS ((i.val : Int) + 1) s && hasS ((j.val : Int) + 1) s := by decide
theorem meet_iff {x y : Int} (hx : setB x) (hy : setB y) : meetB x y = true ↔ ∃ s, s < 4 ∧ hasS x s = true ∧ hasS y s = true := by
  obtain ⟨i, rfl⟩ := setB_cases hx
  obtain ⟨j, rfl⟩ := setB_cases hy
  rw [meet_tab, List.any_eq_true]
  constructor
  · rintro ⟨s, hs, h⟩
    rw [Bool.and_eq_true] at h
    exact ⟨s, List.mem_range.1 hs, h.1, h.2⟩
  · rintro ⟨s, hs, h1, h2⟩
    exact ⟨s, List.mem_range.2 hs, by rw [Bool.and_eq_true]; exact ⟨h1, h2⟩⟩
set_option maxRecDepth 100000 in
theorem open_tab : ∀ i : Fin 15, openB ((i.val : Int) + 1) = decide ((listI ((i.val : Int) + 1) 4).length ≠ 1) := by decide
theorem open_iff {x : Int} (hx : setB x) : openB x = decide ((listI x 4).length ≠ 1) := by
  obtain ⟨i, rfl⟩ := setB_cases hx
  exact open_tab i
set_option maxRecDepth 100000 in
theorem of_tab : ∀ i : Fin 15, ∀ s : Fin 4, ofI ((i.val : Int) + 1) s.val = hasS ((i.val : Int) + 1) s.val := by decide
theorem of_has {x : Int} (hx : setB x) {s : Nat} (hs : s < 4) : ofI x s = hasS x s := by
  obtain ⟨i, rfl⟩ := setB_cases hx
  exact of_tab i ⟨s, hs⟩
set_option maxRecDepth 100000 in
theorem sure_tab : ∀ i j : Fin 15, sureB ((i.val : Int) + 1) ((j.val : Int) + 1) = (meetB ((i.val : Int) + 1) ((j.val : Int) + 1) && !openB ((i.val : Int) + 1) && !openB ((j.val : Int) + 1)) := by decide
/-- Surely the same are two that can be, and that are known. -/
theorem sure_eq {x y : Int} (hx : setB x) (hy : setB y) : sureB x y = (meetB x y && !openB x && !openB y) := by
  obtain ⟨i, rfl⟩ := setB_cases hx
  obtain ⟨j, rfl⟩ := setB_cases hy
  exact sure_tab i j
/-- A dapple's set. -/
def hsI (b : DBook) (h p : Nat) : Int := (b.horses.getD h []).getD p 0
theorem hs_set {b : DBook} (ho : okBook b) {h p : Nat} (hh : h < b.horses.length) (hp : p < nR b) : setB (hsI b h p) := by
  have hH := ho.2.2 _ (List.getElem_mem hh)
  have hq : p < b.horses[h].length := by have := hH.1; have := (okR ho).2.2; omega
  have e : hsI b h p = b.horses[h][p] := by simp [hsI, List.getD_eq_getElem?_getD, List.getElem?_eq_getElem hh, List.getElem?_eq_getElem hq]
  rw [e]
  exact hH.2 _ (List.getElem_mem hq)
theorem rowI_hs (b : DBook) (h t p : Nat) : rowI b h t p = hsI b h ((p + t) % nR b) := rfl
theorem rowL_get {b : DBook} (ho : okBook b) {h t q : Nat} (hq : q < nR b) : (rowL b h t).getD q 0 = rowI b h t q := by
  obtain ⟨h1, h8, hn⟩ := okR ho
  unfold rowL rowN
  rw [List.getD_eq_getElem?_getD, List.getElem?_map, List.getElem?_range (by omega)]
  show (if q < nR b then rowI b h t q else 0) = _
  rw [if_pos hq]
theorem rowI_0 {b : DBook} {h q : Nat} (hq : q < nR b) : rowI b h 0 q = hsI b h q := by
  rw [rowI_hs, Nat.add_zero, Nat.mod_eq_of_lt hq]
/-- Do two horses fit in a turn? -/
def fit2 (b : DBook) (p : Int → Int → Bool) (h o t : Nat) : Prop := ∀ q, q < nR b → p (hsI b h ((q + t) % nR b)) (hsI b o q) = true
theorem fit2_iff {b : DBook} (ho : okBook b) {p : Int → Int → Bool} {h o t : Nat} : fitB b p h (rowL b o 0) t = true ↔ fit2 b p h o t := by
  unfold fitB fit2
  rw [List.all_eq_true]
  constructor
  · intro H q hq
    have := H q (List.mem_range.2 hq)
    rwa [rowL_get ho hq, rowI_0 hq] at this
  · intro H q hq
    have hq := List.mem_range.1 hq
    rw [rowL_get ho hq, rowI_0 hq]
    exact H q hq
theorem mem_turns {b : DBook} (ho : okBook b) {p : Int → Int → Bool} {h o t : Nat} : t ∈ turnsP b p h (rowL b o 0) ↔ t < nR b ∧ fit2 b p h o t := by
  unfold turnsP
  rw [List.mem_filter, List.mem_range, fit2_iff ho]
def backT (r t : Nat) : Nat := (r - t) % r
theorem back_lt {r t : Nat} (h : 1 ≤ r) : backT r t < r := Nat.mod_lt _ h
theorem back_mod {r t q : Nat} (ht : t < r) (hq : q < r) : ((q + t) % r + backT r t) % r = q := by
  unfold backT
  rcases Nat.eq_zero_or_pos t with rfl | h0
  · simp [Nat.mod_eq_of_lt hq]
  · rw [Nat.mod_eq_of_lt (show r - t < r by omega)]
    rcases Nat.lt_or_ge (q + t) r with h | h
    · rw [Nat.mod_eq_of_lt h, show q + t + (r - t) = q + r by omega, Nat.add_mod_right, Nat.mod_eq_of_lt hq]
    · rw [Nat.mod_eq_sub_mod h, Nat.mod_eq_of_lt (show q + t - r < r by omega), show q + t - r + (r - t) = q by omega, Nat.mod_eq_of_lt hq]
theorem back_back {r t : Nat} (ht : t < r) : backT r (backT r t) = t := by
  unfold backT
  rcases Nat.eq_zero_or_pos t with rfl | h0
  · simp
  · rw [Nat.mod_eq_of_lt (show r - t < r by omega), show r - (r - t) = t by omega, Nat.mod_eq_of_lt ht]
theorem fit_back {b : DBook} {p : Int → Int → Bool} (hp : ∀ x y, p x y = p y x) {h o t : Nat} (ht : t < nR b) (H : fit2 b p h o t) : fit2 b p o h (backT (nR b) t) := by
  intro q hq
  have h1 : 1 ≤ nR b := by omega
  have h2 := H ((q + backT (nR b) t) % nR b) (Nat.mod_lt _ h1)
  rw [hp]
  have e := back_mod (back_lt (t := t) h1) hq
  rw [back_back ht] at e
  rwa [e] at h2
theorem fit_iff {b : DBook} {p : Int → Int → Bool} (hp : ∀ x y, p x y = p y x) {h o t : Nat} (ht : t < nR b) : fit2 b p o h (backT (nR b) t) ↔ fit2 b p h o t := by
  constructor
  · intro H
    have := fit_back hp (back_lt (t := t) (by omega)) H
    rwa [back_back ht] at this
  · exact fit_back hp ht
theorem sure_comm (x y : Int) : sureB x y = sureB y x := by
  unfold sureB
  by_cases h : x = y
  · rw [h]
  · rw [decide_eq_false h, decide_eq_false (fun e => h e.symm), Bool.false_and, Bool.false_and]
theorem turns_nil_comm {b : DBook} (ho : okBook b) {p : Int → Int → Bool} (hp : ∀ x y, p x y = p y x) (h o : Nat) : turnsP b p h (rowL b o 0) = [] ↔ turnsP b p o (rowL b h 0) = [] := by
  have key : ∀ h o, turnsP b p h (rowL b o 0) = [] → turnsP b p o (rowL b h 0) = [] := by
    intro h o e
    rw [List.eq_nil_iff_forall_not_mem]
    intro t ht
    obtain ⟨h1, h2⟩ := (mem_turns ho).1 ht
    have := (mem_turns ho).2 ⟨back_lt (by omega), fit_back hp h1 h2⟩
    rw [e] at this
    exact absurd this (by simp)
  exact ⟨key h o, key o h⟩
theorem turns_len {b : DBook} (ho : okBook b) {p : Int → Int → Bool} (hp : ∀ x y, p x y = p y x) (h o : Nat) : (turnsP b p h (rowL b o 0)).length = (turnsP b p o (rowL b h 0)).length := by
  obtain ⟨h1, h8, hn⟩ := okR ho
  have hperm : ((List.range (nR b)).map (backT (nR b))).Perm (List.range (nR b)) := by
    generalize nR b = r at *
    have : r = 1 ∨ r = 2 ∨ r = 3 ∨ r = 4 ∨ r = 5 ∨ r = 6 ∨ r = 7 ∨ r = 8 := by omega
    rcases this with rfl | rfl | rfl | rfl | rfl | rfl | rfl | rfl <;> decide
  have h2 := (hperm.filter (fitB b p o (rowL b h 0))).length_eq
  unfold turnsP
  rw [← h2, List.filter_map, List.length_map]
  congr 1
  refine List.filter_congr fun t ht => ?_
  have ht := List.mem_range.1 ht
  rw [Bool.eq_iff_iff, fit2_iff ho]
  show _ ↔ fitB b p o (rowL b h 0) (backT (nR b) t) = true
  rw [fit2_iff ho, fit_iff hp ht]
/-- How much two horses are the same. -/
theorem same_eq {b : DBook} (ho : okBook b) (h o : Nat) : sameI b h o = if turnsP b sureB h (rowL b o 0) = [] then (if turnsP b meetB h (rowL b o 0) = [] then 0 else 1) else 2 := by
  unfold sameI
  have e0 : likeAt b h (rowL b o 0) 1 = 0 := by
    show (if turnsP b (pL 0) h (rowL b o 0) = [] then (0 : Int) else maxI true 0 0) = 0
    split <;> rfl
  show (if turnsP b (pL 2) h (rowL b o 0) = [] then (if turnsP b (pL 1) h (rowL b o 0) = [] then likeAt b h (rowL b o 0) 1 else maxI true (likeAt b h (rowL b o 0) 1) 1) else maxI true (if turnsP b (pL 1) h (rowL b o 0) = [] then likeAt b h (rowL b o 0) 1 else maxI true (likeAt b h (rowL b o 0) 1) 1) 2) = _
  rw [e0]
  rw [show pL 2 = sureB from rfl, show pL 1 = meetB from rfl]
  split
  · split <;> rfl
  · split <;> rfl
theorem same_comm {b : DBook} (ho : okBook b) (h o : Nat) : sameI b h o = sameI b o h := by
  rw [same_eq ho, same_eq ho]
  simp only [turns_nil_comm ho sure_comm h o, turns_nil_comm ho meet_comm h o]
/-- Is all of a horse known? -/
def allK (b : DBook) (h : Nat) : Prop := ∀ p, p < nR b → openB (hsI b h p) = false
theorem fit_sure {b : DBook} (ho : okBook b) {h o t : Nat} (hh : h < b.horses.length) (hoo : o < b.horses.length) (ht : t < nR b) : fit2 b sureB h o t ↔ fit2 b meetB h o t ∧ allK b h ∧ allK b o := by
  have h1 : 1 ≤ nR b := by omega
  constructor
  · intro H
    have H2 : ∀ q, q < nR b → meetB (hsI b h ((q + t) % nR b)) (hsI b o q) = true ∧ openB (hsI b h ((q + t) % nR b)) = false ∧ openB (hsI b o q) = false := by
      intro q hq
      have := H q hq
      rw [sure_eq (hs_set ho hh (Nat.mod_lt _ h1)) (hs_set ho hoo hq)] at this
      simpa [and_assoc] using this
    refine ⟨fun q hq => (H2 q hq).1, fun p hp => ?_, fun p hp => (H2 p hp).2.2⟩
    have e := back_mod (back_lt (t := t) h1) hp
    rw [back_back ht] at e
    have := (H2 _ (Nat.mod_lt (p + backT (nR b) t) h1)).2.1
    rwa [e] at this
  · rintro ⟨H, k1, k2⟩ q hq
    rw [sure_eq (hs_set ho hh (Nat.mod_lt _ h1)) (hs_set ho hoo hq), H q hq, k1 _ (Nat.mod_lt _ h1), k2 q hq]
    rfl
theorem same_two {b : DBook} (ho : okBook b) {h o : Nat} (hh : h < b.horses.length) (hoo : o < b.horses.length) : sameI b h o = 2 ↔ turnsI b h o ≠ [] ∧ allK b h ∧ allK b o := by
  rw [same_eq ho]
  have key : turnsP b sureB h (rowL b o 0) ≠ [] ↔ turnsI b h o ≠ [] ∧ allK b h ∧ allK b o := by
    constructor
    · intro hne
      obtain ⟨t, ht⟩ := List.exists_mem_of_ne_nil _ hne
      obtain ⟨h1, h2⟩ := (mem_turns ho).1 ht
      obtain ⟨h3, h4, h5⟩ := (fit_sure ho hh hoo h1).1 h2
      exact ⟨List.ne_nil_of_mem ((mem_turns ho).2 ⟨h1, h3⟩), h4, h5⟩
    · rintro ⟨hne, h4, h5⟩
      obtain ⟨t, ht⟩ := List.exists_mem_of_ne_nil _ hne
      obtain ⟨h1, h2⟩ := (mem_turns ho).1 ht
      exact List.ne_nil_of_mem ((mem_turns ho).2 ⟨h1, (fit_sure ho hh hoo h1).2 ⟨h2, h4, h5⟩⟩)
  split
  · rename_i h0
    constructor
    · intro e; split at e <;> omega
    · intro e; exact absurd h0 (key.2 e)
  · rename_i h0
    exact ⟨fun _ => key.1 h0, fun _ => rfl⟩
theorem same_pos {b : DBook} (ho : okBook b) {h o : Nat} (hh : h < b.horses.length) (hoo : o < b.horses.length) : sameI b h o ≠ 0 ↔ turnsI b h o ≠ [] := by
  have h2 := same_two ho hh hoo
  rw [same_eq ho] at h2 ⊢
  split
  · rename_i h0
    rw [show turnsI b h o = turnsP b meetB h (rowL b o 0) from rfl]
    split
    · rename_i h1; simp [h1]
    · rename_i h1; simp [h1]
  · rename_i h0
    rw [if_neg h0] at h2
    exact ⟨fun _ => (h2.1 rfl).1, fun _ => by omega⟩
theorem same_range {b : DBook} (ho : okBook b) (h o : Nat) : 0 ≤ sameI b h o ∧ sameI b h o ≤ 2 := by
  rw [same_eq ho]
  split
  · split <;> omega
  · omega
end Go.Proofs.Ytlghbmancjjdjaa
namespace Go.Proofs.Ytlghbmancjjdjaa
open Go.RowKit
theorem lexB_pre : ∀ (l a b : List Int), lexB (l ++ a) (l ++ b) = lexB a b
  | [], a, b => rfl
  | x :: l, a, b => by simp [lexB, lexB_pre l a b]
theorem listsF_pw (e : Nat) : ∀ (r : Nat) (l : List Int) (a : Nat), (listsF e r l a).Pairwise fun x y => lexB x y = true
  | 0, l, a => List.pairwise_singleton _ _
  | r + 1, l, a => by
    unfold listsF
    rw [List.pairwise_flatMap]
    constructor
    · exact fun n _ => listsF_pw e r _ _
    · rw [List.pairwise_map]
      refine (List.pairwise_lt_range (n := e - a)).imp fun {q q'} hq x hx y hy => ?_
      obtain ⟨t, rfl, -⟩ := (mem_listsF r _ _ _).1 hx
      obtain ⟨t', rfl, -⟩ := (mem_listsF r _ _ _).1 hy
      rw [List.append_assoc, List.append_assoc, lexB_pre]
      simp only [List.singleton_append, lexB]
      rw [if_neg (by omega)]
      simp; omega
theorem lists_pw (e m : Nat) : (listsL e m).Pairwise fun x y => lexB x y = true := listsF_pw e m [] 0
theorem find_first {zs : List (List Int)} (hp : zs.Pairwise fun x y => lexB x y = true) {P : List Int → Bool} {z : List Int} (h : zs.find? P = some z) : z ∈ zs ∧ P z = true ∧ ∀ x ∈ zs, lexB x z = true → P x = false := by
  obtain ⟨h1, us, vs, rfl, h2⟩ := List.find?_eq_some_iff_append.1 h
  refine ⟨by simp, h1, fun x hx hlt => ?_⟩
  rcases List.mem_append.1 hx with hx | hx
  · have := h2 x hx; simpa using this
  · exfalso
    rcases List.mem_cons.1 hx with rfl | hx
    · rw [lexB_irr] at hlt; cases hlt
    · rw [List.pairwise_append] at hp
      have := lexB_trans ((List.pairwise_cons.1 hp.2.1).1 x hx) hlt
      rw [lexB_irr] at this; cases this
theorem mem_pair {e i k : Nat} (h : i < k) (hk : k < e) : [(i : Int), (k : Int)] ∈ listsL e 2 := by
  rw [mem_listsL]
  refine ⟨rfl, ?_, fun x hx => ?_⟩
  · unfold incL; simp; omega
  · simp at hx; rcases hx with rfl | rfl <;> omega
theorem pair_none {e : Nat} {P : Nat → Nat → Bool} (h : (listsL e 2).find? (pairP P) = none) {i k : Nat} (hi : i < k) (hk : k < e) : P i k = false := by
  have := List.find?_eq_none.1 h _ (mem_pair hi hk)
  rw [pairP_two] at this
  simpa using this
theorem pair_some {e : Nat} {P : Nat → Nat → Bool} {l : List Int} (h : (listsL e 2).find? (pairP P) = some l) : ∃ i k : Nat, l = [(i : Int), (k : Int)] ∧ i < k ∧ k < e ∧ P i k = true ∧ ∀ p q, p < q → q < e → (p < i ∨ p = i ∧ q < k) → P p q = false := by
  obtain ⟨h1, h2, h3⟩ := find_first (lists_pw e 2) h
  obtain ⟨i, k, rfl, hi, hk⟩ := pair_of h1
  rw [pairP_two] at h2
  refine ⟨i, k, rfl, hi, hk, h2, fun p q hp hq hlt => ?_⟩
  have := h3 _ (mem_pair hp hq) (by
    simp only [lexB]
    by_cases e1 : p = i
    · subst e1
      rw [if_pos rfl, if_neg (by omega)]
      exact decide_eq_true (by omega)
    · rw [if_neg (by omega)]
      exact decide_eq_true (by omega))
  rwa [pairP_two] at this
end Go.Proofs.Ytlghbmancjjdjaa
namespace Go.Proofs.Ytlghbmancjjdjaa
open Go.RowKit
theorem rid_iff {b : DBook} {out : List Int} : ridP b out = true ↔ ∀ i k : Nat, i < k → k < b.horses.length → leftP b out i k = false := by
  unfold ridP
  cases h : (listsL b.horses.length 2).find? (pairP (leftP b out)) with
  | none => exact ⟨fun _ i k hi hk => pair_none h hi hk, fun _ => rfl⟩
  | some l =>
    obtain ⟨i, k, -, h1, h2, h3, -⟩ := pair_some h
    refine ⟨(fun e => by cases e), fun e => ?_⟩
    rw [e i k h1 h2] at h3
    cases h3
theorem all_mem (n : Nat) : natL (List.range n) ∈ listsL n n := by
  rw [mem_listsL]
  unfold natL
  refine ⟨by simp, ?_, fun x hx => ?_⟩
  · unfold incL
    rw [List.pairwise_map]
    exact (List.pairwise_lt_range (n := n)).imp fun {a b} h => by omega
  · obtain ⟨y, hy, rfl⟩ := List.mem_map.1 hx
    have := List.mem_range.1 hy
    omega
theorem all_rid (b : DBook) : ridP b (natL (List.range b.horses.length)) = true := by
  rw [rid_iff]
  intro i k hi hk
  unfold leftP
  have : (i : Int) ∈ natL (List.range b.horses.length) := List.mem_map.2 ⟨i, List.mem_range.2 (by omega), rfl⟩
  rw [decide_eq_true this]
  rfl
theorem drop_facts (b : DBook) : growsI (dropI b) b.horses.length ∧ ridP b (dropI b) = true ∧ ∀ l, growsI l b.horses.length → shortB l (dropI b) = true → ridP b l = false := by
  have hne : dropO b ≠ none := by
    unfold dropO
    rw [Ne, List.findSome?_eq_none_iff]
    intro h
    have h2 := h b.horses.length (List.mem_range.2 (by omega))
    unfold dropAt at h2
    have := List.find?_eq_none.1 h2 _ (all_mem _)
    rw [all_rid] at this
    exact this rfl
  obtain ⟨d, hd⟩ := Option.ne_none_iff_exists'.1 hne
  have hdi : dropI b = d := by unfold dropI; rw [hd]; rfl
  rw [hdi]
  unfold dropO at hd
  obtain ⟨l1, a, l2, e, h1, h2⟩ := List.findSome?_eq_some_iff.1 hd
  unfold dropAt at h1
  obtain ⟨g1, g2, g3⟩ := find_first (lists_pw _ _) h1
  obtain ⟨m1, m2⟩ := mem_listsL.1 g1
  have hp := List.pairwise_lt_range (n := b.horses.length + 1)
  rw [e, List.pairwise_append] at hp
  have ha : a < b.horses.length + 1 := List.mem_range.1 (by rw [e]; simp)
  refine ⟨m2, g2, fun l hl hs => ?_⟩
  unfold shortB at hs
  split at hs
  · rename_i hlen
    exact g3 l (mem_listsL.2 ⟨by omega, hl⟩) hs
  · rename_i hlen
    have hlt : l.length < a := by have := of_decide_eq_true hs; omega
    have hm : l.length ∈ l1 := by
      have : l.length ∈ List.range (b.horses.length + 1) := List.mem_range.2 (by omega)
      rw [e] at this
      rcases List.mem_append.1 this with h | h
      · exact h
      · exfalso
        rcases List.mem_cons.1 h with h | h
        · omega
        · have := (List.pairwise_cons.1 hp.2.1).1 _ h
          omega
    have h3 := h2 _ hm
    unfold dropAt at h3
    have := List.find?_eq_none.1 h3 l (mem_listsL.2 ⟨rfl, hl⟩)
    simpa using this
theorem drop_nil (b : DBook) : dropI b = [] ↔ ∀ i k : Nat, i < k → k < b.horses.length → sameI b i k = 0 := by
  obtain ⟨h1, h2, h3⟩ := drop_facts b
  have key : ridP b [] = true ↔ ∀ i k : Nat, i < k → k < b.horses.length → sameI b i k = 0 := by
    rw [rid_iff]
    refine forall_congr' fun i => forall_congr' fun k => forall_congr' fun _ => forall_congr' fun _ => ?_
    simp [leftP]
  rw [← key]
  constructor
  · intro e; rw [e] at h2; exact h2
  · intro e
    cases hd : dropI b with
    | nil => rfl
    | cons x l =>
      have := h3 [] ⟨List.Pairwise.nil, by simp⟩ (by rw [hd]; simp [shortB])
      rw [this] at e; cases e
end Go.Proofs.Ytlghbmancjjdjaa
namespace Go.Proofs.Ytlghbmancjjdjaa
open Go.RowKit
/-- All rows of so many sizes, the first one first. -/
def sufs : Nat → List (List Int)
  | 0 => [[]]
  | r + 1 => (List.range 4).flatMap fun (s : Nat) => (sufs r).map fun t => (s : Int) :: t
def leftF (w : Nat → Nat → Nat) : Nat → List Int → Nat → Nat
  | _, [], m => m
  | p, s :: t, m => leftF w (p + 1) t (m &&& w p s.toNat)
theorem filter_flat {α β : Type} (p : β → Bool) (f : α → List β) : ∀ l : List α, (l.flatMap f).filter p = l.flatMap fun x => (f x).filter p
  | [] => rfl
  | x :: l => by rw [List.flatMap_cons, List.flatMap_cons, List.filter_append, filter_flat p f l]
theorem map_flat {α β γ : Type} (g : β → γ) (f : α → List β) : ∀ l : List α, (l.flatMap f).map g = l.flatMap fun x => (f x).map g
  | [] => rfl
  | x :: l => by rw [List.flatMap_cons, List.flatMap_cons, List.map_append, map_flat g f l]
theorem freeF_eq (w : Nat → Nat → Nat) : ∀ (r : Nat) (l : List Int) (m : Nat), freeF w r l m = ((sufs r).filter fun t => decide (leftF w l.length t m = 0)).map fun t => l ++ t
  | 0, l, m => by
    unfold freeF sufs
    by_cases h : m = 0
    · simp [leftF, h]
    · simp [leftF, h]
  | r + 1, l, m => by
    unfold freeF sufs
    rw [filter_flat, map_flat]
    congr 1
    funext s
    rw [freeF_eq w r, List.filter_map, List.map_map, List.length_append, List.length_singleton]
    have e : (fun t => decide (leftF w l.length t m = 0)) ∘ (fun t => (s : Int) :: t) = fun t => decide (leftF w (l.length + 1) t (m &&& w l.length s) = 0) := by
      funext t
      show decide (leftF w (l.length + 1) t (m &&& w l.length ((s : Int).toNat)) = 0) = _
      rw [Int.toNat_natCast]
    rw [e]
    congr 1
    funext t
    simp
theorem mem_sufs : ∀ {r : Nat} {t : List Int}, t ∈ sufs r ↔ t.length = r ∧ ∀ x ∈ t, 0 ≤ x ∧ x ≤ 3
  | 0, t => by
    unfold sufs
    rw [List.mem_singleton]
    constructor
    · rintro rfl; simp
    · rintro ⟨h, -⟩; exact List.eq_nil_of_length_eq_zero h
  | r + 1, t => by
    unfold sufs
    rw [List.mem_flatMap]
    constructor
    · rintro ⟨s, hs, ht⟩
      obtain ⟨u, hu, rfl⟩ := List.mem_map.1 ht
      obtain ⟨h1, h2⟩ := mem_sufs.1 hu
      have hs := List.mem_range.1 hs
      refine ⟨by simp [h1], fun x hx => ?_⟩
      rcases List.mem_cons.1 hx with rfl | hx
      · omega
      · exact h2 x hx
    · rintro ⟨h1, h2⟩
      cases t with
      | nil => simp at h1
      | cons x u =>
        have hx := h2 x (by simp)
        refine ⟨x.toNat, List.mem_range.2 (by omega), List.mem_map.2 ⟨u, mem_sufs.2 ⟨by simpa using h1, fun y hy => h2 y (by simp [hy])⟩, ?_⟩⟩
        rw [show ((x.toNat : Nat) : Int) = x by omega]
theorem sufs_pw : ∀ r : Nat, (sufs r).Pairwise fun a b => lexB a b = true
  | 0 => by unfold sufs; exact List.pairwise_singleton _ _
  | r + 1 => by
    unfold sufs
    rw [List.pairwise_flatMap]
    constructor
    · intro s _
      rw [List.pairwise_map]
      exact (sufs_pw r).imp fun {a b} h => by simp [lexB, h]
    · refine (List.pairwise_lt_range (n := 4)).imp fun {a b} hab x hx y hy => ?_
      obtain ⟨u, -, rfl⟩ := List.mem_map.1 hx
      obtain ⟨v, -, rfl⟩ := List.mem_map.1 hy
      simp only [lexB]
      rw [if_neg (by omega)]
      simp; omega
theorem left_bit (w : Nat → Nat → Nat) (q : Nat) : ∀ (t : List Int) (p m : Nat), (leftF w p t m).testBit q = true ↔ m.testBit q = true ∧ ∀ i, i < t.length → (w (p + i) (t.getD i 0).toNat).testBit q = true
  | [], p, m => by simp [leftF]
  | s :: t, p, m => by
    unfold leftF
    rw [left_bit w q t, Nat.testBit_and, Bool.and_eq_true]
    constructor
    · rintro ⟨⟨h1, h2⟩, h3⟩
      refine ⟨h1, fun i hi => ?_⟩
      cases i with
      | zero => simpa using h2
      | succ i =>
        have := h3 i (by simpa using hi)
        rw [show p + 1 + i = p + (i + 1) by omega] at this
        simpa using this
    · rintro ⟨h1, h2⟩
      refine ⟨⟨h1, by simpa using h2 0 (by simp)⟩, fun i hi => ?_⟩
      have := h2 (i + 1) (by simpa using hi)
      rw [show p + (i + 1) = p + 1 + i by omega] at this
      simpa using this
theorem own_bit {b : DBook} (p s q : Nat) : ∀ (l : List (Nat × Nat)) (m : Nat), (l.foldl (addO b p s) m).testBit q = true ↔ m.testBit q = true ∨ ∃ v ∈ l, ownK v = q ∧ hasS ((rowL b v.1 v.2).getD p 0) s = true
  | [], m => by simp
  | v :: l, m => by
    rw [List.foldl_cons, own_bit p s q l]
    have e : (addO b p s m v).testBit q = true ↔ m.testBit q = true ∨ (ownK v = q ∧ hasS ((rowL b v.1 v.2).getD p 0) s = true) := by
      unfold addO
      split
      · rename_i h
        rw [Nat.testBit_or, Bool.or_eq_true, Nat.testBit_two_pow, decide_eq_true_eq]
        exact or_congr Iff.rfl ⟨fun e => ⟨e, h⟩, fun e => e.1⟩
      · rename_i h
        exact ⟨.inl, fun e => e.elim id fun e => absurd e.2 h⟩
    rw [e]
    simp only [List.mem_cons, exists_eq_or_imp]
    exact or_assoc
theorem ownW_bit {b : DBook} (p s q : Nat) : (ownW b p s).testBit q = true ↔ ∃ v ∈ viewsL b, ownK v = q ∧ hasS ((rowL b v.1 v.2).getD p 0) s = true := by
  unfold ownW ownF
  rw [List.take_length, own_bit]
  simp
theorem mem_views2 {b : DBook} {v : Nat × Nat} (h : v ∈ viewsL b) : v.1 < b.horses.length ∧ v.2 < nR b := by
  obtain ⟨i, hi, rfl⟩ := List.mem_iff_getElem.1 h
  obtain ⟨hh, t, e, h1, h2⟩ := views_get hi
  rw [e]
  exact ⟨h1, h2⟩
theorem ownK_inj {b : DBook} (ho : okBook b) {v u : Nat × Nat} (hv : v ∈ viewsL b) (hu : u ∈ viewsL b) (h : ownK v = ownK u) : v = u := by
  have h8 := (okR ho).2.1
  have := mem_views2 hv
  have := mem_views2 hu
  unfold ownK at h
  exact Prod.ext (by omega) (by omega)
/-- Can a horse have a row, read from a turn on? -/
def hasR (b : DBook) (h t : Nat) (r : List Int) : Prop := ∀ p, p < nR b → hasS (rowI b h t p) (r.getD p 0).toNat = true
theorem left_zero {b : DBook} (ho : okBook b) {r : List Int} (hl : r.length = nR b) : leftF (ownW b) 0 r (2 ^ 64 - 1) = 0 ↔ ∀ h t, h < b.horses.length → t < nR b → ¬ hasR b h t r := by
  obtain ⟨h1, h8, hn⟩ := okR ho
  constructor
  · intro h0 h t hh ht hr
    have hv := mem_views hh ht
    have hb : (leftF (ownW b) 0 r (2 ^ 64 - 1)).testBit (ownK (h, t)) = true := by
      rw [left_bit]
      refine ⟨?_, fun i hi => ?_⟩
      · rw [Nat.testBit_two_pow_sub_one]; exact decide_eq_true (ownK_lt ho hv)
      · rw [ownW_bit]
        refine ⟨(h, t), hv, rfl, ?_⟩
        rw [Nat.zero_add, rowL_get ho (by omega)]
        exact hr i (by omega)
    rw [h0, Nat.zero_testBit] at hb
    cases hb
  · intro H
    apply Nat.eq_of_testBit_eq
    intro q
    rw [Nat.zero_testBit, Bool.eq_false_iff]
    intro hb
    obtain ⟨hq, hall⟩ := (left_bit _ _ _ _ _).1 hb
    obtain ⟨v, hv, e, -⟩ := (ownW_bit _ _ _).1 (hall 0 (by omega))
    obtain ⟨hh, ht⟩ := mem_views2 hv
    refine H v.1 v.2 hh ht fun p hp => ?_
    obtain ⟨u, hu, e2, hs⟩ := (ownW_bit _ _ _).1 (hall p (by omega))
    have : u = v := ownK_inj ho hu hv (e2.trans e.symm)
    subst this
    rw [Nat.zero_add, rowL_get ho hp] at hs
    exact hs
theorem known_get {r : List Int} {q : Nat} (hq : q < r.length) (h8 : r.length ≤ 8) : (knownN r).getD q 0 = 2 ^ (r.getD q 0).toNat := by
  unfold knownN arrN
  rw [List.getD_eq_getElem?_getD, List.getElem?_map, List.getElem?_range (by omega)]
  show (if q < r.length then (2 : Int) ^ (r.getD q 0).toNat else 0) = _
  rw [if_pos hq]
theorem whose_iff {b : DBook} (ho : okBook b) {r : List Int} (hl : r.length = nR b) {h : Nat} : whoseP b (knownN r) h = true ↔ ∃ t, t < nR b ∧ hasR b h t r := by
  obtain ⟨h1, h8, hn⟩ := okR ho
  unfold whoseP
  rw [Bool.not_eq_true', List.isEmpty_eq_false_iff]
  have key : ∀ t, t < nR b → (fitB b meetB h (knownN r) t = true ↔ hasR b h t r) := by
    intro t _
    unfold fitB hasR
    rw [List.all_eq_true]
    constructor
    · intro H p hp
      have := H p (List.mem_range.2 hp)
      rw [known_get (by omega) (by omega)] at this
      exact this
    · intro H p hp
      have hp := List.mem_range.1 hp
      rw [known_get (by omega) (by omega)]
      exact H p hp
  unfold turnsP
  constructor
  · intro hne
    obtain ⟨t, ht⟩ := List.exists_mem_of_ne_nil _ hne
    rw [List.mem_filter, List.mem_range] at ht
    exact ⟨t, ht.1, (key t ht.1).1 ht.2⟩
  · rintro ⟨t, ht, hr⟩
    exact List.ne_nil_of_mem (List.mem_filter.2 ⟨List.mem_range.2 ht, (key t ht).2 hr⟩)
theorem mem_whose {b : DBook} {g : List Int} {h : Nat} : h ∈ whoseI b g ↔ h < b.horses.length ∧ whoseP b g h = true := by
  unfold whoseI
  rw [List.mem_filter, List.mem_range]
/-- Nobody's row. -/
theorem whose_nil {b : DBook} (ho : okBook b) {r : List Int} (hl : r.length = nR b) : whoseI b (knownN r) = [] ↔ leftF (ownW b) 0 r (2 ^ 64 - 1) = 0 := by
  rw [left_zero ho hl, List.eq_nil_iff_forall_not_mem]
  constructor
  · intro H h t hh ht hr
    exact H h (mem_whose.2 ⟨hh, (whose_iff ho hl).2 ⟨t, ht, hr⟩⟩)
  · intro H h hm
    obtain ⟨hh, hw⟩ := mem_whose.1 hm
    obtain ⟨t, ht, hr⟩ := (whose_iff ho hl).1 hw
    exact H h t hh ht hr
theorem free_eq {b : DBook} (ho : okBook b) : freeL b = (sufs (nR b)).filter fun t => decide (whoseI b (knownN t) = []) := by
  unfold freeL
  rw [freeF_eq]
  simp only [List.length_nil, List.nil_append, List.map_id']
  refine List.filter_congr fun t ht => ?_
  rw [decide_eq_decide]
  exact (whose_nil ho (mem_sufs.1 ht).1).symm
theorem free_none {b : DBook} (ho : okBook b) (h : freeL b = []) {t : List Int} (ht : t ∈ sufs (nR b)) : whoseI b (knownN t) ≠ [] := by
  rw [free_eq ho, List.filter_eq_nil_iff] at h
  have := h t ht
  simpa using this
theorem free_first {b : DBook} (ho : okBook b) {z : List Int} {zs : List (List Int)} (h : freeL b = z :: zs) : z ∈ sufs (nR b) ∧ whoseI b (knownN z) = [] ∧ ∀ t ∈ sufs (nR b), lexB t z = true → whoseI b (knownN t) ≠ [] := by
  rw [free_eq ho, List.filter_eq_cons_iff] at h
  obtain ⟨l1, l2, e, h1, h2, -⟩ := h
  have hp := sufs_pw (nR b)
  rw [e] at hp ⊢
  refine ⟨by simp, by simpa using h2, fun t ht hlt => ?_⟩
  rcases List.mem_append.1 ht with ht | ht
  · have := h1 t ht; simpa using this
  · exfalso
    rcases List.mem_cons.1 ht with rfl | ht
    · rw [lexB_irr] at hlt; cases hlt
    · rw [List.pairwise_append] at hp
      have := (List.pairwise_cons.1 hp.2.1).1 t ht
      have := lexB_trans this hlt
      rw [lexB_irr] at this; cases this
end Go.Proofs.Ytlghbmancjjdjaa
