/- Contracts of dapple: where it is best to look. Contracts of dapple's statements: the chapter's books and examples. -/
import Derived.Test.YthibnlfbdbidjaaKv04
namespace Go.Proofs.Ythibnlfbdbidjaa
open Go.RowKit
def ac152 : AC := (AC.seq (AC.ops [(AOp.mk (some 2) (AK.box 1 (AX.t 0)) none 0 false true), (AOp.mk (some 3) (AK.box 2 (AX.t 1)) none 1 false true), (AOp.mk (some 4) (AK.mv (AX.c (PV.val (Value.int IntKind.i64 0)))) none 2 false true)]) (AC.seq (AC.ops [(AOp.mk (some 5) (AK.new (PV.val (Value.int IntKind.i64 0))) none 0 false true), (AOp.mk none (AK.st 1 (AX.t 5) (AX.c (PV.val (Value.int IntKind.i64 0)))) none 1 false true)]) (AC.seq (AC.seq (AC.ops [(AOp.mk (some 7) (AK.ld none (AX.t 2)) none 0 true false), (AOp.mk (some 8) (AK.nilc (AX.t 7)) none 1 true false), (AOp.mk (some 9) (AK.fadr 2 (AX.t 8)) none 2 true false), (AOp.mk (some 10) (AK.ld none (AX.t 9)) none 3 true false), (AOp.mk (some 11) (AK.ld (some 2) (AX.t 3)) none 4 true false), (AOp.mk (some 12) (AK.lkp [CK.i, CK.i] true (PV.agg [(PV.val (Value.int IntKind.i64 0)), (PV.val (Value.int IntKind.i64 0)), (PV.val (Value.int IntKind.i64 0)), (PV.val (Value.int IntKind.i64 0)), (PV.val (Value.int IntKind.i64 0)), (PV.val (Value.int IntKind.i64 0)), (PV.val (Value.int IntKind.i64 0)), (PV.val (Value.int IntKind.i64 0))]) false (AX.t 10) (AX.t 11)) none 5 true true), (AOp.mk (some 13) (AK.idx 1 8 none (AX.t 12) (AX.c (PV.val (Value.int IntKind.i64 0)))) none 6 true true), (AOp.mk (some 14) (AK.call 143 [(AX.t 13)]) none 7 false true)]) (AC.block 0 (AC.rng (AX.t 14) [15] (AC.ops [(AOp.mk (some 6) (AK.mv (AX.t 15)) none 0 false true)]) (AC.block 1 (AC.ops [(AOp.mk (some 16) (AK.ld none (AX.t 5)) none 0 true false), (AOp.mk (some 17) (AK.ld none (AX.t 2)) none 1 true false), (AOp.mk (some 18) (AK.ld (some 2) (AX.t 3)) none 2 true false), (AOp.mk (some 19) (AK.mv (AX.t 6)) none 3 true false), (AOp.mk (some 20) (AK.call 166 [(AX.t 17), (AX.t 18), (AX.t 19)]) none 4 false false), (AOp.mk (some 21) (AK.call 167 [(AX.t 20)]) none 5 false false), (AOp.mk (some 22) (AK.bslice false 3 1 1 [(PV.val (Value.int IntKind.i64 0))] [(0, (1, (AX.t 21)))]) none 6 false false), (AOp.mk (some 23) (AK.call 108 [(AX.t 16), (AX.t 22)]) none 7 false true), (AOp.mk none (AK.st 1 (AX.t 5) (AX.t 23)) none 8 false true)]))))) (AC.seq (AC.ops [(AOp.mk (some 24) (AK.ld none (AX.t 5)) none 0 false true), (AOp.mk (some 4) (AK.mv (AX.t 24)) none 1 false true)]) AC.ret))))
theorem ac152_ok : cCode Try.prog (fun _ => false) Try.f152.ntmps (Try.f152.body.getD .skip) = some ac152 := by kernel_rfl
def ac125 : AC := (AC.seq (AC.ops [(AOp.mk (some 1) (AK.box 1 (AX.t 0)) none 0 false true), (AOp.mk (some 2) (AK.mv (AX.c (PV.val Value.nilFunc))) none 1 false true)]) (AC.seq (AC.ops [(AOp.mk (some 3) (AK.mkf 151 [] [(AX.t 1)]) none 0 false true), (AOp.mk (some 2) (AK.mv (AX.t 3)) none 1 false true)]) AC.ret))
theorem ac125_ok : cCode Try.prog (fun _ => false) Try.f125.ntmps (Try.f125.body.getD .skip) = some ac125 := by kernel_rfl
def ac151 : AC := (AC.seq (AC.ops [(AOp.mk (some 7) (AK.ld none (AX.t 1)) none 0 false true), (AOp.mk (some 8) (AK.nilc (AX.t 7)) none 1 false true), (AOp.mk (some 9) (AK.fadr 0 (AX.t 8)) none 2 false true), (AOp.mk (some 10) (AK.fadr 1 (AX.t 9)) none 3 false true), (AOp.mk (some 11) (AK.ld none (AX.t 10)) none 4 false true), (AOp.mk (some 12) (AK.len (AX.t 11)) none 5 false true), (AOp.mk (some 13) (AK.mv (AX.c (PV.val (Value.int IntKind.i64 0)))) none 6 false true)]) (AC.block 0 (AC.loop (AC.seq (AC.ops [(AOp.mk (some 14) (AK.bin false BinOp.lss (AX.t 13) (AX.t 12)) none 0 false true)]) (AC.seq (AC.cond (AX.t 14) AC.skip (AC.exit 0)) (AC.seq (AC.block 1 (AC.seq (AC.ops [(AOp.mk (some 15) (AK.mv (AX.t 13)) none 0 false true), (AOp.mk (some 3) (AK.mv (AX.t 15)) none 1 false true)]) (AC.seq (AC.ops [(AOp.mk (some 16) (AK.ld none (AX.t 1)) none 0 false true), (AOp.mk (some 17) (AK.mv (AX.t 3)) none 1 false true), (AOp.mk (some 18) (AK.call 122 [(AX.t 16), (AX.t 17)]) none 2 false true), (AOp.mk (some 19) (AK.mv (AX.c (PV.val (Value.int IntKind.i64 0)))) none 3 false true)]) (AC.block 2 (AC.loop (AC.seq (AC.ops [(AOp.mk (some 20) (AK.bin false BinOp.lss (AX.t 19) (AX.c (PV.val (Value.int IntKind.i64 8)))) none 0 false true)]) (AC.seq (AC.cond (AX.t 20) AC.skip (AC.exit 2)) (AC.seq (AC.block 3 (AC.seq (AC.ops [(AOp.mk (some 21) (AK.mv (AX.t 19)) none 0 false true), (AOp.mk (some 22) (AK.idx 1 8 none (AX.t 18) (AX.t 19)) none 1 false true), (AOp.mk (some 4) (AK.mv (AX.t 21)) none 2 false true), (AOp.mk (some 5) (AK.mv (AX.t 22)) none 3 false true)]) (AC.seq (AC.ops [(AOp.mk (some 23) (AK.mv (AX.t 3)) none 0 false true), (AOp.mk (some 24) (AK.mv (AX.t 4)) none 1 false true), (AOp.mk (some 25) (AK.build [(PV.val (Value.int IntKind.i64 0)), (PV.val (Value.int IntKind.i64 0))] [(0, (1, (AX.t 23))), (1, (1, (AX.t 24)))]) none 2 false true), (AOp.mk (some 6) (AK.new (PV.agg [(PV.val (Value.int IntKind.i64 0)), (PV.val (Value.int IntKind.i64 0))])) none 3 false true), (AOp.mk none (AK.st 2 (AX.t 6) (AX.t 25)) none 4 false true)]) (AC.seq (AC.ops [(AOp.mk (some 26) (AK.mv (AX.t 5)) none 0 true true), (AOp.mk (some 27) (AK.bin false BinOp.neq (AX.t 26) (AX.c (PV.val (Value.int IntKind.i64 0)))) none 1 true true), (AOp.mk (some 28) (AK.mv (AX.t 27)) none 2 true true), (AOp.mk (some 29) (AK.mv (AX.t 0)) (some (28, true)) 3 true false), (AOp.mk (some 30) (AK.ld (some 2) (AX.t 6)) (some (28, true)) 4 true false), (AOp.mk (some 31) (AK.ld none (AX.t 1)) (some (28, true)) 5 true false), (AOp.mk (some 32) (AK.ld (some 2) (AX.t 6)) (some (28, true)) 6 true false), (AOp.mk (some 33) (AK.call 152 [(AX.t 31), (AX.t 32)]) (some (28, true)) 7 false false), (AOp.mk (some 34) (AK.build [(PV.val (Value.int IntKind.i64 0)), (PV.val (Value.int IntKind.i64 0)), (PV.val (Value.int IntKind.i64 0))] [(0, (2, (AX.t 30))), (2, (1, (AX.t 33)))]) (some (28, true)) 8 true false), (AOp.mk (some 35) (AK.callv (AX.t 29) [(AX.t 34)]) (some (28, true)) 9 false true), (AOp.mk (some 36) (AK.un UnOp.not (AX.t 35)) (some (28, true)) 10 true true), (AOp.mk (some 37) (AK.pick (AX.t 28) (AX.t 36) (AX.c (PV.val (Value.bool false)))) none 11 true true)]) (AC.cond (AX.t 37) AC.ret AC.skip))))) (AC.ops [(AOp.mk (some 38) (AK.bin false BinOp.add (AX.t 19) (AX.c (PV.val (Value.int IntKind.i64 1)))) none 0 false true), (AOp.mk (some 19) (AK.mv (AX.t 38)) none 1 false true)]))))))))) (AC.ops [(AOp.mk (some 39) (AK.bin false BinOp.add (AX.t 13) (AX.c (PV.val (Value.int IntKind.i64 1)))) none 0 false true), (AOp.mk (some 13) (AK.mv (AX.t 39)) none 1 false true)])))))))
theorem ac151_ok : cCode Try.prog (fun _ => false) Try.f151.ntmps (Try.f151.body.getD .skip) = some ac151 := by kernel_rfl
def ac150 : AC := (AC.seq (AC.ops [(AOp.mk (some 2) (AK.new (PV.agg [(PV.val (Value.int IntKind.i64 0)), (PV.val (Value.int IntKind.i64 0)), (PV.val (Value.int IntKind.i64 0))])) none 0 false true), (AOp.mk (some 3) (AK.new (PV.val (Value.bool false))) none 1 false true)]) (AC.seq (AC.seq (AC.ops [(AOp.mk (some 6) (AK.mv (AX.t 0)) none 0 false true)]) (AC.block 0 (AC.rng (AX.t 6) [7] (AC.ops [(AOp.mk (some 4) (AK.new (PV.agg [(PV.val (Value.int IntKind.i64 0)), (PV.val (Value.int IntKind.i64 0)), (PV.val (Value.int IntKind.i64 0))])) none 0 false true), (AOp.mk none (AK.st 3 (AX.t 4) (AX.t 7)) none 1 false true)]) (AC.block 1 (AC.seq (AC.ops [(AOp.mk (some 8) (AK.ld (some 3) (AX.t 4)) none 0 false true), (AOp.mk none (AK.st 3 (AX.t 2) (AX.t 8)) none 1 false true), (AOp.mk none (AK.st 1 (AX.t 3) (AX.c (PV.val (Value.bool true)))) none 2 false true)]) AC.ret))))) (AC.seq (AC.ops [(AOp.mk (some 5) (AK.new (PV.agg [(PV.val (Value.int IntKind.i64 0)), (PV.val (Value.int IntKind.i64 0)), (PV.val (Value.int IntKind.i64 0))])) none 0 false true)]) (AC.seq (AC.ops [(AOp.mk (some 9) (AK.ld (some 3) (AX.t 5)) none 0 false true), (AOp.mk none (AK.st 3 (AX.t 2) (AX.t 9)) none 1 false true), (AOp.mk none (AK.st 1 (AX.t 3) (AX.c (PV.val (Value.bool false)))) none 2 false true)]) AC.ret))))
theorem ac150_ok : cCode Try.prog (fun _ => false) Try.f150.ntmps (Try.f150.body.getD .skip) = some ac150 := by kernel_rfl
def ac123 : AC := (AC.seq (AC.ops [(AOp.mk (some 2) (AK.box 3 (AX.t 0)) none 0 false true), (AOp.mk (some 3) (AK.box 3 (AX.t 1)) none 1 false true), (AOp.mk (some 4) (AK.mv (AX.c (PV.val (Value.bool false)))) none 2 false true)]) (AC.seq (AC.ops [(AOp.mk (some 5) (AK.fadr 2 (AX.t 2)) none 0 false true), (AOp.mk (some 6) (AK.ld none (AX.t 5)) none 1 false true), (AOp.mk (some 7) (AK.fadr 2 (AX.t 3)) none 2 false true), (AOp.mk (some 8) (AK.ld none (AX.t 7)) none 3 false true), (AOp.mk (some 9) (AK.bin false BinOp.lss (AX.t 6) (AX.t 8)) none 4 false true), (AOp.mk (some 4) (AK.mv (AX.t 9)) none 5 false true)]) AC.ret))
theorem ac123_ok : cCode Try.prog (fun _ => false) Try.f123.ntmps (Try.f123.body.getD .skip) = some ac123 := by kernel_rfl
def ac124 : AC := (AC.seq (AC.ops [(AOp.mk (some 2) (AK.box 1 (AX.t 0)) none 0 false true), (AOp.mk (some 4) (AK.new (PV.agg [(PV.val (Value.int IntKind.i64 0)), (PV.val (Value.int IntKind.i64 0)), (PV.val (Value.int IntKind.i64 0))])) none 1 false true)]) (AC.seq (AC.ops [(AOp.mk (some 9) (AK.mv (AX.t 1)) none 0 false true), (AOp.mk (some 10) (AK.call 150 [(AX.t 9)]) none 1 false true), (AOp.mk (some 8) (AK.mv (AX.t 10)) none 2 false true), (AOp.mk (some 11) (AK.ext (AX.t 8) 0) none 3 false true), (AOp.mk (some 12) (AK.ext (AX.t 8) 1) none 4 false true), (AOp.mk (some 5) (AK.new (PV.agg [(PV.val (Value.int IntKind.i64 0)), (PV.val (Value.int IntKind.i64 0)), (PV.val (Value.int IntKind.i64 0))])) none 5 false true), (AOp.mk none (AK.st 3 (AX.t 5) (AX.t 11)) none 6 false true), (AOp.mk (some 6) (AK.mv (AX.t 12)) none 7 false true)]) (AC.seq (AC.seq (AC.ops [(AOp.mk (some 13) (AK.mv (AX.t 1)) none 0 false true)]) (AC.block 0 (AC.rng (AX.t 13) [14] (AC.ops [(AOp.mk (some 7) (AK.new (PV.agg [(PV.val (Value.int IntKind.i64 0)), (PV.val (Value.int IntKind.i64 0)), (PV.val (Value.int IntKind.i64 0))])) none 0 false true), (AOp.mk none (AK.st 3 (AX.t 7) (AX.t 14)) none 1 false true)]) (AC.block 1 (AC.seq (AC.ops [(AOp.mk (some 15) (AK.fadr 0 (AX.t 2)) none 0 false true), (AOp.mk (some 16) (AK.ld none (AX.t 15)) none 1 false true), (AOp.mk (some 17) (AK.ld (some 3) (AX.t 7)) none 2 false true), (AOp.mk (some 18) (AK.ld (some 3) (AX.t 5)) none 3 false true), (AOp.mk (some 19) (AK.callv (AX.t 16) [(AX.t 17), (AX.t 18)]) none 4 false true)]) (AC.cond (AX.t 19) (AC.ops [(AOp.mk (some 20) (AK.ld (some 3) (AX.t 7)) none 0 false true), (AOp.mk none (AK.st 3 (AX.t 5) (AX.t 20)) none 1 false true)]) AC.skip)))))) (AC.seq (AC.ops [(AOp.mk (some 21) (AK.ld (some 3) (AX.t 5)) none 0 false true), (AOp.mk none (AK.st 3 (AX.t 4) (AX.t 21)) none 1 false true)]) AC.ret))))
theorem ac124_ok : cCode Try.prog (fun _ => false) Try.f124.ntmps (Try.f124.body.getD .skip) = some ac124 := by kernel_rfl
def ac89 : AC := (AC.seq (AC.ops [(AOp.mk (some 2) (AK.new (PV.agg [(PV.val (Value.int IntKind.i64 0)), (PV.val (Value.int IntKind.i64 0)), (PV.val (Value.int IntKind.i64 0))])) none 0 false true)]) (AC.seq (AC.ops [(AOp.mk (some 4) (AK.build [(PV.val Value.nilFunc)] [(0, (1, (AX.c (PV.val (Value.func (Fn.func 123) #[] #[])))))]) none 0 false true), (AOp.mk (some 3) (AK.new (PV.agg [(PV.val Value.nilFunc)])) none 1 false true), (AOp.mk none (AK.st 1 (AX.t 3) (AX.t 4)) none 2 false true)]) (AC.seq (AC.ops [(AOp.mk (some 5) (AK.ld (some 1) (AX.t 3)) none 0 true false), (AOp.mk (some 6) (AK.mv (AX.t 0)) none 1 true false), (AOp.mk (some 7) (AK.call 125 [(AX.t 6)]) none 2 false false), (AOp.mk (some 8) (AK.call 124 [(AX.t 5), (AX.t 7)]) none 3 false true), (AOp.mk none (AK.st 3 (AX.t 2) (AX.t 8)) none 4 false true)]) AC.ret)))
theorem ac89_ok : cCode Try.prog (fun _ => false) Try.f89.ntmps (Try.f89.body.getD .skip) = some ac89 := by kernel_rfl
def ac36 : AC := (AC.seq (AC.ops [(AOp.mk (some 1) (AK.box 2 (AX.t 0)) none 0 false true), (AOp.mk (some 2) (AK.mv (AX.c (PV.val (Value.int IntKind.i64 0)))) none 1 false true), (AOp.mk (some 3) (AK.mv (AX.c (PV.val (Value.int IntKind.i64 0)))) none 2 false true), (AOp.mk (some 4) (AK.mv (AX.c (PV.val (Value.int IntKind.i64 0)))) none 3 false true)]) (AC.seq (AC.ops [(AOp.mk (some 8) (AK.ld (some 2) (AX.t 1)) none 0 false true), (AOp.mk (some 9) (AK.call 64 [(AX.t 8), (AX.c (PV.val (Value.bool true)))]) none 1 false true), (AOp.mk (some 7) (AK.mv (AX.t 9)) none 2 false true), (AOp.mk (some 10) (AK.ext (AX.t 7) 0) none 3 false true), (AOp.mk (some 11) (AK.ext (AX.t 7) 1) none 4 false true), (AOp.mk (some 5) (AK.mv (AX.t 10)) none 5 false true), (AOp.mk (some 4) (AK.mv (AX.t 11)) none 6 false true)]) (AC.seq (AC.seq (AC.ops [(AOp.mk (some 12) (AK.mv (AX.t 4)) none 0 false true), (AOp.mk (some 13) (AK.bin false BinOp.neq (AX.t 12) (AX.c (PV.val (Value.int IntKind.i64 0)))) none 1 false true)]) (AC.cond (AX.t 13) (AC.seq (AC.ops [(AOp.mk (some 14) (AK.mv (AX.t 4)) none 0 false true), (AOp.mk (some 2) (AK.mv (AX.c (PV.val (Value.int IntKind.i64 0)))) none 1 false true), (AOp.mk (some 3) (AK.mv (AX.c (PV.val (Value.int IntKind.i64 0)))) none 2 false true), (AOp.mk (some 4) (AK.mv (AX.t 14)) none 3 false true)]) AC.ret) AC.skip)) (AC.seq (AC.seq (AC.ops [(AOp.mk (some 15) (AK.mv (AX.t 5)) none 0 false true), (AOp.mk (some 16) (AK.call 88 [(AX.t 15)]) none 1 false true)]) (AC.cond (AX.t 16) (AC.seq (AC.ops [(AOp.mk (some 2) (AK.mv (AX.c (PV.val (Value.int IntKind.i64 0)))) none 0 false true), (AOp.mk (some 3) (AK.mv (AX.c (PV.val (Value.int IntKind.i64 0)))) none 1 false true), (AOp.mk (some 4) (AK.mv (AX.c (PV.val (Value.int IntKind.i64 4)))) none 2 false true)]) AC.ret) AC.skip)) (AC.seq (AC.ops [(AOp.mk (some 17) (AK.mv (AX.t 5)) none 0 false true), (AOp.mk (some 18) (AK.call 89 [(AX.t 17)]) none 1 false true), (AOp.mk (some 6) (AK.new (PV.agg [(PV.val (Value.int IntKind.i64 0)), (PV.val (Value.int IntKind.i64 0)), (PV.val (Value.int IntKind.i64 0))])) none 2 false true), (AOp.mk none (AK.st 3 (AX.t 6) (AX.t 18)) none 3 false true)]) (AC.seq (AC.ops [(AOp.mk (some 19) (AK.fadr 0 (AX.t 6)) none 0 true false), (AOp.mk (some 20) (AK.fadr 0 (AX.t 19)) none 1 true false), (AOp.mk (some 21) (AK.ld none (AX.t 20)) none 2 true false), (AOp.mk (some 22) (AK.fadr 0 (AX.t 6)) none 3 true false), (AOp.mk (some 23) (AK.fadr 1 (AX.t 22)) none 4 true false), (AOp.mk (some 24) (AK.ld none (AX.t 23)) none 5 true false), (AOp.mk (some 2) (AK.mv (AX.t 21)) none 6 true false), (AOp.mk (some 3) (AK.mv (AX.t 24)) none 7 true true), (AOp.mk (some 4) (AK.mv (AX.c (PV.val (Value.int IntKind.i64 0)))) none 8 true true)]) AC.ret))))))
theorem ac36_ok : cCode Try.prog (fun _ => false) Try.f36.ntmps (Try.f36.body.getD .skip) = some ac36 := by kernel_rfl
def worstF (b : DBook) (h p : Nat) (l : List Nat) : Int := l.foldl (fun m s => maxI true m (clashI (knowB b h p s))) 0
def worstI (b : DBook) (h p : Nat) : Int := worstF b h p (sizesL ((rowL b h p).getD 0 0))
theorem worst_sem (k : SK) {b : DBook} (ho : okBook b) {h p : Nat} (hh : h < b.horses.length) (hp : p < nR b) : Sem1 152 [bookP k b, .agg [pi h, pi p]] (pi (worstI b h p)) := by
  have hrl : (rowL b h p).length = 8 := rowN_len ..
  have hr0 : ((rowL b h p).map pi)[0]? = some (pi ((rowL b h p).getD 0 0)) := cell_ints (by omega)
  unfold worstI
  obtain ⟨x, hx⟩ : ∃ x, (rowL b h p).getD 0 0 = x := ⟨_, rfl⟩
  rw [hx] at hr0 ⊢
  refine semC_of_exec' mixed Try.func152 (by kernel_rfl) (by kernel_rfl) ac152_ok 2 rfl (by decide) [(.tmp 4)] (by kernel_rfl) ?_
  intro hr C hC hI
  unfold ac152
  simp only [go_sem, Nat.reduceBEq, Nat.reduceAdd, look_row hh hp, Option.map_some, putCells]
  simp only [go_sem, Nat.reduceBEq, show idxS 1 8 none (.p (.agg ((rowL b h p).map pi))) (.p (pi 0)) = _ from idx8 (j := 0) (by omega) hr0]
  refine call_pure2 hC (sizes_sem x) rfl (PVleL_refl _) ?_
  rintro r rfl
  simp only [go_sem]
  refine rng_m (ι := Unit) (sizesL x) encT [2, 3, 5] (fun q _ => [.cells [.p (bookP k b)], .cells [.p (pi h), .p (pi p)], .cells [.p (pi (worstF b h p ((sizesL x).take q)))]]) (fun _ _ => []) (fun _ => some []) (fun _ _ => True) () rfl rfl (hI _ _ _ (sizes_it x)) ?_ (fun _ => rfl) (by simp [Wk, wkT, wkL, look, AV.lo, AV.lo.loL, keepS, worstF]) trivial ?_ ?_
  · simp only [noY_turns, noY.noYL, noY, Bool.and_true]
  · rintro q - hq -
    obtain ⟨hs4, hsx⟩ := mem_sizes.1 (List.getElem_mem hq)
    have hn : worstF b h p ((sizesL x).take (q + 1)) = maxI true (worstF b h p ((sizesL x).take q)) (clashI (knowB b h p (sizesL x)[q])) := by
      unfold worstF
      rw [List.take_succ_eq_append_getElem hq, List.foldl_append]
      rfl
    simp only [go_sem, Nat.reduceBEq, Nat.reduceAdd, encT]
    refine call_pure2 hC (knowing_sem k ho h p hs4) rfl (PVleL_refl _) ?_
    rintro r rfl
    simp only [go_sem, Nat.reduceBEq]
    refine call_pure2 hC (clashes_sem .sh (knowB_ok ho h p hs4)) rfl (PVleL_refl _) ?_
    rintro r rfl
    simp only [go_sem, Nat.reduceBEq]
    refine call_pure2 hC (greatest_sem .full _ _) rfl (PVleL_refl _) ?_
    rintro r rfl
    simp only [go_sem, Nat.reduceBEq, putCells]
    refine ⟨(), ?_⟩
    rw [hn]
    exact by simp [Wk, wkT, wkL, look, AV.lo, AV.lo.loL, ABlk.toZ]
  · rintro - -
    rw [List.take_length]
    simp only [go_sem, Nat.reduceBEq]
    exact retQ_one rfl rfl
def encC (b : DBook) (v : Nat × Nat) : List PV := [.agg [pi v.1, pi v.2, pi (worstI b v.1 v.2)]]
def chIL (b : DBook) (h j : Nat) : List (Nat × Nat) := (((List.range 8).drop j).filter fun p => decide (openF b h p ≠ 0)).map fun p => (h, p)
def chL (b : DBook) (i : Nat) : List (Nat × Nat) := ((List.range b.horses.length).drop i).flatMap fun h => chIL b h 0
def chO (b : DBook) (i : Nat) : List (List PV) := (chL b i).map (encC b)
def chI (b : DBook) (h j : Nat) : List (List PV) := (chIL b h j).map (encC b)
theorem chO_next {b : DBook} {i : Nat} (h : i < b.horses.length) : chO b i = chI b i 0 ++ chO b (i + 1) := by
  unfold chO chI chL
  rw [List.drop_eq_getElem_cons (by simpa using h), List.flatMap_cons, List.map_append, List.getElem_range]
theorem chO_end (b : DBook) : chO b b.horses.length = [] := by
  unfold chO chL
  rw [List.drop_eq_nil_of_le (by simp)]
  rfl
theorem chI_next (b : DBook) (h : Nat) {j : Nat} (hj : j < 8) : chI b h j = (if openF b h j = 0 then [] else [encC b (h, j)]) ++ chI b h (j + 1) := by
  unfold chI chIL
  rw [List.drop_eq_getElem_cons (by simpa using hj), List.filter_cons]
  simp only [List.getElem_range]
  by_cases h0 : openF b h j = 0
  · simp [h0]
  · simp [h0]
theorem chI_end (b : DBook) (h : Nat) : chI b h 8 = [] := rfl
theorem rowL_out {b : DBook} {h t p : Nat} (hp : nR b ≤ p) : (rowL b h t).getD p 0 = 0 := by
  unfold rowL rowN
  rw [List.getD_eq_getElem?_getD, List.getElem?_map]
  rcases Nat.lt_or_ge p 8 with h8 | h8
  · rw [List.getElem?_range h8]
    show (if p < nR b then _ else (0 : Int)) = 0
    rw [if_neg (by omega)]
  · rw [List.getElem?_eq_none (show (List.range 8).length ≤ p by simpa using h8)]
    rfl
theorem openF_lt {b : DBook} {h p : Nat} (h0 : openF b h p ≠ 0) : p < nR b := by
  rcases Nat.lt_or_ge p (nR b) with hp | hp
  · exact hp
  · refine absurd ?_ h0
    unfold openF
    rw [rowL_out hp]
    exact ite_self _
theorem choices_sem (k : SK) (b : DBook) : Sem1 125 [bookP k b] (.clo 151 [] [.ptr [bookP k b] 0]) := by
  refine semC_of_exec' mixed Try.func125 (by kernel_rfl) (by kernel_rfl) ac125_ok 1 rfl (by decide) [(.tmp 2)] (by kernel_rfl) ?_
  intro hr C hC hI
  unfold ac125
  simp only [go_sem, Nat.reduceBEq]
  exact retQ_pur rfl rfl (PVle.refl _) rfl
theorem open_get {b : DBook} {h j : Nat} (hj : j < 8) : ((openL b h).map pi)[j]? = some (pi (openF b h j)) := by
  unfold openL arrN
  simp [hj]
theorem choices_it (k : SK) {b : DBook} (ho : okBook b) : IterC Try.prog Fence.wide 151 [.yld, .ptr [bookP k b] 0] (chO b 0) := by
  have h6 := ho.2.1
  obtain ⟨h1, h8, hn⟩ := okR ho
  refine iterC_of_exec' mixed Try.func151 (by kernel_rfl) (by kernel_rfl) ac151_ok 2 rfl (by decide) (by kernel_rfl) ?_
  intro C hC hI
  unfold ac151
  simp only [go_sem, Nat.reduceBEq, List.length_map]
  refine loop_ky b.horses.length (fun _ => True) [0, 1, 12] (fun i => [(13, .p (pi i))]) (fun _ => []) (fun i => some (chO b i)) trivial (by simp [Wk, wkT, wkL, look, AV.lo, keepS]) ?_
  rintro i ⟨hi, -⟩
  simp only [go_sem, Nat.reduceBEq]
  refine ⟨fun h5 => ?_, fun h5 => ?_⟩
  · have hi2 : i < b.horses.length := by omega
    rw [chO_next hi2]
    refine call_pure2 hC (open_sem k ho hi2) rfl (PVleL_refl _) ?_
    rintro r rfl
    simp only [go_sem]
    refine loop_ky 8 (fun _ => True) [0, 1, 3, 12, 13, 18] (fun j => [(19, .p (pi j))]) (fun _ => []) (fun j => some (chI b i j ++ chO b (i + 1))) trivial (by simp [Wk, wkT, wkL, look, AV.lo, keepS]) ?_
    rintro j ⟨hj, -⟩
    simp only [go_sem, Nat.reduceBEq]
    refine ⟨fun h6 => ?_, fun h6 => ?_⟩
    · have hj2 : j < 8 := by omega
      have hget := open_get (b := b) (h := i) hj2
      have hnx := chI_next b i hj2
      by_cases h0 : openF b i j = 0
      · rw [h0] at hget
        rw [if_pos h0, List.nil_append] at hnx
        rw [hnx]
        simp only [go_sem, Nat.reduceBEq, Nat.reduceAdd, Nat.reduceLeDiff, idx8 hj2 hget, putCells, wrap_succ (k := j) (by omega)]
        refine ⟨fun h => h.elim, fun _ => ?_⟩
        exact ⟨⟨j + 1, hj2, trivial⟩, by simp only; omega, by simp [Wk, wkT, wkL, look, AV.lo]⟩
      · rw [if_neg h0, List.singleton_append] at hnx
        rw [hnx, List.cons_append]
        simp only [go_sem, Nat.reduceBEq, Nat.reduceAdd, Nat.reduceLeDiff, idx8 hj2 hget, putCells]
        refine ⟨fun _ => ?_, fun h => absurd h h0⟩
        refine call_pure2 hC (worst_sem k ho hi2 (openF_lt h0)) rfl (PVleL_refl _) ?_
        rintro r rfl
        simp only [go_sem, Nat.reduceBEq, Nat.reduceAdd, Nat.reduceLeDiff]
        simp only [go_sem, wrap_succ (k := j) (by omega), encC]
        refine ⟨PVleL_refl _, ⟨⟨j + 1, hj2, trivial⟩, by simp only; omega, ?_⟩, .inr rfl⟩
        exact by simp [Wk, wkT, wkL, look, AV.lo]
    · have hjn : j = 8 := by omega
      subst hjn
      rw [chI_end, List.nil_append]
      simp only [go_sem, wrap_succ (k := i) (by omega)]
      exact ⟨⟨i + 1, hi2, trivial⟩, by simp only; omega, by simp [Wk, wkT, wkL, look, AV.lo]⟩
  · have hin : i = b.horses.length := by omega
    subst hin
    rw [chO_end]
    exact .inl rfl
def lessC (b : DBook) (v w : Nat × Nat) : Bool := decide (worstI b v.1 v.2 < worstI b w.1 w.2)
def bestF (b : DBook) (v : Nat × Nat) (l : List (Nat × Nat)) : Nat × Nat := l.foldl (fun m c => if lessC b c m then c else m) v
theorem retQ_cellsG {P : Program} {t t' : Nat} {ty ty' : TypeId} {n n' : Option Nat} {R : PV → Prop} {s : AS} {x y : PV} (hs : shapeN P ty = some n) (hs' : shapeN P ty' = some n') (h : stillV s (.ld n (.t t)) = some (.p x)) (h' : stillV s (.ld n' (.t t')) = some (.p y)) (hR : R (.tup [x, y])) : retQ P [.cell t ty, .cell t' ty'] R s :=
  ⟨[.p x, .p y], [x, y], s.loc, .tup [x, y], by simp [resA, hs, hs', h, h'], rfl, PVle.refl _, hR⟩
theorem firstC_sem {b : DBook} {f : FuncId} {fi cap : List PV} {v : Nat × Nat} {zs : List (Nat × Nat)} (hit : IterC Try.prog Fence.wide f (fi ++ .yld :: cap) ((v :: zs).map (encC b))) (hno : (noY.noYL fi && noY.noYL cap) = true) : Sem1 150 [.clo f fi cap] (.tup [.agg [pi v.1, pi v.2, pi (worstI b v.1 v.2)], pb true]) := by
  refine semC_of_exec' mixed Try.func150 (by kernel_rfl) (by kernel_rfl) ac150_ok 1 rfl (by decide) [(.cell 2 106), (.cell 3 4)] (by kernel_rfl) ?_
  intro hr C hC hI
  unfold ac150
  simp only [go_sem, Nat.reduceBEq]
  refine rng_m (ι := Unit) (v :: zs) (encC b) [2, 3] (fun _ _ => [.cells [.p (pi 0), .p (pi 0), .p (pi 0)], .cells [.p (pb false)]]) (fun _ _ => []) (fun _ => some []) (fun i _ => i = 0) () rfl rfl (hI _ _ _ hit) ?_ (fun _ => rfl) (by simp [Wk, wkT, wkL, look, AV.lo, AV.lo.loL, keepS]) rfl ?_ ?_
  · simp only [show noY.noYR ((v :: zs).map (encC b)) = true from noYR_map (fun _ => rfl) _, hno, Bool.and_true]
  · rintro q - hq hok
    subst hok
    rw [List.getElem_cons_zero]
    simp only [go_sem, Nat.reduceBEq, Nat.reduceAdd, Nat.reduceEqDiff, encC, putCells]
    exact retQ_cellsG (n := some 3) (n' := none) (by kernel_rfl) (by kernel_rfl) rfl rfl rfl
  · rintro - hok
    exact absurd hok (by simp)
theorem look1_sem (b : DBook) (v w : Nat × Nat) : Sem1 123 [.agg [pi v.1, pi v.2, pi (worstI b v.1 v.2)], .agg [pi w.1, pi w.2, pi (worstI b w.1 w.2)]] (pb (lessC b v w)) := by
  refine semC_of_exec' mixed Try.func123 (by kernel_rfl) (by kernel_rfl) ac123_ok 2 rfl (by decide) [(.tmp 4)] (by kernel_rfl) ?_
  intro hr C hC hI
  unfold ac123
  simp only [go_sem, Nat.reduceBEq, Nat.reduceAdd]
  exact retQ_one rfl rfl
theorem best_sem {b : DBook} {f : FuncId} {fi cap : List PV} {v : Nat × Nat} {l zs : List (Nat × Nat)} (hlv : l = v :: zs) (hit : IterC Try.prog Fence.wide f (fi ++ .yld :: cap) (l.map (encC b))) (hno : (noY.noYL fi && noY.noYL cap) = true) {R : Nat × Nat} (hR : bestF b v l = R) : Sem1 124 [.agg [fnV 123], .clo f fi cap] (.agg [pi R.1, pi R.2, pi (worstI b R.1 R.2)]) := by
  refine semC_of_exec' mixed Try.func124 (by kernel_rfl) (by kernel_rfl) ac124_ok 2 rfl (by decide) [(.cell 4 106)] (by kernel_rfl) ?_
  intro hr C hC hI
  unfold ac124
  simp only [go_sem, Nat.reduceBEq]
  refine call_pure2 hC (firstC_sem (hlv ▸ hit) hno) rfl (PVleL_refl _) ?_
  rintro r rfl
  simp only [go_sem, Nat.reduceBEq, Nat.reduceAdd, putCells]
  refine rng_m (ι := Unit) l (encC b) [2, 4, 5] (fun i _ => [.cells [.p (fnV 123)], .cells [.p (pi 0), .p (pi 0), .p (pi 0)], .cells [.p (pi (bestF b v (l.take i)).1), .p (pi (bestF b v (l.take i)).2), .p (pi (worstI b (bestF b v (l.take i)).1 (bestF b v (l.take i)).2))]]) (fun _ _ => []) (fun _ => some []) (fun _ _ => True) () rfl rfl (hI _ _ _ hit) ?_ (fun _ => rfl) (by simp [Wk, wkT, wkL, look, AV.lo, AV.lo.loL, keepS, bestF]) trivial ?_ ?_
  · simp only [show noY.noYR (l.map (encC b)) = true from noYR_map (fun _ => rfl) _, hno, Bool.and_true]
  · rintro q - hq -
    have hn : bestF b v (l.take (q + 1)) = if lessC b l[q] (bestF b v (l.take q)) then l[q] else bestF b v (l.take q) := by
      unfold bestF
      rw [List.take_succ_eq_append_getElem hq, List.foldl_append]
      rfl
    obtain ⟨c, hc⟩ : ∃ c, l[q] = c := ⟨_, rfl⟩
    obtain ⟨m, hm⟩ : ∃ m, bestF b v (l.take q) = m := ⟨_, rfl⟩
    rw [hc, hm] at hn
    rw [hc, hm]
    simp only [go_sem, Nat.reduceBEq, Nat.reduceAdd, encC, putCells]
    refine call_pure2 hC (look1_sem b c m) rfl (PVleL_refl _) ?_
    rintro r rfl
    simp only [go_sem, Nat.reduceBEq]
    cases hl : lessC b c m
    · rw [hl, if_neg (by decide)] at hn
      simp only [go_sem]
      refine ⟨(), ?_⟩
      rw [hn]
      exact by simp [Wk, wkT, wkL, look, AV.lo, AV.lo.loL, ABlk.toZ]
    · rw [hl, if_pos rfl] at hn
      simp only [go_sem, Nat.reduceBEq, Nat.reduceAdd, putCells]
      refine ⟨(), ?_⟩
      rw [hn]
      exact by simp [Wk, wkT, wkL, look, AV.lo, AV.lo.loL, ABlk.toZ]
  · rintro - -
    rw [List.take_length, hR]
    simp only [go_sem, Nat.reduceBEq, Nat.reduceAdd, putCells]
    exact retQ_cell (n := some 3) (by kernel_rfl) rfl rfl
def lookI (b : DBook) : Nat × Nat := match chL b 0 with | [] => (0, 0) | v :: zs => bestF b v (v :: zs)
theorem look_sem (k : SK) {b : DBook} (ho : okBook b) (hne : chL b 0 ≠ []) : Sem1 89 [bookP k b] (.agg [pi (lookI b).1, pi (lookI b).2, pi (worstI b (lookI b).1 (lookI b).2)]) := by
  have hit := choices_it k ho
  unfold chO at hit
  obtain ⟨v, zs, hl⟩ : ∃ v zs, chL b 0 = v :: zs := List.exists_cons_of_ne_nil hne
  have hR : bestF b v (chL b 0) = lookI b := by unfold lookI; rw [hl]
  refine semC_of_exec' mixed Try.func89 (by kernel_rfl) (by kernel_rfl) ac89_ok 1 rfl (by decide) [(.cell 2 106)] (by kernel_rfl) ?_
  intro hr C hC hI
  unfold ac89
  simp only [go_sem, Nat.reduceBEq, putCells]
  refine call_pure2 hC (choices_sem k b) rfl (PVleL_refl _) ?_
  rintro r rfl
  simp only [go_sem, Nat.reduceBEq]
  refine call_pure2 hC (best_sem hl hit (by simp only [noY.noYL, noY, noY_rows, noY_rowsE, Bool.and_true]) hR) rfl (PVleL_refl _) ?_
  rintro r rfl
  simp only [go_sem, Nat.reduceBEq, Nat.reduceAdd, putCells]
  exact retQ_cell (n := some 3) (by kernel_rfl) rfl rfl
theorem mem_chL {b : DBook} {h p : Nat} : (h, p) ∈ chL b 0 ↔ h < b.horses.length ∧ p < 8 ∧ openF b h p ≠ 0 := by
  unfold chL chIL
  simp only [List.drop_zero, List.mem_flatMap, List.mem_range, List.mem_map, List.mem_filter, decide_eq_true_eq, Prod.mk.injEq]
  constructor
  · rintro ⟨h', hh, p', ⟨hp, h0⟩, rfl, rfl⟩
    exact ⟨hh, hp, h0⟩
  · rintro ⟨hh, hp, h0⟩
    exact ⟨h, hh, p, ⟨hp, h0⟩, rfl, rfl⟩
theorem knownH_iff {b : DBook} {h : Nat} : knownH b h = true ↔ ∀ p, p < 8 → openF b h p = 0 := by
  unfold knownH
  rw [decide_eq_true_eq]
  constructor
  · intro e p hp
    have hg := open_get (b := b) (h := h) hp
    rw [e] at hg
    have : p = 0 ∨ p = 1 ∨ p = 2 ∨ p = 3 ∨ p = 4 ∨ p = 5 ∨ p = 6 ∨ p = 7 := by omega
    rcases this with rfl | rfl | rfl | rfl | rfl | rfl | rfl | rfl <;> (simp at hg; exact hg.symm)
  · intro h0
    unfold openL arrN
    simp only [List.range, List.range.loop, List.map_cons, List.map_nil]
    simp [h0]
theorem chL_ne {b : DBook} (hk : knownB b = false) : chL b 0 ≠ [] := by
  intro he
  have : knownB b = true := by
    unfold knownB
    refine List.all_eq_true.2 fun h hh => knownH_iff.2 fun p hp => ?_
    rcases Decidable.em (openF b h p = 0) with h0 | h0
    · exact h0
    · have := mem_chL.2 ⟨List.mem_range.1 hh, hp, h0⟩
      rw [he] at this
      exact absurd this (by simp)
  rw [this] at hk
  cases hk
def lookR (b : DBook) : PV := if okBook b then (if knownB b then .tup [pi 0, pi 0, pi 4] else .tup [pi (lookI b).1, pi (lookI b).2, pi 0]) else .tup [pi 0, pi 0, pi 70]
theorem Look_sem (k : SK) (b : DBook) : Sem1 36 [.agg (bookC k b)] (lookR b) := by
  unfold lookR
  refine semC_of_exec' mixed Try.func36 (by kernel_rfl) (by kernel_rfl) ac36_ok 1 rfl (by decide) [(.tmp 2), (.tmp 3), (.tmp 4)] (by kernel_rfl) ?_
  intro hr C hC hI
  unfold ac36
  simp only [go_sem, Nat.reduceBEq, Nat.reduceAdd]
  refine askP hC k b true (fun hne => ?_) (fun h0 => ?_)
  · have ho : ¬ okBook b := fun ho => errI_ne hne ⟨ho, rfl⟩
    have he : errI b true = 70 := by unfold errI; rw [if_neg ho]
    rw [he, if_neg ho]
    simp only [go_sem, Nat.reduceBEq]
    exact ⟨fun _ => retQ_three rfl rfl rfl rfl, fun h => absurd h (by decide)⟩
  obtain ⟨ho, -⟩ := errI_ok h0
  rw [if_pos ho]
  simp only [go_sem, Nat.reduceBEq]
  refine ⟨fun h => h.elim, fun _ => ?_⟩
  refine call_pure2 hC (isKnown_sem k ho) rfl (PVleL_refl _) ?_
  rintro r rfl
  simp only [go_sem, Nat.reduceBEq]
  cases hk : knownB b
  · simp only [go_sem, Nat.reduceBEq]
    refine call_pure2 hC (look_sem k ho (chL_ne hk)) rfl (PVleL_refl _) ?_
    rintro r rfl
    simp only [go_sem, Nat.reduceBEq, Nat.reduceAdd, putCells]
    exact retQ_three rfl rfl rfl rfl
  · simp only [go_sem]
    exact retQ_three rfl rfl rfl rfl
end Go.Proofs.Ythibnlfbdbidjaa
namespace Go.Proofs.Ythibnlfbdbidjaa
open Go.RowKit
def ac58 : AC := (AC.seq (AC.ops [(AOp.mk (some 0) (AK.new (PV.agg [(PV.val (Value.int IntKind.i64 0)), (PV.sl SK.full 0 [])])) none 0 false true)]) (AC.seq (AC.ops [(AOp.mk (some 1) (AK.bslice false 3 1 4 [(PV.val (Value.int IntKind.i64 0))] [(0, (1, (AX.c (PV.val (Value.int IntKind.i64 2))))), (1, (1, (AX.c (PV.val (Value.int IntKind.i64 1))))), (2, (1, (AX.c (PV.val (Value.int IntKind.i64 4))))), (3, (1, (AX.c (PV.val (Value.int IntKind.i64 1)))))]) none 0 false true), (AOp.mk (some 2) (AK.bslice false 3 1 4 [(PV.val (Value.int IntKind.i64 0))] [(0, (1, (AX.c (PV.val (Value.int IntKind.i64 4))))), (1, (1, (AX.c (PV.val (Value.int IntKind.i64 1))))), (2, (1, (AX.c (PV.val (Value.int IntKind.i64 2))))), (3, (1, (AX.c (PV.val (Value.int IntKind.i64 1)))))]) none 1 false true), (AOp.mk (some 3) (AK.bslice false 3 1 4 [(PV.val (Value.int IntKind.i64 0))] [(0, (1, (AX.c (PV.val (Value.int IntKind.i64 3))))), (1, (1, (AX.c (PV.val (Value.int IntKind.i64 4))))), (2, (1, (AX.c (PV.val (Value.int IntKind.i64 1))))), (3, (1, (AX.c (PV.val (Value.int IntKind.i64 2)))))]) none 2 false true), (AOp.mk (some 4) (AK.bslice false 3 1 4 [(PV.val (Value.int IntKind.i64 0))] [(0, (1, (AX.c (PV.val (Value.int IntKind.i64 8))))), (1, (1, (AX.c (PV.val (Value.int IntKind.i64 8))))), (2, (1, (AX.c (PV.val (Value.int IntKind.i64 8))))), (3, (1, (AX.c (PV.val (Value.int IntKind.i64 8)))))]) none 3 false true), (AOp.mk (some 5) (AK.bslice false 26 1 4 [(PV.sl SK.full 0 [])] [(0, (1, (AX.t 1))), (1, (1, (AX.t 2))), (2, (1, (AX.t 3))), (3, (1, (AX.t 4)))]) none 4 false true), (AOp.mk (some 6) (AK.build [(PV.val (Value.int IntKind.i64 0)), (PV.sl SK.full 0 [])] [(0, (1, (AX.c (PV.val (Value.int IntKind.i64 4))))), (1, (1, (AX.t 5)))]) none 5 false true), (AOp.mk none (AK.st 2 (AX.t 0) (AX.t 6)) none 6 false true)]) AC.ret))
theorem ac58_ok : cCode Try.prog (fun _ => false) Try.f58.ntmps (Try.f58.body.getD .skip) = some ac58 := by kernel_rfl
def ac59 : AC := (AC.seq (AC.ops [(AOp.mk (some 0) (AK.new (PV.agg [(PV.val (Value.int IntKind.i64 0)), (PV.sl SK.full 0 [])])) none 0 false true)]) (AC.seq (AC.ops [(AOp.mk (some 2) (AK.call 58 []) none 0 false true), (AOp.mk (some 1) (AK.new (PV.agg [(PV.val (Value.int IntKind.i64 0)), (PV.sl SK.full 0 [])])) none 1 false true), (AOp.mk none (AK.st 2 (AX.t 1) (AX.t 2)) none 2 false true)]) (AC.seq (AC.ops [(AOp.mk (some 3) (AK.fadr 1 (AX.t 1)) none 0 false true), (AOp.mk (some 4) (AK.ld none (AX.t 3)) none 1 false true), (AOp.mk (some 5) (AK.bslice false 3 1 4 [(PV.val (Value.int IntKind.i64 0))] [(0, (1, (AX.c (PV.val (Value.int IntKind.i64 15))))), (1, (1, (AX.c (PV.val (Value.int IntKind.i64 15))))), (2, (1, (AX.c (PV.val (Value.int IntKind.i64 15))))), (3, (1, (AX.c (PV.val (Value.int IntKind.i64 15)))))]) none 2 false true), (AOp.mk (some 6) (AK.bslice false 26 1 1 [(PV.sl SK.full 0 [])] [(0, (1, (AX.t 5)))]) none 3 false true), (AOp.mk (some 7) (AK.app false 26 1 24 [(PV.sl SK.full 0 [])] (AX.t 4) (AX.t 6)) none 4 false true), (AOp.mk (some 8) (AK.fadr 1 (AX.t 1)) none 5 false true), (AOp.mk none (AK.st 1 (AX.t 8) (AX.t 7)) none 6 false true)]) (AC.seq (AC.ops [(AOp.mk (some 9) (AK.ld (some 2) (AX.t 1)) none 0 false true), (AOp.mk none (AK.st 2 (AX.t 0) (AX.t 9)) none 1 false true)]) AC.ret))))
theorem ac59_ok : cCode Try.prog (fun _ => false) Try.f59.ntmps (Try.f59.body.getD .skip) = some ac59 := by kernel_rfl
def ac25 : AC := (AC.seq (AC.ops [(AOp.mk (some 0) (AK.mv (AX.c (PV.val (Value.bool false)))) none 0 false true)]) (AC.seq (AC.ops [(AOp.mk (some 16) (AK.call 58 []) none 0 false true), (AOp.mk (some 17) (AK.call 18 [(AX.t 16), (AX.c (PV.val (Value.int IntKind.i64 2))), (AX.c (PV.val (Value.int IntKind.i64 0)))]) none 1 false true), (AOp.mk (some 15) (AK.mv (AX.t 17)) none 2 false true), (AOp.mk (some 18) (AK.ext (AX.t 15) 0) none 3 false true), (AOp.mk (some 19) (AK.ext (AX.t 15) 1) none 4 false true), (AOp.mk (some 1) (AK.mv (AX.t 18)) none 5 false true), (AOp.mk (some 2) (AK.mv (AX.t 19)) none 6 false true)]) (AC.seq (AC.ops [(AOp.mk (some 21) (AK.call 58 []) none 0 false true), (AOp.mk (some 22) (AK.call 23 [(AX.t 21), (AX.c (PV.val (Value.int IntKind.i64 0))), (AX.c (PV.val (Value.int IntKind.i64 1)))]) none 1 false true), (AOp.mk (some 20) (AK.mv (AX.t 22)) none 2 false true), (AOp.mk (some 23) (AK.ext (AX.t 20) 0) none 3 false true), (AOp.mk (some 24) (AK.ext (AX.t 20) 1) none 4 false true), (AOp.mk (some 3) (AK.mv (AX.t 23)) none 5 false true), (AOp.mk (some 4) (AK.mv (AX.t 24)) none 6 false true)]) (AC.seq (AC.ops [(AOp.mk (some 26) (AK.call 58 []) none 0 false true), (AOp.mk (some 27) (AK.call 30 [(AX.t 26)]) none 1 false true), (AOp.mk (some 25) (AK.mv (AX.t 27)) none 2 false true), (AOp.mk (some 28) (AK.ext (AX.t 25) 0) none 3 false true), (AOp.mk (some 29) (AK.ext (AX.t 25) 1) none 4 false true), (AOp.mk (some 30) (AK.ext (AX.t 25) 2) none 5 false true), (AOp.mk (some 5) (AK.mv (AX.t 28)) none 6 false true), (AOp.mk (some 6) (AK.mv (AX.t 29)) none 7 false true), (AOp.mk (some 7) (AK.mv (AX.t 30)) none 8 false true)]) (AC.seq (AC.ops [(AOp.mk (some 32) (AK.call 58 []) none 0 false true), (AOp.mk (some 33) (AK.bslice false 3 1 4 [(PV.val (Value.int IntKind.i64 0))] [(0, (1, (AX.c (PV.val (Value.int IntKind.i64 1))))), (1, (1, (AX.c (PV.val (Value.int IntKind.i64 1))))), (2, (1, (AX.c (PV.val (Value.int IntKind.i64 2))))), (3, (1, (AX.c (PV.val (Value.int IntKind.i64 0)))))]) none 1 false true), (AOp.mk (some 34) (AK.call 26 [(AX.t 32), (AX.t 33)]) none 2 false true), (AOp.mk (some 31) (AK.mv (AX.t 34)) none 3 false true), (AOp.mk (some 35) (AK.ext (AX.t 31) 0) none 4 false true), (AOp.mk (some 36) (AK.ext (AX.t 31) 1) none 5 false true), (AOp.mk (some 8) (AK.mv (AX.t 35)) none 6 false true), (AOp.mk (some 9) (AK.mv (AX.t 36)) none 7 false true)]) (AC.seq (AC.ops [(AOp.mk (some 38) (AK.call 59 []) none 0 false true), (AOp.mk (some 39) (AK.call 34 [(AX.t 38)]) none 1 false true), (AOp.mk (some 37) (AK.mv (AX.t 39)) none 2 false true), (AOp.mk (some 40) (AK.ext (AX.t 37) 0) none 3 false true), (AOp.mk (some 41) (AK.ext (AX.t 37) 1) none 4 false true), (AOp.mk (some 10) (AK.mv (AX.t 40)) none 5 false true), (AOp.mk (some 11) (AK.mv (AX.t 41)) none 6 false true)]) (AC.seq (AC.seq (AC.ops [(AOp.mk (some 42) (AK.mv (AX.t 2)) none 0 false true), (AOp.mk (some 43) (AK.bin false BinOp.neq (AX.t 42) (AX.c (PV.val (Value.int IntKind.i64 0)))) none 1 false true), (AOp.mk (some 44) (AK.mv (AX.t 43)) none 2 false true), (AOp.mk (some 45) (AK.mv (AX.t 4)) (some (44, false)) 3 false true), (AOp.mk (some 46) (AK.bin false BinOp.neq (AX.t 45) (AX.c (PV.val (Value.int IntKind.i64 0)))) (some (44, false)) 4 false true), (AOp.mk (some 47) (AK.pick (AX.t 44) (AX.c (PV.val (Value.bool true))) (AX.t 46)) none 5 false true), (AOp.mk (some 48) (AK.mv (AX.t 47)) none 6 false true), (AOp.mk (some 49) (AK.mv (AX.t 7)) (some (48, false)) 7 false true), (AOp.mk (some 50) (AK.bin false BinOp.neq (AX.t 49) (AX.c (PV.val (Value.int IntKind.i64 0)))) (some (48, false)) 8 false true), (AOp.mk (some 51) (AK.pick (AX.t 48) (AX.c (PV.val (Value.bool true))) (AX.t 50)) none 9 false true), (AOp.mk (some 52) (AK.mv (AX.t 51)) none 10 false true), (AOp.mk (some 53) (AK.mv (AX.t 9)) (some (52, false)) 11 false true), (AOp.mk (some 54) (AK.bin false BinOp.neq (AX.t 53) (AX.c (PV.val (Value.int IntKind.i64 0)))) (some (52, false)) 12 false true), (AOp.mk (some 55) (AK.pick (AX.t 52) (AX.c (PV.val (Value.bool true))) (AX.t 54)) none 13 false true), (AOp.mk (some 56) (AK.mv (AX.t 55)) none 14 false true), (AOp.mk (some 57) (AK.mv (AX.t 11)) (some (56, false)) 15 false true), (AOp.mk (some 58) (AK.bin false BinOp.neq (AX.t 57) (AX.c (PV.val (Value.int IntKind.i64 0)))) (some (56, false)) 16 false true), (AOp.mk (some 59) (AK.pick (AX.t 56) (AX.c (PV.val (Value.bool true))) (AX.t 58)) none 17 false true), (AOp.mk (some 60) (AK.mv (AX.t 59)) none 18 false true), (AOp.mk (some 61) (AK.mv (AX.t 1)) (some (60, false)) 19 false true), (AOp.mk (some 62) (AK.bslice false 3 1 1 [(PV.val (Value.int IntKind.i64 0))] [(0, (1, (AX.c (PV.val (Value.int IntKind.i64 3)))))]) (some (60, false)) 20 false true), (AOp.mk (some 63) (AK.call 20 [(AX.t 61), (AX.t 62)]) (some (60, false)) 21 false true), (AOp.mk (some 64) (AK.un UnOp.not (AX.t 63)) (some (60, false)) 22 false true), (AOp.mk (some 65) (AK.pick (AX.t 60) (AX.c (PV.val (Value.bool true))) (AX.t 64)) none 23 false true), (AOp.mk (some 66) (AK.mv (AX.t 65)) none 24 false true), (AOp.mk (some 67) (AK.mv (AX.t 3)) (some (66, false)) 25 false true), (AOp.mk (some 68) (AK.bin false BinOp.neq (AX.t 67) (AX.c (PV.val (Value.int IntKind.i64 2)))) (some (66, false)) 26 false true), (AOp.mk (some 69) (AK.pick (AX.t 66) (AX.c (PV.val (Value.bool true))) (AX.t 68)) none 27 false true), (AOp.mk (some 70) (AK.mv (AX.t 69)) none 28 false true), (AOp.mk (some 71) (AK.mv (AX.t 5)) (some (70, false)) 29 false true), (AOp.mk (some 72) (AK.bin false BinOp.neq (AX.t 71) (AX.c (PV.val (Value.int IntKind.i64 0)))) (some (70, false)) 30 false true), (AOp.mk (some 73) (AK.pick (AX.t 70) (AX.c (PV.val (Value.bool true))) (AX.t 72)) none 31 false true), (AOp.mk (some 74) (AK.mv (AX.t 73)) none 32 false true), (AOp.mk (some 75) (AK.mv (AX.t 6)) (some (74, false)) 33 false true), (AOp.mk (some 76) (AK.bin false BinOp.neq (AX.t 75) (AX.c (PV.val (Value.int IntKind.i64 1)))) (some (74, false)) 34 false true), (AOp.mk (some 77) (AK.pick (AX.t 74) (AX.c (PV.val (Value.bool true))) (AX.t 76)) none 35 false true), (AOp.mk (some 78) (AK.mv (AX.t 77)) none 36 false true), (AOp.mk (some 79) (AK.mv (AX.t 8)) (some (78, false)) 37 false true), (AOp.mk (some 80) (AK.bslice false 3 1 1 [(PV.val (Value.int IntKind.i64 0))] [(0, (1, (AX.c (PV.val (Value.int IntKind.i64 2)))))]) (some (78, false)) 38 false true), (AOp.mk (some 81) (AK.call 20 [(AX.t 79), (AX.t 80)]) (some (78, false)) 39 false true), (AOp.mk (some 82) (AK.un UnOp.not (AX.t 81)) (some (78, false)) 40 false true), (AOp.mk (some 83) (AK.pick (AX.t 78) (AX.c (PV.val (Value.bool true))) (AX.t 82)) none 41 false true), (AOp.mk (some 84) (AK.mv (AX.t 83)) none 42 false true), (AOp.mk (some 85) (AK.mv (AX.t 10)) (some (84, false)) 43 false true), (AOp.mk (some 86) (AK.bslice false 3 1 3 [(PV.val (Value.int IntKind.i64 0))] [(0, (1, (AX.c (PV.val (Value.int IntKind.i64 0))))), (1, (1, (AX.c (PV.val (Value.int IntKind.i64 1))))), (2, (1, (AX.c (PV.val (Value.int IntKind.i64 4)))))]) (some (84, false)) 44 false true), (AOp.mk (some 87) (AK.call 20 [(AX.t 85), (AX.t 86)]) (some (84, false)) 45 false true), (AOp.mk (some 88) (AK.un UnOp.not (AX.t 87)) (some (84, false)) 46 false true), (AOp.mk (some 89) (AK.pick (AX.t 84) (AX.c (PV.val (Value.bool true))) (AX.t 88)) none 47 false true)]) (AC.cond (AX.t 89) (AC.seq (AC.ops [(AOp.mk (some 0) (AK.mv (AX.c (PV.val (Value.bool false)))) none 0 false true)]) AC.ret) AC.skip)) (AC.seq (AC.ops [(AOp.mk (some 91) (AK.call 59 []) none 0 false true), (AOp.mk (some 92) (AK.call 36 [(AX.t 91)]) none 1 false true), (AOp.mk (some 90) (AK.mv (AX.t 92)) none 2 false true), (AOp.mk (some 93) (AK.ext (AX.t 90) 0) none 3 false true), (AOp.mk (some 94) (AK.ext (AX.t 90) 1) none 4 false true), (AOp.mk (some 95) (AK.ext (AX.t 90) 2) none 5 false true), (AOp.mk (some 12) (AK.mv (AX.t 93)) none 6 false true), (AOp.mk (some 13) (AK.mv (AX.t 94)) none 7 false true), (AOp.mk (some 2) (AK.mv (AX.t 95)) none 8 false true)]) (AC.seq (AC.ops [(AOp.mk (some 97) (AK.call 58 []) none 0 false true), (AOp.mk (some 98) (AK.call 28 [(AX.t 97)]) none 1 false true), (AOp.mk (some 96) (AK.mv (AX.t 98)) none 2 false true), (AOp.mk (some 99) (AK.ext (AX.t 96) 0) none 3 false true), (AOp.mk (some 100) (AK.ext (AX.t 96) 1) none 4 false true), (AOp.mk (some 14) (AK.mv (AX.t 99)) none 5 false true), (AOp.mk (some 4) (AK.mv (AX.t 100)) none 6 false true)]) (AC.seq (AC.ops [(AOp.mk (some 101) (AK.mv (AX.t 2)) none 0 false true), (AOp.mk (some 102) (AK.bin false BinOp.eql (AX.t 101) (AX.c (PV.val (Value.int IntKind.i64 0)))) none 1 false true), (AOp.mk (some 103) (AK.mv (AX.t 102)) none 2 false true), (AOp.mk (some 104) (AK.mv (AX.t 4)) (some (103, true)) 3 false true), (AOp.mk (some 105) (AK.bin false BinOp.eql (AX.t 104) (AX.c (PV.val (Value.int IntKind.i64 0)))) (some (103, true)) 4 false true), (AOp.mk (some 106) (AK.pick (AX.t 103) (AX.t 105) (AX.c (PV.val (Value.bool false)))) none 5 false true), (AOp.mk (some 107) (AK.mv (AX.t 106)) none 6 false true), (AOp.mk (some 108) (AK.mv (AX.t 12)) (some (107, true)) 7 false true), (AOp.mk (some 109) (AK.bin false BinOp.eql (AX.t 108) (AX.c (PV.val (Value.int IntKind.i64 4)))) (some (107, true)) 8 false true), (AOp.mk (some 110) (AK.pick (AX.t 107) (AX.t 109) (AX.c (PV.val (Value.bool false)))) none 9 false true), (AOp.mk (some 111) (AK.mv (AX.t 110)) none 10 false true), (AOp.mk (some 112) (AK.mv (AX.t 13)) (some (111, true)) 11 false true), (AOp.mk (some 113) (AK.bin false BinOp.eql (AX.t 112) (AX.c (PV.val (Value.int IntKind.i64 0)))) (some (111, true)) 12 false true), (AOp.mk (some 114) (AK.pick (AX.t 111) (AX.t 113) (AX.c (PV.val (Value.bool false)))) none 13 false true), (AOp.mk (some 115) (AK.mv (AX.t 114)) none 14 false true), (AOp.mk (some 116) (AK.mv (AX.t 14)) (some (115, true)) 15 false true), (AOp.mk (some 117) (AK.bslice false 3 1 4 [(PV.val (Value.int IntKind.i64 0))] [(0, (1, (AX.c (PV.val (Value.int IntKind.i64 0))))), (1, (1, (AX.c (PV.val (Value.int IntKind.i64 0))))), (2, (1, (AX.c (PV.val (Value.int IntKind.i64 0))))), (3, (1, (AX.c (PV.val (Value.int IntKind.i64 0)))))]) (some (115, true)) 16 false true), (AOp.mk (some 118) (AK.call 20 [(AX.t 116), (AX.t 117)]) (some (115, true)) 17 false true), (AOp.mk (some 119) (AK.pick (AX.t 115) (AX.t 118) (AX.c (PV.val (Value.bool false)))) none 18 false true), (AOp.mk (some 0) (AK.mv (AX.t 119)) none 19 false true)]) AC.ret))))))))))
theorem ac25_ok : cCode Try.prog (fun _ => false) Try.f25.ntmps (Try.f25.body.getD .skip) = some ac25 := by kernel_rfl
def ownB : DBook := ⟨4, [[2, 1, 4, 1], [4, 1, 2, 1], [3, 4, 1, 2], [8, 8, 8, 8]]⟩
def wornB : DBook := ⟨4, [[2, 1, 4, 1], [4, 1, 2, 1], [3, 4, 1, 2], [8, 8, 8, 8], [15, 15, 15, 15]]⟩
theorem PVle.rowsK {k : SK} {sz : Nat} {l r : List (List PV)} (h : PVleR l r) : PVle (.sl k sz l) (.sl k sz r) := fun g v hv => by
  obtain ⟨h1, h2⟩ := h.spec
  cases hv with
  | sl _ _ _ ad n c f hl hn hc hm hk hz hat hh =>
    refine .sl k sz r ad n c f (by omega) hn hc hm hk (fun i e he => ?_) hat (fun i j e x he hx => ?_)
    · have hi : i < l.length := by rw [h1]; exact (List.getElem?_eq_some_iff.1 he).1
      rw [← (h2 i _ e (List.getElem?_eq_getElem hi) he).spec.1]
      exact hz i _ (List.getElem?_eq_getElem hi)
    · have hi : i < l.length := by rw [h1]; exact (List.getElem?_eq_some_iff.1 he).1
      obtain ⟨h3, h4⟩ := (h2 i _ e (List.getElem?_eq_getElem hi) he).spec
      have hj : j < l[i].length := by rw [h3]; exact (List.getElem?_eq_some_iff.1 hx).1
      exact h4 j _ x (List.getElem?_eq_getElem hj) hx g _ (hh i j _ _ (List.getElem?_eq_getElem hi) (List.getElem?_eq_getElem hj))
theorem own_sem : Sem1 58 [] (.agg (bookC .full ownB)) := by
  refine semC_of_exec' mixed Try.func58 (by kernel_rfl) (by kernel_rfl) ac58_ok 0 rfl (by decide) [(.cell 0 24)] (by kernel_rfl) ?_
  intro hr C hC hI
  unfold ac58
  simp only [go_sem, Nat.reduceBEq, Nat.reduceAdd, Nat.reduceLeDiff]
  refine retQ_cell_le (n := some 2) (by kernel_rfl) rfl ?_ rfl
  exact PVle.agg (show PVleL [_, _] [_, _] from ⟨PVle.refl _, PVle.rowsK (show PVleR [_, _, _, _] [_, _, _, _] from ⟨⟨PVle.sh _ _ _, trivial⟩, ⟨PVle.sh _ _ _, trivial⟩, ⟨PVle.sh _ _ _, trivial⟩, ⟨PVle.sh _ _ _, trivial⟩, trivial⟩), trivial⟩)
theorem worn_sem : Sem1 59 [] (.agg (bookC .sh wornB)) := by
  refine semC_of_exec' mixed Try.func59 (by kernel_rfl) (by kernel_rfl) ac59_ok 0 rfl (by decide) [(.cell 0 24)] (by kernel_rfl) ?_
  intro hr C hC hI
  unfold ac59
  simp only [go_sem]
  refine call_pure2 hC (own_sem) rfl (PVleL_refl _) ?_
  rintro r rfl
  simp only [go_sem, Nat.reduceBEq, Nat.reduceAdd, Nat.reduceLeDiff, ownB, putCells]
  intro t _
  refine retQ_cell_le (n := some 2) (by kernel_rfl) rfl ?_ rfl
  exact PVle.agg (show PVleL [_, _] [_, _] from ⟨PVle.refl _, PVle.rows (show PVleR [_, _, _, _, _] [_, _, _, _, _] from ⟨PVleL.refl _, PVleL.refl _, PVleL.refl _, PVleL.refl _, ⟨PVle.sh _ _ _, trivial⟩, trivial⟩), trivial⟩)
set_option maxRecDepth 100000 in
theorem ev_turns : Sem1 18 [.agg (bookC .full ownB), pi 2, pi 0] (.tup [pis [3], pi 0]) :=
  (Turns_sem .full ownB 2 0).mono fun _ h => h.trans (by kernel_rfl)
theorem ev_same : Sem1 23 [.agg (bookC .full ownB), pi 0, pi 1] (.tup [pi 2, pi 0]) :=
  (Same_sem .full ownB 0 1).mono fun _ h => h.trans (by kernel_rfl)
theorem ev_clash : Sem1 30 [.agg (bookC .full ownB)] (.tup [pi 0, pi 1, pi 0]) :=
  (Clash_sem .full ownB).mono fun _ h => h.trans (by kernel_rfl)
theorem ev_whose : Sem1 26 [.agg (bookC .full ownB), pis [1, 1, 2, 0]] (.tup [pis [2], pi 0]) :=
  (Whose_sem .full ownB [1, 1, 2, 0]).mono fun _ h => h.trans (by kernel_rfl)
theorem ev_drop : Sem1 34 [.agg (bookC .sh wornB)] (.tup [pis [0, 1, 4], pi 0]) :=
  (Drop_sem .sh wornB).mono fun _ h => h.trans (by kernel_rfl)
theorem ev_look : Sem1 36 [.agg (bookC .sh wornB)] (.tup [pi 4, pi 0, pi 0]) :=
  (Look_sem .sh wornB).mono fun _ h => h.trans (by kernel_rfl)
theorem ev_new : Sem1 28 [.agg (bookC .full ownB)] (.tup [pis [0, 0, 0, 0], pi 0]) :=
  (New_sem .full ownB).mono fun _ h => h.trans (by kernel_rfl)
theorem Equal_lit (k : SK) (l m : List Int) : PVleL [pis l, .sl k 1 (m.map fun x => [pi x])] [pis l, pis m] := ⟨PVle.refl _, PVle.sh _ _ _, trivial⟩
set_option maxRecDepth 100000 in
theorem pressed_sem : Sem1 25 [] (pb true) := by
  refine semC_of_exec' mixed Try.func25 (by kernel_rfl) (by kernel_rfl) ac25_ok 0 rfl (by decide) [(.tmp 0)] (by kernel_rfl) ?_
  intro hr C hC hI
  unfold ac25
  simp only [go_sem]
  refine call_pure2 hC (own_sem) rfl (PVleL_refl _) ?_
  rintro r rfl
  simp only [go_sem, Nat.reduceBEq]
  refine call_pure2 hC (ev_turns) rfl (PVleL_refl _) ?_
  rintro r rfl
  simp only [go_sem, Nat.reduceBEq]
  refine call_pure2 hC (own_sem) rfl (PVleL_refl _) ?_
  rintro r rfl
  simp only [go_sem, Nat.reduceBEq]
  refine call_pure2 hC (ev_same) rfl (PVleL_refl _) ?_
  rintro r rfl
  simp only [go_sem, Nat.reduceBEq]
  refine call_pure2 hC (own_sem) rfl (PVleL_refl _) ?_
  rintro r rfl
  simp only [go_sem, Nat.reduceBEq]
  refine call_pure2 hC (ev_clash) rfl (PVleL_refl _) ?_
  rintro r rfl
  simp only [go_sem, Nat.reduceBEq]
  refine call_pure2 hC (own_sem) rfl (PVleL_refl _) ?_
  rintro r rfl
  simp only [go_sem, Nat.reduceBEq, Nat.reduceAdd, Nat.reduceLeDiff]
  refine call_pure2 hC (ev_whose) rfl ⟨PVle.refl _, PVle.sh _ _ _, trivial⟩ ?_
  rintro r rfl
  simp only [go_sem, Nat.reduceBEq]
  refine call_pure2 hC (worn_sem) rfl (PVleL_refl _) ?_
  rintro r rfl
  simp only [go_sem, Nat.reduceBEq]
  refine call_pure2 hC (ev_drop) rfl (PVleL_refl _) ?_
  rintro r rfl
  simp only [go_sem, Nat.reduceBEq, decide_false, not_true_eq_false]
  refine call_pure2 hC (Equal_sem [3] [3]) rfl (Equal_lit .full [3] [3]) ?_
  rintro r rfl
  simp only [go_sem, Nat.reduceBEq, decide_true, decide_false, not_true_eq_false]
  refine call_pure2 hC (Equal_sem [2] [2]) rfl (Equal_lit .full [2] [2]) ?_
  rintro r rfl
  simp only [go_sem, Nat.reduceBEq, Nat.reduceAdd, Nat.reduceLeDiff, decide_true]
  refine call_pure2 hC (Equal_sem [0, 1, 4] [0, 1, 4]) rfl (Equal_lit .full _ [0, 1, 4]) ?_
  rintro r rfl
  simp only [go_sem, Nat.reduceBEq, decide_true]
  refine call_pure2 hC (worn_sem) rfl (PVleL_refl _) ?_
  rintro r rfl
  simp only [go_sem, Nat.reduceBEq]
  refine call_pure2 hC (ev_look) rfl (PVleL_refl _) ?_
  rintro r rfl
  simp only [go_sem, Nat.reduceBEq]
  refine call_pure2 hC (own_sem) rfl (PVleL_refl _) ?_
  rintro r rfl
  simp only [go_sem, Nat.reduceBEq]
  refine call_pure2 hC (ev_new) rfl (PVleL_refl _) ?_
  rintro r rfl
  simp only [go_sem, Nat.reduceBEq, Nat.reduceAdd, Nat.reduceLeDiff, decide_true]
  refine call_pure2 hC (Equal_sem [0, 0, 0, 0] [0, 0, 0, 0]) rfl (Equal_lit .full _ [0, 0, 0, 0]) ?_
  rintro r rfl
  simp only [go_sem, Nat.reduceBEq, decide_true]
  exact retQ_one rfl rfl
end Go.Proofs.Ythibnlfbdbidjaa
