/- Contracts of mend: for which bills a horse can be mended. Contracts of mend: the fewest coins. -/
import Derived.Test.YtlcpplkbmlmmbaaGreatCaps08
import Derived.Test.YtlcpplkbmlmmbaaGreatCaps09
namespace Go.Proofs.YtlcpplkbmlmmbaaGreat.Mk.Me
open Go.RowKit Ls
def ac102 : AC := (AC.seq (AC.ops [(AOp.mk (some 3) (AK.box 1 (AX.t 0)) none 0 false true), (AOp.mk (some 4) (AK.box 2 (AX.t 1)) none 1 false true), (AOp.mk (some 5) (AK.box 1 (AX.t 2)) none 2 false true), (AOp.mk (some 6) (AK.mv (AX.c (PV.val (Value.bool false)))) none 3 false true)]) (AC.seq (AC.ops [(AOp.mk (some 7) (AK.new (PV.val Value.nilFunc)) none 0 false true)]) (AC.seq (AC.ops [(AOp.mk (some 8) (AK.mkf 139 [] [(AX.t 5), (AX.t 3), (AX.t 4), (AX.t 7)]) none 0 false true), (AOp.mk none (AK.st 1 (AX.t 7) (AX.t 8)) none 1 false true)]) (AC.seq (AC.ops [(AOp.mk (some 9) (AK.ld none (AX.t 7)) none 0 true false), (AOp.mk (some 10) (AK.ld none (AX.t 3)) none 1 true false), (AOp.mk (some 11) (AK.call 63 [(AX.t 10)]) none 2 false false), (AOp.mk (some 12) (AK.callv (AX.t 9) [(AX.t 11), (AX.c (PV.val (Value.int IntKind.i64 0))), (AX.c (PV.val (Value.int IntKind.i64 0)))]) none 3 false true), (AOp.mk (some 6) (AK.mv (AX.t 12)) none 4 true true)]) AC.ret))))
theorem ac102_ok : cCode Tryz.prog (fun _ => false) Tryz.f102.ntmps (Tryz.f102.body.getD .skip) = some ac102 := by kernel_rfl
def ac139 : AC := (AC.seq (AC.ops [(AOp.mk (some 10) (AK.mv (AX.c (PV.val (Value.bool false)))) none 0 false true)]) (AC.seq (AC.seq (AC.ops [(AOp.mk (some 16) (AK.mv (AX.t 0)) none 0 false true), (AOp.mk (some 17) (AK.len (AX.t 16)) none 1 false true), (AOp.mk (some 18) (AK.bin false BinOp.eql (AX.t 17) (AX.c (PV.val (Value.int IntKind.i64 0)))) none 2 false true)]) (AC.cond (AX.t 18) (AC.seq (AC.ops [(AOp.mk (some 19) (AK.ld none (AX.t 3)) none 0 false true), (AOp.mk (some 20) (AK.mv (AX.t 1)) none 1 false true), (AOp.mk (some 21) (AK.mv (AX.t 2)) none 2 false true), (AOp.mk (some 22) (AK.call 70 [(AX.t 19), (AX.t 20), (AX.t 21)]) none 3 false true), (AOp.mk (some 10) (AK.mv (AX.t 22)) none 4 false true)]) AC.ret) AC.skip)) (AC.seq (AC.ops [(AOp.mk (some 23) (AK.mv (AX.t 0)) none 0 false true), (AOp.mk (some 24) (AK.iadrS 6 (AX.t 23) (AX.c (PV.val (Value.int IntKind.i64 0)))) none 1 false true), (AOp.mk (some 25) (AK.ld (some 6) (AX.t 24)) none 2 false true), (AOp.mk (some 11) (AK.new (PV.agg [(PV.val (Value.int IntKind.i64 0)), (PV.val (Value.int IntKind.i64 0)), (PV.val (Value.int IntKind.i64 0)), (PV.val (Value.int IntKind.i64 0)), (PV.val (Value.int IntKind.i64 0)), (PV.val (Value.int IntKind.i64 0))])) none 3 false true), (AOp.mk none (AK.st 6 (AX.t 11) (AX.t 25)) none 4 false true)]) (AC.seq (AC.seq (AC.ops [(AOp.mk (some 26) (AK.fadr 0 (AX.t 11)) none 0 false true), (AOp.mk (some 27) (AK.fadr 1 (AX.t 26)) none 1 false true), (AOp.mk (some 28) (AK.fadr 1 (AX.t 27)) none 2 false true), (AOp.mk (some 29) (AK.ld none (AX.t 28)) none 3 false true), (AOp.mk (some 30) (AK.fadr 0 (AX.t 11)) none 4 false true), (AOp.mk (some 31) (AK.fadr 1 (AX.t 30)) none 5 false true), (AOp.mk (some 32) (AK.fadr 0 (AX.t 31)) none 6 false true), (AOp.mk (some 33) (AK.ld none (AX.t 32)) none 7 false true), (AOp.mk (some 34) (AK.bin false BinOp.sub (AX.t 29) (AX.t 33)) none 8 false true), (AOp.mk (some 35) (AK.bin false BinOp.add (AX.t 34) (AX.c (PV.val (Value.int IntKind.i64 1)))) none 9 false true), (AOp.mk (some 36) (AK.mv (AX.c (PV.val (Value.int IntKind.i64 0)))) none 10 false true)]) (AC.block 0 (AC.loop (AC.seq (AC.ops [(AOp.mk (some 37) (AK.bin false BinOp.lss (AX.t 36) (AX.t 35)) none 0 false true)]) (AC.seq (AC.cond (AX.t 37) AC.skip (AC.exit 0)) (AC.seq (AC.block 1 (AC.seq (AC.ops [(AOp.mk (some 38) (AK.mv (AX.t 36)) none 0 false true), (AOp.mk (some 12) (AK.mv (AX.t 38)) none 1 false true)]) (AC.seq (AC.ops [(AOp.mk (some 39) (AK.fadr 0 (AX.t 11)) none 0 false true), (AOp.mk (some 40) (AK.fadr 1 (AX.t 39)) none 1 false true), (AOp.mk (some 41) (AK.fadr 0 (AX.t 40)) none 2 false true), (AOp.mk (some 42) (AK.ld none (AX.t 41)) none 3 false true), (AOp.mk (some 43) (AK.mv (AX.t 12)) none 4 false true), (AOp.mk (some 44) (AK.bin false BinOp.add (AX.t 42) (AX.t 43)) none 5 false true), (AOp.mk (some 13) (AK.mv (AX.t 44)) none 6 false true)]) (AC.seq (AC.ops [(AOp.mk (some 45) (AK.ld none (AX.t 4)) none 0 true false), (AOp.mk (some 46) (AK.ld (some 2) (AX.t 5)) none 1 true false), (AOp.mk (some 47) (AK.ld (some 6) (AX.t 11)) none 2 true false), (AOp.mk (some 48) (AK.mv (AX.t 13)) none 3 true false), (AOp.mk (some 49) (AK.fadr 0 (AX.t 11)) none 4 true false), (AOp.mk (some 50) (AK.fadr 3 (AX.t 49)) none 5 true false), (AOp.mk (some 51) (AK.fadr 0 (AX.t 50)) none 6 true false), (AOp.mk (some 52) (AK.ld none (AX.t 51)) none 7 true false), (AOp.mk (some 54) (AK.ld none (AX.t 4)) none 9 true false), (AOp.mk (some 55) (AK.ld (some 2) (AX.t 5)) none 10 true false), (AOp.mk (some 56) (AK.ld (some 6) (AX.t 11)) none 11 true false), (AOp.mk (some 57) (AK.mv (AX.t 13)) none 12 true false), (AOp.mk (some 58) (AK.fadr 0 (AX.t 11)) none 13 true false), (AOp.mk (some 59) (AK.fadr 3 (AX.t 58)) none 14 true false), (AOp.mk (some 60) (AK.fadr 1 (AX.t 59)) none 15 true false), (AOp.mk (some 61) (AK.ld none (AX.t 60)) none 16 true false), (AOp.mk (some 53) (AK.call 125 [(AX.t 45), (AX.t 46), (AX.t 47), (AX.t 48), (AX.t 52)]) none 8 false false), (AOp.mk (some 62) (AK.call 125 [(AX.t 54), (AX.t 55), (AX.t 56), (AX.t 57), (AX.t 61)]) none 17 false true), (AOp.mk (some 14) (AK.mv (AX.t 53)) none 18 true true), (AOp.mk (some 15) (AK.mv (AX.t 62)) none 19 true true)]) (AC.seq (AC.ops [(AOp.mk (some 63) (AK.ld none (AX.t 6)) none 0 true false), (AOp.mk (some 64) (AK.mv (AX.t 0)) none 1 true false), (AOp.mk (some 65) (AK.slc 6 (AX.t 64) (some (AX.c (PV.val (Value.int IntKind.i64 1)))) none none) none 2 true false), (AOp.mk (some 66) (AK.mv (AX.t 1)) none 3 true false), (AOp.mk (some 67) (AK.ld (some 6) (AX.t 11)) none 4 true false), (AOp.mk (some 68) (AK.mv (AX.t 14)) none 5 true false), (AOp.mk (some 71) (AK.mv (AX.t 2)) none 8 true false), (AOp.mk (some 72) (AK.ld (some 6) (AX.t 11)) none 9 true false), (AOp.mk (some 73) (AK.mv (AX.t 15)) none 10 true false), (AOp.mk (some 69) (AK.call 123 [(AX.t 67), (AX.t 68)]) none 6 false false), (AOp.mk (some 70) (AK.bin false BinOp.add (AX.t 66) (AX.t 69)) none 7 true false), (AOp.mk (some 74) (AK.call 123 [(AX.t 72), (AX.t 73)]) none 11 false false), (AOp.mk (some 75) (AK.bin false BinOp.add (AX.t 71) (AX.t 74)) none 12 true false), (AOp.mk (some 76) (AK.callv (AX.t 63) [(AX.t 65), (AX.t 70), (AX.t 75)]) none 13 false true)]) (AC.cond (AX.t 76) (AC.seq (AC.ops [(AOp.mk (some 10) (AK.mv (AX.c (PV.val (Value.bool true)))) none 0 false true)]) AC.ret) AC.skip)))))) (AC.ops [(AOp.mk (some 77) (AK.bin false BinOp.add (AX.t 36) (AX.c (PV.val (Value.int IntKind.i64 1)))) none 0 false true), (AOp.mk (some 36) (AK.mv (AX.t 77)) none 1 false true)]))))))) (AC.seq (AC.ops [(AOp.mk (some 10) (AK.mv (AX.c (PV.val (Value.bool false)))) none 0 false true)]) AC.ret)))))
theorem ac139_ok : cCode Tryz.prog (fun _ => false) Tryz.f139.ntmps (Tryz.f139.body.getD .skip) = some ac139 := by kernel_rfl
def ac67 : AC := (AC.seq (AC.ops [(AOp.mk (some 4) (AK.mv (AX.c (PV.sl SK.full 0 []))) none 0 false true)]) (AC.seq (AC.ops [(AOp.mk (some 5) (AK.mv (AX.c (PV.sl SK.full 0 []))) none 0 false true)]) (AC.seq (AC.seq (AC.ops [(AOp.mk (some 8) (AK.mv (AX.t 0)) none 0 false true), (AOp.mk (some 9) (AK.nilc (AX.t 8)) none 1 false true), (AOp.mk (some 10) (AK.fadr 8 (AX.t 9)) none 2 false true), (AOp.mk (some 11) (AK.ld none (AX.t 10)) none 3 false true), (AOp.mk (some 12) (AK.len (AX.t 11)) none 4 false true), (AOp.mk (some 13) (AK.mv (AX.c (PV.val (Value.int IntKind.i64 0)))) none 5 false true)]) (AC.block 0 (AC.loop (AC.seq (AC.ops [(AOp.mk (some 14) (AK.bin false BinOp.lss (AX.t 13) (AX.t 12)) none 0 false true)]) (AC.seq (AC.cond (AX.t 14) AC.skip (AC.exit 0)) (AC.seq (AC.block 1 (AC.seq (AC.ops [(AOp.mk (some 15) (AK.iadrS 2 (AX.t 11) (AX.t 13)) none 0 false true), (AOp.mk (some 16) (AK.ld (some 2) (AX.t 15)) none 1 false true), (AOp.mk (some 7) (AK.new (PV.agg [(PV.val (Value.int IntKind.i64 0)), (PV.val (Value.int IntKind.i64 0))])) none 2 false true), (AOp.mk none (AK.st 2 (AX.t 7) (AX.t 16)) none 3 false true)]) (AC.seq (AC.ops [(AOp.mk (some 17) (AK.mv (AX.t 5)) none 0 false true), (AOp.mk (some 18) (AK.fadr 0 (AX.t 7)) none 1 false true), (AOp.mk (some 19) (AK.ld none (AX.t 18)) none 2 false true), (AOp.mk (some 20) (AK.call 101 [(AX.t 17), (AX.t 19)]) none 3 false true), (AOp.mk (some 21) (AK.un UnOp.not (AX.t 20)) none 4 false true), (AOp.mk (some 22) (AK.mv (AX.t 21)) none 5 false true), (AOp.mk (some 23) (AK.mv (AX.t 0)) (some (22, true)) 6 false true), (AOp.mk (some 24) (AK.ld (some 2) (AX.t 7)) (some (22, true)) 7 false true), (AOp.mk (some 25) (AK.mv (AX.t 1)) (some (22, true)) 8 false true), (AOp.mk (some 26) (AK.call 102 [(AX.t 23), (AX.t 24), (AX.t 25)]) (some (22, true)) 9 false true), (AOp.mk (some 27) (AK.pick (AX.t 22) (AX.t 26) (AX.c (PV.val (Value.bool false)))) none 10 false true)]) (AC.cond (AX.t 27) (AC.ops [(AOp.mk (some 28) (AK.mv (AX.t 5)) none 0 false true), (AOp.mk (some 29) (AK.fadr 0 (AX.t 7)) none 1 false true), (AOp.mk (some 30) (AK.ld none (AX.t 29)) none 2 false true), (AOp.mk (some 31) (AK.bslice false 3 1 1 [(PV.val (Value.int IntKind.i64 0))] [(0, (1, (AX.t 30)))]) none 3 false true), (AOp.mk (some 32) (AK.app false 3 1 8 [(PV.val (Value.int IntKind.i64 0))] (AX.t 28) (AX.t 31)) none 4 false true), (AOp.mk (some 5) (AK.mv (AX.t 32)) none 5 false true)]) AC.skip)))) (AC.ops [(AOp.mk (some 33) (AK.bin false BinOp.add (AX.t 13) (AX.c (PV.val (Value.int IntKind.i64 1)))) none 0 false true), (AOp.mk (some 13) (AK.mv (AX.t 33)) none 1 false true)]))))))) (AC.seq (AC.ops [(AOp.mk (some 34) (AK.mv (AX.t 5)) none 0 false true), (AOp.mk (some 35) (AK.call 103 [(AX.t 34)]) none 1 false true), (AOp.mk (some 4) (AK.mv (AX.t 35)) none 2 false true)]) AC.ret))))
theorem ac67_ok : cCode Tryz.prog (fun _ => false) Tryz.f67.ntmps (Tryz.f67.body.getD .skip) = some ac67 := by kernel_rfl
def ac103 : AC := (AC.seq (AC.ops [(AOp.mk (some 2) (AK.mv (AX.c (PV.sl SK.full 0 []))) none 0 false true)]) (AC.seq (AC.ops [(AOp.mk (some 4) (AK.mv (AX.t 0)) none 0 false true), (AOp.mk (some 5) (AK.len (AX.t 4)) none 1 false true), (AOp.mk (some 3) (AK.mv (AX.t 5)) none 2 false true)]) (AC.seq (AC.ops [(AOp.mk (some 6) (AK.mv (AX.t 0)) none 0 false true), (AOp.mk (some 7) (AK.mv (AX.t 3)) none 1 false true), (AOp.mk (some 8) (AK.mv (AX.t 3)) none 2 false true), (AOp.mk (some 9) (AK.slc 1 (AX.t 6) none (some (AX.t 7)) (some (AX.t 8))) none 3 false true), (AOp.mk (some 2) (AK.mv (AX.t 9)) none 4 false true)]) AC.ret)))
theorem ac103_ok : cCode Tryz.prog (fun _ => false) Tryz.f103.ntmps (Tryz.f103.body.getD .skip) = some ac103 := by kernel_rfl
def ac138 : AC := (AC.seq (AC.ops [(AOp.mk (some 4) (AK.mv (AX.c (PV.val (Value.int IntKind.i64 0)))) none 0 false true)]) (AC.seq (AC.seq (AC.ops [(AOp.mk (some 6) (AK.mv (AX.t 0)) none 0 false true), (AOp.mk (some 7) (AK.len (AX.t 6)) none 1 false true), (AOp.mk (some 8) (AK.mv (AX.c (PV.val (Value.int IntKind.i64 0)))) none 2 false true)]) (AC.block 0 (AC.loop (AC.seq (AC.ops [(AOp.mk (some 9) (AK.bin false BinOp.lss (AX.t 8) (AX.t 7)) none 0 false true)]) (AC.seq (AC.cond (AX.t 9) AC.skip (AC.exit 0)) (AC.seq (AC.block 1 (AC.seq (AC.ops [(AOp.mk (some 10) (AK.mv (AX.t 8)) none 0 false true), (AOp.mk (some 5) (AK.mv (AX.t 10)) none 1 false true)]) (AC.seq (AC.ops [(AOp.mk (some 11) (AK.mv (AX.t 1)) none 0 false true), (AOp.mk (some 12) (AK.mv (AX.t 0)) none 1 false true), (AOp.mk (some 13) (AK.mv (AX.t 5)) none 2 false true), (AOp.mk (some 14) (AK.iadrS 1 (AX.t 12) (AX.t 13)) none 3 false true), (AOp.mk (some 15) (AK.ld none (AX.t 14)) none 4 false true), (AOp.mk (some 16) (AK.bin false BinOp.eql (AX.t 11) (AX.t 15)) none 5 false true)]) (AC.cond (AX.t 16) (AC.seq (AC.ops [(AOp.mk (some 17) (AK.mv (AX.t 5)) none 0 false true), (AOp.mk (some 4) (AK.mv (AX.t 17)) none 1 false true)]) AC.ret) AC.skip)))) (AC.ops [(AOp.mk (some 18) (AK.bin false BinOp.add (AX.t 8) (AX.c (PV.val (Value.int IntKind.i64 1)))) none 0 false true), (AOp.mk (some 8) (AK.mv (AX.t 18)) none 1 false true)]))))))) (AC.seq (AC.ops [(AOp.mk (some 4) (AK.mv (AX.c (PV.val (Value.int IntKind.i64 (-1))))) none 0 false true)]) AC.ret)))
theorem ac138_ok : cCode Tryz.prog (fun _ => false) Tryz.f138.ntmps (Tryz.f138.body.getD .skip) = some ac138 := by kernel_rfl
def ac101 : AC := (AC.seq (AC.ops [(AOp.mk (some 4) (AK.mv (AX.c (PV.val (Value.bool false)))) none 0 false true)]) (AC.seq (AC.ops [(AOp.mk (some 5) (AK.mv (AX.t 0)) none 0 false true), (AOp.mk (some 6) (AK.mv (AX.t 1)) none 1 false true), (AOp.mk (some 7) (AK.call 138 [(AX.t 5), (AX.t 6)]) none 2 false true), (AOp.mk (some 8) (AK.bin false BinOp.geq (AX.t 7) (AX.c (PV.val (Value.int IntKind.i64 0)))) none 3 false true), (AOp.mk (some 4) (AK.mv (AX.t 8)) none 4 false true)]) AC.ret))
theorem ac101_ok : cCode Tryz.prog (fun _ => false) Tryz.f101.ntmps (Tryz.f101.body.getD .skip) = some ac101 := by kernel_rfl
def LQ (κ : KS) (b : EBook) (t : Nat × Nat) (pence : Int) : List ABlk := [.cells [.p (bookK κ b)], .cells [.p (pi t.1), .p (pi t.2)], .cells [.p (pi pence)], .cells [.clo 139 [] [.loc 2 0, .loc 0 0, .loc 1 0, .loc 3 0]]]
theorem take_LQ {κ : KS} {b : EBook} {t : Nat × Nat} {pence : Int} {L : List ABlk} (h : L.take 4 = LQ κ b t pence) : ∃ X, L = LQ κ b t pence ++ X := ⟨L.drop 4, by rw [← h, List.take_append_drop]⟩
theorem upd4 {x0 x1 x2 x3 a b c d : ABlk} {M X : List ABlk} : updL (x0 :: x1 :: x2 :: x3 :: M) [0, 1, 2, 3] (a :: b :: c :: d :: X) = a.ren (mAt [0, 1, 2, 3] (M.length + 1 + 1 + 1 + 1)) :: b.ren (mAt [0, 1, 2, 3] (M.length + 1 + 1 + 1 + 1)) :: c.ren (mAt [0, 1, 2, 3] (M.length + 1 + 1 + 1 + 1)) :: d.ren (mAt [0, 1, 2, 3] (M.length + 1 + 1 + 1 + 1)) :: (M ++ X.map (ABlk.ren (mAt [0, 1, 2, 3] (M.length + 1 + 1 + 1 + 1)))) := by simp [updL, setAll, setAll_nil]
theorem mat4_0 {n : Nat} : mAt [0, 1, 2, 3] n 0 = 0 := rfl
theorem mat4_1 {n : Nat} : mAt [0, 1, 2, 3] n 1 = 1 := rfl
theorem mat4_2 {n : Nat} : mAt [0, 1, 2, 3] n 2 = 2 := rfl
theorem mat4_3 {n : Nat} : mAt [0, 1, 2, 3] n 3 = 3 := rfl
def CanOk (κ : KS) (b : EBook) (t : Nat × Nat) (pence : Int) (js : List Job) : Prop := ∀ (k : SK) (lo hi : Int), 0 ≤ lo → 0 ≤ hi → lo + 549 * js.length ≤ 10000 → hi + 549 * js.length ≤ 10000 →
  SemM Tryz.prog Fence.wide 139 [.p (.sl k 6 (jobsC js)), .p (pi lo), .p (pi hi), .loc 2 0, .loc 0 0, .loc 1 0, .loc 3 0] (LQ κ b t pence) (some [])
    (fun v L' ys' => L'.take 4 = LQ κ b t pence ∧ v = .p (pb (canF b t pence js lo hi)) ∧ ys' = some [])
theorem can_nil (κ : KS) (b : EBook) (t : Nat × Nat) (pence : Int) : CanOk κ b t pence [] := by
  intro k lo hi _ _ _ _
  refine semM_of_exec' mixed Tryz.func139 (by kernel_rfl) (by kernel_rfl) ac139_ok 7 rfl (by decide) [(.tmp 10)] (by kernel_rfl) ?_
  intro C hC hI
  unfold ac139
  simp only [go_sem, Nat.reduceBEq, Nat.reduceAdd, LQ, List.length_nil, List.map_nil, Int.natCast_zero, decide_true]
  refine call_pure2 hC (within_sem ..) rfl (PVleL_refl _) ?_
  rintro r rfl
  simp only [go_sem, Nat.reduceBEq]
  exact retMQ_one rfl ⟨rfl, rfl, rfl⟩
set_option maxRecDepth 100000 in
set_option maxHeartbeats 1000000 in
theorem can_cons (κ : KS) {b : EBook} (ho : okE b) {t : Nat × Nat} (ht : t.1 < b.mb.makers.length) (pence : Int) {j : Job} {js : List Job} (hj : okJob b j) (hrec : CanOk κ b t pence js) : CanOk κ b t pence (j :: js) := by
  intro k lo hi h1 h2 h3 h4
  rw [List.length_cons] at h3 h4
  have hln : ∀ L : List (List PV), L = jobsC (j :: js) → ((L.length : Int) = 0 ↔ False) := fun L hL => by subst hL; simp; omega
  obtain ⟨⟨c1, c2⟩, ⟨d1, d2, d3, d4⟩, ⟨e1, e2, e3, e4⟩, f1, f2⟩ := id hj
  obtain ⟨L, hL⟩ : ∃ L, jobsC (j :: js) = L := ⟨_, rfl⟩
  have hLl := hln L hL.symm
  have hL0 : ¬ (L.length : Int) = 0 := fun h => hLl.1 h
  have e0 : iadrS' 6 (.p (.sl k 6 L)) (.p (.val (.int .i64 0))) = some (.p (.ptr (jobC j) 0)) := by
    subst hL
    exact iadr_map (f := jobC) (kd := k) (sz := 6) (l := j :: js) (k := 0) (by simp)
  have hsl : slcS 6 (.p (.sl k 6 L)) (some (some 1)) (some none) (some none) = some (.p (.sl .sh 6 (jobsC js))) := by
    subst hL
    rw [slcS_lo (.inl rfl) ⟨by decide, by simp; omega⟩]
    rfl
  obtain ⟨n, hn⟩ : ∃ n : Nat, (j.hh - j.hl + 1) = n := ⟨(j.hh - j.hl + 1).toNat, by omega⟩
  have hnt : (j.hh - j.hl + 1).toNat = n := by omega
  have w1 : IntKind.i64.wrap (j.hh - j.hl) = j.hh - j.hl := wrap_id (by omega) (by omega)
  have w2 : IntKind.i64.wrap (j.hh - j.hl + 1) = n := by rw [wrap_id (by omega) (by omega), hn]
  have hcf : canF b t pence (j :: js) lo hi = (List.range n).any fun (q : Nat) => canF b t pence js (lo + paidI j (costI b t j (j.hl + q) j.pl)) (hi + paidI j (costI b t j (j.hl + q) j.ph)) := by rw [canF, hnt]
  rw [hL, hcf]
  refine semM_of_exec' mixed Tryz.func139 (by kernel_rfl) (by kernel_rfl) ac139_ok 7 rfl (by decide) [(.tmp 10)] (by kernel_rfl) ?_
  intro C hC hI
  unfold ac139
  simp only [go_sem, Nat.reduceBEq, Nat.reduceAdd, LQ, eq_false hL0, e0, putCells, w1, w2, decide_false, not_false_eq_true]
  refine loop_ky n (fun i => ∀ q, q < i → canF b t pence js (lo + paidI j (costI b t j (j.hl + q) j.pl)) (hi + paidI j (costI b t j (j.hl + q) j.ph)) = false) [0, 1, 2, 4, 5, 6, 11, 35] (fun i => [(36, .p (pi i))]) (fun _ => LQ κ b t pence ++ [.cells [.p (pi j.kind), .p (pi j.hl), .p (pi j.hh), .p (pi j.pl), .p (pi j.ph), .p (pi j.cap)]]) (fun _ => some []) (fun q h => absurd h (by omega)) (by simp [Wk, wkT, wkL, look, AV.lo, AV.lo.loL, keepS, LQ]) ?_
  rintro i ⟨hi2, hok⟩
  unfold LQ
  simp only [go_sem, Nat.reduceBEq, Nat.reduceAdd]
  refine ⟨fun h5 => ?_, fun h5 => ?_⟩
  · have hi3 : i < n := by omega
    have w3 : IntKind.i64.wrap (j.hl + (i : Int)) = j.hl + i := wrap_id (by omega) (by omega)
    have cl := (cost_le ho t j (h := j.hl + i) (p := j.pl) (by omega) (by omega)).2
    have ch := (cost_le ho t j (h := j.hl + i) (p := j.ph) (by omega) (by omega)).2
    have pl := paid_le (j := j) f1 cl.1
    have ph := paid_le (j := j) f1 ch.1
    simp only [go_sem, w3]
    refine call_pure2 hC (cost_sem κ ho ht hj (h := j.hl + i) (p := j.pl) (by omega) (by omega)) rfl (PVleL_refl _) ?_
    rintro _ rfl
    simp only [go_sem, Nat.reduceBEq]
    refine call_pure2 hC (cost_sem κ ho ht hj (h := j.hl + i) (p := j.ph) (by omega) (by omega)) rfl (PVleL_refl _) ?_
    rintro _ rfl
    simp only [go_sem, Nat.reduceBEq, Nat.reduceAdd, hsl]
    refine call_pure2 hC (paid_sem j ..) rfl (PVleL_refl _) ?_
    rintro r rfl
    simp only [go_sem, Nat.reduceBEq, wrap_id (n := lo + paidI j (costI b t j (j.hl + i) j.pl)) (by omega) (by omega)]
    refine call_pure2 hC (paid_sem j ..) rfl (PVleL_refl _) ?_
    rintro r rfl
    simp only [go_sem, Nat.reduceBEq, wrap_id (n := hi + paidI j (costI b t j (j.hl + i) j.ph)) (by omega) (by omega)]
    refine call_mem2 hC [0, 1, 2, 3] (hrec .sh (lo + paidI j (costI b t j (j.hl + i) j.pl)) (hi + paidI j (costI b t j (j.hl + i) j.ph)) (by omega) (by omega) (by omega) (by omega)) rfl (by decide) rfl rfl rfl rfl (by simp) ?_
    rintro v L' ys' ⟨hL2, rfl, rfl⟩ -
    obtain ⟨X, rfl⟩ := take_LQ hL2
    unfold LQ
    cases hc : canF b t pence js (lo + paidI j (costI b t j (j.hl + i) j.pl)) (hi + paidI j (costI b t j (j.hl + i) j.ph))
    · simp only [go_sem, Nat.reduceBEq, Nat.reduceAdd, wrap_succ (k := i) (by omega), upd4, mat4_0, mat4_1, mat4_2, mat4_3]
      refine ⟨⟨i + 1, hi3, fun q hq => ?_⟩, by simp only; omega, by simp [Wk, wkT, wkL, look, AV.lo, AV.lo.loL, ABlk.toZ]⟩
      by_cases e : q = i
      · rw [e]; exact hc
      · exact hok q (by omega)
    · have hany : ((List.range n).any fun (q : Nat) => canF b t pence js (lo + paidI j (costI b t j (j.hl + q) j.pl)) (hi + paidI j (costI b t j (j.hl + q) j.ph))) = true := List.any_eq_true.2 ⟨i, List.mem_range.2 hi3, hc⟩
      rw [hany]
      simp only [go_sem, Nat.reduceBEq, Nat.reduceAdd, upd4, mat4_0, mat4_1, mat4_2, mat4_3]
      exact retMQ_one rfl ⟨rfl, rfl, rfl⟩
  · have hin : i = n := by omega
    subst hin
    have hany : ((List.range i).any fun (q : Nat) => canF b t pence js (lo + paidI j (costI b t j (j.hl + q) j.pl)) (hi + paidI j (costI b t j (j.hl + q) j.ph))) = false := by
      rw [List.any_eq_false]
      intro q hq
      rw [hok q (List.mem_range.1 hq)]
      decide
    rw [hany]
    exact retMQ_one rfl ⟨rfl, rfl, rfl⟩
theorem can_all (κ : KS) {b : EBook} (ho : okE b) {t : Nat × Nat} (ht : t.1 < b.mb.makers.length) (pence : Int) : ∀ js : List Job, (∀ j ∈ js, okJob b j) → CanOk κ b t pence js
  | [], _ => can_nil κ b t pence
  | _ :: js, h => can_cons κ ho ht pence (h _ (List.mem_cons_self ..)) (can_all κ ho ht pence js fun j hj => h j (List.mem_cons_of_mem _ hj))
theorem canPay_sem (κ : KS) {b : EBook} (ho : okE b) {t : Nat × Nat} (ht : t.1 < b.mb.makers.length) (pence : Int) : Sem1 102 [bookK κ b, .agg (trC t), pi pence] (pb (canP b pence t)) := by
  have hl := ho.2.1.2
  have h := can_all κ ho ht pence b.jobs ho.2.2.2.1 .full 0 0 (by omega) (by omega) (by omega) (by omega)
  unfold canP
  refine semC_of_exec' mixed Tryz.func102 (by kernel_rfl) (by kernel_rfl) ac102_ok 3 rfl (by decide) [(.tmp 6)] (by kernel_rfl) ?_
  intro hr C hC hI
  unfold ac102
  simp only [go_sem, Nat.reduceBEq, Nat.reduceAdd, putCells]
  refine call_pure2 hC (jobs_sem κ hl) rfl (PVleL_refl _) ?_
  rintro _ rfl
  simp only [go_sem, Nat.reduceBEq]
  refine call_mem2 hC [0, 1, 2, 3] h rfl (by decide) rfl rfl rfl rfl (by simp) ?_
  rintro v L' ys' ⟨hL2, rfl, rfl⟩ -
  simp only [go_sem, Nat.reduceBEq, Nat.reduceAdd]
  exact retQ_one rfl rfl
theorem handedI_sem (k : SK) (sz : Nat) (l : List Int) (hsz : sz = 1 ∨ l = []) : Sem1 103 [.sl k sz (ints l)] (.sl .full 1 (ints l)) := by
  refine semC_of_exec' mixed Tryz.func103 (by kernel_rfl) (by kernel_rfl) ac103_ok 1 rfl (by decide) [(.tmp 2)] (by kernel_rfl) ?_
  intro hr C hC hI
  unfold ac103
  simp only [go_sem, Nat.reduceBEq, slcS_all (sz := sz) (sz' := 1) (k := k) (es := ints l) (hsz.imp id fun h => by rw [h]; rfl)]
  exact retQ_one rfl rfl
theorem Index_sem (l : List Int) (x : Int) : Sem1 138 [pis l, pi x] (pi (idxI l fun y => decide (x = y))) := by
  refine semC_of_exec' mixed Tryz.func138 (by kernel_rfl) (by kernel_rfl) ac138_ok 2 rfl (by decide) [(.tmp 4)] (by kernel_rfl) ?_
  intro hr C hC hI
  unfold ac138
  simp only [go_sem, Nat.reduceBEq, List.length_map]
  have hl := real_len (i := 0) hr rfl
  rw [List.length_map] at hl
  refine loop_k l.length (fun j => ∀ y ∈ l.take j, decide (x = y) = false) [0, 1, 7] (fun j => [(8, .p (pi j))]) (by simp) rfl ⟨rfl, by simp, by simp⟩ (by simp [wkT, look, AV.lo]) ?_
  rintro j ⟨hj, hok⟩
  simp only [go_sem, Nat.reduceBEq]
  refine ⟨fun h5 => ?_, fun h5 => ?_⟩
  · have hj2 : j < l.length := by omega
    simp only [go_sem, Nat.reduceBEq, iadr_pis hj2]
    refine ⟨fun h6 => ?_, fun h6 => ?_⟩
    · exact retQ_one rfl (by rw [idxI_some hj2 (p := fun y => decide (x = y)) (decide_eq_true h6) hok])
    · simp only [go_sem, wrap_succ (k := j) (by omega)]
      refine ⟨⟨j + 1, hj2, take_next hj2 hok (decide_eq_false h6)⟩, by simp only; omega, by simp [Wk, wkT, wkL, look, AV.lo]⟩
  · have hjn : j = l.length := by omega
    subst hjn
    rw [List.take_length] at hok
    exact retQ_one rfl (by rw [idxI_none hok])
theorem Contains_sem (l : List Int) (x : Int) : Sem1 101 [pis l, pi x] (pb (decide (x ∈ l))) := by
  refine semC_of_exec' mixed Tryz.func101 (by kernel_rfl) (by kernel_rfl) ac101_ok 2 rfl (by decide) [(.tmp 4)] (by kernel_rfl) ?_
  intro hr C hC hI
  unfold ac101
  simp only [go_sem, Nat.reduceBEq]
  refine call_pure2 hC (Index_sem l x) rfl (PVleL_refl _) ?_
  rintro r rfl
  simp only [go_sem, Nat.reduceBEq]
  refine retQ_one rfl (congrArg pb ?_)
  rw [idxI_dec, Bool.eq_iff_iff]
  simp
theorem whose_sem (κ : KS) {b : EBook} (ho : okE b) (hwho : ∀ t ∈ known b, t.1 < b.mb.makers.length) (pence : Int) : Sem1 67 [bookK κ b, pi pence] (.sl .full 1 (ints (natL (whoseL b pence)))) := by
  have hkl := known_len ho.1.1
  have hcan := fun (t : Nat × Nat) (ht : t.1 < b.mb.makers.length) => canPay_sem κ ho ht pence
  unfold whoseL
  unfold bookK at *
  obtain ⟨Kn, hKn⟩ : ∃ Kn, known b = Kn := ⟨_, rfl⟩
  rw [hKn] at hkl hwho hcan ⊢
  have hwl : ∀ i, (whosF (canP b pence) (Kn.take i)).length ≤ 1000 := fun i => by
    have : ∀ (P : Nat × Nat → Bool) (l : List (Nat × Nat)) (acc : List Nat), (l.foldl (whoF P) acc).length ≤ acc.length + l.length := by
      intro P l
      induction l with
      | nil => intro acc; simp
      | cons t l ih =>
        intro acc
        have := ih (whoF P acc t)
        have h2 : (whoF P acc t).length ≤ acc.length + 1 := by
          unfold whoF
          split
          · simp
          · omega
        rw [List.foldl_cons, List.length_cons]
        omega
    have h := this (canP b pence) (Kn.take i) []
    have h2 : (Kn.take i).length ≤ 320 := by rw [List.length_take]; omega
    unfold whosF
    simp only [List.length_nil, Nat.zero_add] at h
    omega
  refine semC_of_exec' mixed Tryz.func67 (by kernel_rfl) (by kernel_rfl) ac67_ok 2 rfl (by decide) [(.tmp 4)] (by kernel_rfl) ?_
  intro hr C hC hI
  unfold ac67
  simp only [go_sem, Nat.reduceBEq, List.length_map]
  refine loop_g (α := Nat × Option Nat) (fun a => a.1 ≤ Kn.length ∧ (a.2 = none → ints (natL (whosF (canP b pence) (Kn.take a.1))) = [])) (fun a => Kn.length - a.1) [0, 1, 11, 12] (fun a => [(5, .p (slZ 3 1 a.2 (ints (natL (whosF (canP b pence) (Kn.take a.1)))))), (13, .p (pi a.1))]) (fun _ => []) (fun a => a.2.toList) (0, none) ⟨by omega, fun _ => rfl⟩ (by simp [Wk, wkT, wkL, look, AV.lo, upS_eq, keepS_nil, keepS_cons, slZ]) ?_
  rintro ⟨i, o⟩ ⟨hi, h0⟩
  replace hi : i ≤ Kn.length := hi
  replace h0 : o = none → ints (natL (whosF (canP b pence) (Kn.take i))) = [] := h0
  have hw := hwl i
  simp only [go_sem, Nat.reduceBEq]
  refine ⟨fun h5 => ?_, fun h5 => ?_⟩
  · have hi2 : i < Kn.length := by omega
    obtain ⟨t, et⟩ : ∃ t, Kn[i] = t := ⟨_, rfl⟩
    have ht : t.1 < b.mb.makers.length := hwho t (et ▸ List.getElem_mem hi2)
    have e1 := iadr_map (f := trC) (kd := .sh) (sz := 2) hi2
    have hnx := whosF_next (canP b pence) hi2
    rw [et] at e1 hnx
    simp only [go_sem, Nat.reduceBEq, Nat.reduceAdd, e1, putCells]
    refine call_pure2 hC (Contains_sem (natL (whosF (canP b pence) (Kn.take i))) t.1) rfl ⟨slZ_le h0, PVle.refl _, trivial⟩ ?_
    rintro _ rfl
    by_cases hm : t.1 ∈ whosF (canP b pence) (Kn.take i)
    · rw [if_neg (fun h => h.1 hm)] at hnx
      rw [decide_eq_true (mem_natL.2 hm)]
      simp only [go_sem, Nat.reduceBEq, wrap_succ (k := i) (by omega)]
      refine ⟨⟨(i + 1, o), hi2, by rw [hnx]; exact h0⟩, by simp only; omega, ?_⟩
      simp only [hnx]
      cases o <;> simp [Wk, wkT, wkL, look, AV.lo, slZ]
    rw [decide_eq_false (fun h => hm (mem_natL.1 h))]
    simp only [go_sem, Nat.reduceBEq, Nat.reduceAdd]
    refine call_pure2 hC (hcan t ht) rfl (PVleL_refl _) ?_
    rintro _ rfl
    cases hc : canP b pence t
    · rw [if_neg (fun h => by rw [hc] at h; exact absurd h.2 (by decide))] at hnx
      simp only [go_sem, Nat.reduceBEq, wrap_succ (k := i) (by omega)]
      refine ⟨⟨(i + 1, o), hi2, by rw [hnx]; exact h0⟩, by simp only; omega, ?_⟩
      simp only [hnx]
      cases o <;> simp [Wk, wkT, wkL, look, AV.lo, slZ]
    · rw [if_pos ⟨hm, hc⟩] at hnx
      have hnx2 : ints (natL (whosF (canP b pence) (Kn.take (i + 1)))) = ints (natL (whosF (canP b pence) (Kn.take i))) ++ [[pi (t.1 : Nat)]] := by
        rw [hnx]
        simp [natL]
      simp only [go_sem, Nat.reduceBEq, putCells]
      refine app_slZ h0 (by rw [List.length_map, natL_len]; omega) (fun t ht => ht) fun tk htk => ?_
      simp only [go_sem, Nat.reduceBEq, wrap_succ (k := i) (by omega)]
      refine ⟨⟨(i + 1, some tk), hi2, (fun h => by cases h)⟩, by simp only; omega, ?_⟩
      simp only [hnx2]
      cases o <;> simp [Wk, wkT, wkL, look, AV.lo, slZ]
  · have hin : i = Kn.length := by omega
    subst hin
    rw [List.take_length] at h0 ⊢
    cases o with
    | none =>
      have he := h0 rfl
      rw [he]
      refine call_pure2 hC (handedI_sem .full 0 [] (.inr rfl)) rfl (PVleL_refl _) ?_
      rintro _ rfl
      simp only [go_sem, Nat.reduceBEq]
      exact retQ_one rfl rfl
    | some t =>
      refine call_pure2 hC (handedI_sem (.own t 3 1) 1 (natL (whosF (canP b pence) Kn)) (.inl rfl)) rfl (PVleL_refl _) ?_
      rintro _ rfl
      simp only [go_sem, Nat.reduceBEq]
      exact retQ_one rfl rfl
end Go.Proofs.YtlcpplkbmlmmbaaGreat.Mk.Me
namespace Go.Proofs.YtlcpplkbmlmmbaaGreat.Mk.Me
open Go.RowKit Ls
def ac71 : AC := (AC.seq (AC.ops [(AOp.mk (some 4) (AK.mv (AX.c (PV.sl SK.full 0 []))) none 0 false true)]) (AC.seq (AC.ops [(AOp.mk (some 12) (AK.build [(PV.val (Value.int IntKind.i64 0)), (PV.val (Value.int IntKind.i64 0)), (PV.val (Value.int IntKind.i64 0)), (PV.val (Value.int IntKind.i64 0))] []) none 0 false true), (AOp.mk (some 13) (AK.bslice false 136 4 1 [(PV.val (Value.int IntKind.i64 0)), (PV.val (Value.int IntKind.i64 0)), (PV.val (Value.int IntKind.i64 0)), (PV.val (Value.int IntKind.i64 0))] [(0, (4, (AX.t 12)))]) none 1 false true), (AOp.mk (some 5) (AK.mv (AX.t 13)) none 2 false true)]) (AC.seq (AC.seq (AC.ops [(AOp.mk (some 6) (AK.mv (AX.c (PV.val (Value.int IntKind.i64 1)))) none 0 false true)]) (AC.block 0 (AC.loop (AC.seq (AC.seq (AC.ops [(AOp.mk (some 14) (AK.mv (AX.t 6)) none 0 false true), (AOp.mk (some 15) (AK.mv (AX.t 1)) none 1 false true), (AOp.mk (some 16) (AK.bin false BinOp.leq (AX.t 14) (AX.t 15)) none 2 false true)]) (AC.cond (AX.t 16) AC.skip (AC.exit 0))) (AC.seq (AC.block 1 (AC.seq (AC.ops [(AOp.mk (some 7) (AK.new (PV.agg [(PV.val (Value.int IntKind.i64 0)), (PV.val (Value.int IntKind.i64 0)), (PV.val (Value.int IntKind.i64 0)), (PV.val (Value.int IntKind.i64 0))])) none 0 false true)]) (AC.seq (AC.seq (AC.ops [(AOp.mk (some 19) (AK.mv (AX.t 0)) none 0 false true), (AOp.mk (some 20) (AK.len (AX.t 19)) none 1 false true), (AOp.mk (some 21) (AK.mv (AX.c (PV.val (Value.int IntKind.i64 0)))) none 2 false true)]) (AC.block 2 (AC.loop (AC.seq (AC.ops [(AOp.mk (some 22) (AK.bin false BinOp.lss (AX.t 21) (AX.t 20)) none 0 false true)]) (AC.seq (AC.cond (AX.t 22) AC.skip (AC.exit 2)) (AC.seq (AC.block 3 (AC.seq (AC.ops [(AOp.mk (some 23) (AK.mv (AX.t 21)) none 0 false true), (AOp.mk (some 24) (AK.iadrS 1 (AX.t 19) (AX.t 21)) none 1 false true), (AOp.mk (some 25) (AK.ld none (AX.t 24)) none 2 false true), (AOp.mk (some 8) (AK.mv (AX.t 23)) none 3 false true), (AOp.mk (some 9) (AK.mv (AX.t 25)) none 4 false true)]) (AC.seq (AC.seq (AC.ops [(AOp.mk (some 26) (AK.mv (AX.t 9)) none 0 false true), (AOp.mk (some 27) (AK.mv (AX.t 6)) none 1 false true), (AOp.mk (some 28) (AK.bin false BinOp.gtr (AX.t 26) (AX.t 27)) none 2 false true)]) (AC.cond (AX.t 28) (AC.exit 2) AC.skip)) (AC.seq (AC.ops [(AOp.mk (some 29) (AK.mv (AX.t 5)) none 0 false true), (AOp.mk (some 30) (AK.mv (AX.t 6)) none 1 false true), (AOp.mk (some 31) (AK.mv (AX.t 9)) none 2 false true), (AOp.mk (some 32) (AK.bin false BinOp.sub (AX.t 30) (AX.t 31)) none 3 false true), (AOp.mk (some 33) (AK.iadrS 4 (AX.t 29) (AX.t 32)) none 4 false true), (AOp.mk (some 34) (AK.ld (some 4) (AX.t 33)) none 5 false true), (AOp.mk (some 35) (AK.mv (AX.t 8)) none 6 false true), (AOp.mk (some 36) (AK.call 104 [(AX.t 34), (AX.t 35)]) none 7 false true), (AOp.mk (some 10) (AK.new (PV.agg [(PV.val (Value.int IntKind.i64 0)), (PV.val (Value.int IntKind.i64 0)), (PV.val (Value.int IntKind.i64 0)), (PV.val (Value.int IntKind.i64 0))])) none 8 false true), (AOp.mk none (AK.st 4 (AX.t 10) (AX.t 36)) none 9 false true)]) (AC.seq (AC.ops [(AOp.mk (some 37) (AK.ld (some 4) (AX.t 7)) none 0 false true), (AOp.mk (some 38) (AK.build [(PV.val (Value.int IntKind.i64 0)), (PV.val (Value.int IntKind.i64 0)), (PV.val (Value.int IntKind.i64 0)), (PV.val (Value.int IntKind.i64 0))] []) none 1 false true), (AOp.mk (some 39) (AK.eqs [CK.i, CK.i, CK.i, CK.i] false (AX.t 37) (AX.t 38)) none 2 false true), (AOp.mk (some 40) (AK.mv (AX.t 39)) none 3 false true), (AOp.mk (some 41) (AK.ld (some 4) (AX.t 10)) (some (40, false)) 4 false true), (AOp.mk (some 42) (AK.ld (some 4) (AX.t 7)) (some (40, false)) 5 false true), (AOp.mk (some 43) (AK.call 105 [(AX.t 41), (AX.t 42)]) (some (40, false)) 6 false true), (AOp.mk (some 44) (AK.pick (AX.t 40) (AX.c (PV.val (Value.bool true))) (AX.t 43)) none 7 false true)]) (AC.cond (AX.t 44) (AC.ops [(AOp.mk (some 45) (AK.ld (some 4) (AX.t 10)) none 0 false true), (AOp.mk none (AK.st 4 (AX.t 7) (AX.t 45)) none 1 false true)]) AC.skip)))))) (AC.ops [(AOp.mk (some 46) (AK.bin false BinOp.add (AX.t 21) (AX.c (PV.val (Value.int IntKind.i64 1)))) none 0 false true), (AOp.mk (some 21) (AK.mv (AX.t 46)) none 1 false true)]))))))) (AC.ops [(AOp.mk (some 47) (AK.mv (AX.t 5)) none 0 false true), (AOp.mk (some 48) (AK.ld (some 4) (AX.t 7)) none 1 false true), (AOp.mk (some 49) (AK.bslice false 136 4 1 [(PV.val (Value.int IntKind.i64 0)), (PV.val (Value.int IntKind.i64 0)), (PV.val (Value.int IntKind.i64 0)), (PV.val (Value.int IntKind.i64 0))] [(0, (4, (AX.t 48)))]) none 2 false true), (AOp.mk (some 50) (AK.app false 136 4 32 [(PV.val (Value.int IntKind.i64 0)), (PV.val (Value.int IntKind.i64 0)), (PV.val (Value.int IntKind.i64 0)), (PV.val (Value.int IntKind.i64 0))] (AX.t 47) (AX.t 49)) none 3 false true), (AOp.mk (some 5) (AK.mv (AX.t 50)) none 4 false true)])))) (AC.ops [(AOp.mk (some 17) (AK.mv (AX.t 6)) none 0 false true), (AOp.mk (some 18) (AK.bin false BinOp.add (AX.t 17) (AX.c (PV.val (Value.int IntKind.i64 1)))) none 1 false true), (AOp.mk (some 6) (AK.mv (AX.t 18)) none 2 false true)])))))) (AC.seq (AC.ops [(AOp.mk (some 51) (AK.mv (AX.t 5)) none 0 false true), (AOp.mk (some 52) (AK.mv (AX.t 1)) none 1 false true), (AOp.mk (some 53) (AK.iadrS 4 (AX.t 51) (AX.t 52)) none 2 false true), (AOp.mk (some 54) (AK.ld (some 4) (AX.t 53)) none 3 false true), (AOp.mk (some 11) (AK.new (PV.agg [(PV.val (Value.int IntKind.i64 0)), (PV.val (Value.int IntKind.i64 0)), (PV.val (Value.int IntKind.i64 0)), (PV.val (Value.int IntKind.i64 0))])) none 4 false true), (AOp.mk none (AK.st 4 (AX.t 11) (AX.t 54)) none 5 false true)]) (AC.seq (AC.ops [(AOp.mk (some 55) (AK.mv (AX.t 0)) none 0 false true), (AOp.mk (some 56) (AK.len (AX.t 55)) none 1 false true), (AOp.mk (some 57) (AK.slcA 1 4 (AX.t 11) none (some (AX.t 56))) none 2 false true), (AOp.mk (some 58) (AK.call 103 [(AX.t 57)]) none 3 false true), (AOp.mk (some 4) (AK.mv (AX.t 58)) none 4 false true)]) AC.ret)))))
theorem ac71_ok : cCode Tryz.prog (fun _ => false) Tryz.f71.ntmps (Tryz.f71.body.getD .skip) = some ac71 := by kernel_rfl
theorem coins_ok {l : List Int} (h : okCoins l) : Coins l := by
  cases l with
  | nil => exact h.elim
  | cons x l =>
    obtain ⟨h1, h2, h3⟩ := h
    subst h2
    have ht := tail_all.1 h3
    have g0 : ((1 : Int) :: l).getD 0 0 = 1 := rfl
    have gs : ∀ n (hn : n < l.length), ((1 : Int) :: l).getD (n + 1) 0 = l[n] := fun n hn => by simp [List.getD_eq_getElem?_getD, hn]
    have hstep : ∀ n, n + 1 < ((1 : Int) :: l).length → ((1 : Int) :: l).getD n 0 < ((1 : Int) :: l).getD (n + 1) 0 ∧ ((1 : Int) :: l).getD (n + 1) 0 ≤ 240 := fun n hn => by
      have hn2 : n < l.length := by simpa using hn
      obtain ⟨q1, q2⟩ := ht n hn2
      rw [gs n hn2, List.getD_eq_getElem?_getD, List.getElem?_eq_getElem (by simp; omega)]
      exact ⟨by simp only [Option.getD_some]; omega, q2⟩
    have hinc : ∀ m n, n < m → m < ((1 : Int) :: l).length → ((1 : Int) :: l).getD n 0 < ((1 : Int) :: l).getD m 0 := fun m => by
      induction m with
      | zero => intro n h; omega
      | succ m ih =>
        intro n hnm hm
        have h1 := (hstep m hm).1
        by_cases e : n = m
        · rw [e]; exact h1
        · have := ih n (by omega) (by omega)
          omega
    refine ⟨by simp, h1, g0, fun n hn => ?_, fun n m hnm hm => hinc m n hnm hm, fun n hn => ?_⟩
    · cases n with
      | zero => rw [g0]; omega
      | succ n => have := hinc (n + 1) 0 (by omega) hn; rw [g0] at this; omega
    · cases n with
      | zero => rw [g0]; decide
      | succ n => exact (hstep n hn).2
theorem pays_bound {coins q : List Int} (hc : Coins coins) {d : Nat} (h : Pays coins q d) : ∀ x ∈ q, 0 ≤ x ∧ x ≤ (d : Int) := by
  intro x hx
  obtain ⟨n, hn, rfl⟩ := List.getElem_of_mem hx
  have hl := h.len
  have hg : q.getD n 0 = q[n] := by rw [List.getD_eq_getElem?_getD, List.getElem?_eq_getElem hn]; rfl
  have h0 := h.pos n (by omega)
  rw [hg] at h0
  refine ⟨h0, ?_⟩
  by_cases hlt : n < coins.length
  · have key : ∀ (cs l : List Int) (n : Nat), (∀ n, n < cs.length → 1 ≤ cs.getD n 0) → (∀ n, n < l.length → 0 ≤ l.getD n 0) → n < cs.length → n < l.length → l.getD n 0 ≤ dotI cs l := by
      intro cs
      induction cs with
      | nil => intro l n _ _ h; exact absurd h (by simp)
      | cons c cs ih =>
        intro l n h1 h2 h3 h4
        cases l with
        | nil => exact absurd h4 (by simp)
        | cons y l =>
          have a1 : (1 : Int) ≤ c := by simpa using h1 0 (by simp)
          have a2 : (0 : Int) ≤ y := by simpa using h2 0 (by simp)
          have hnn : ∀ (cs l : List Int), (∀ n, n < cs.length → 1 ≤ cs.getD n 0) → (∀ n, n < l.length → 0 ≤ l.getD n 0) → 0 ≤ dotI cs l := by
            intro cs
            induction cs with
            | nil => intro l _ _; simp [dotI]
            | cons c cs ih =>
              intro l h1 h2
              cases l with
              | nil => simp [dotI]
              | cons x l =>
                have a1 := h1 0 (by simp)
                have a2 := h2 0 (by simp)
                have := ih l (fun n hn => h1 (n + 1) (by simpa using hn)) (fun n hn => h2 (n + 1) (by simpa using hn))
                have a1 : (1 : Int) ≤ c := by simpa using a1
                have := Int.mul_nonneg (show 0 ≤ x by simpa using a2) (show 0 ≤ c by omega)
                simp only [dotI]
                omega
          have h5 : y * 1 ≤ y * c := Int.mul_le_mul_of_nonneg_left a1 a2
          have h6 : 0 ≤ y * c := Int.mul_nonneg a2 (by omega)
          have hr1 : ∀ n, n < cs.length → 1 ≤ cs.getD n 0 := fun n hn => h1 (n + 1) (by simpa using hn)
          have hr2 : ∀ n, n < l.length → 0 ≤ l.getD n 0 := fun n hn => h2 (n + 1) (by simpa using hn)
          have h7 := hnn cs l hr1 hr2
          cases n with
          | zero =>
            simp only [dotI, List.getD_cons_zero]
            omega
          | succ n =>
            have := ih l n hr1 hr2 (by simpa using h3) (by simpa using h4)
            simp only [dotI, List.getD_cons_succ]
            omega
    have := key coins q n hc.pos (fun n hn => h.pos n (by omega)) hlt hn
    rw [h.dot, hg] at this
    exact this
  · have := h.out n (by omega)
    rw [hg] at this
    omega
theorem pur_len {coins : List Int} (hc : Coins coins) (d : Nat) : (purP coins d).length = 4 := (pur_best hc d).pays.len
theorem bestC_stop {coins : List Int} (hc : Coins coins) {ps : Nat → List Int} {d n : Nat} (hn : n < coins.length) (hg : (d : Int) < coins.getD n 0) : ∀ m, n ≤ m → m ≤ coins.length → bestC coins ps d m = bestC coins ps d n
  | 0, h, _ => by rw [show n = 0 by omega]
  | m + 1, h, hm => by
    by_cases e : n = m + 1
    · rw [e]
    · have ih := bestC_stop hc (ps := ps) hn hg m (by omega) (by omega)
      rw [bestC_next, ih]
      unfold bestF
      rw [if_neg]
      by_cases e2 : n = m
      · rw [← e2]; omega
      · have := hc.inc n m (by omega) (by omega)
        omega
theorem purL_at {coins : List Int} (d : Nat) {i : Nat} (h : i ≤ d) : ∃ hl : i < (purL coins d).length, (purL coins d)[i] = purP coins i := by
  have hl : i < (purL coins d).length := by rw [purL_len]; omega
  refine ⟨hl, ?_⟩
  have := purL_get coins d i h
  rwa [List.getD_eq_getElem?_getD, List.getElem?_eq_getElem hl] at this
theorem purL_next {coins : List Int} (_ : Coins coins) (d : Nat) : purL coins (d + 1) = purL coins d ++ [purP coins (d + 1)] := by
  have h : purP coins (d + 1) = bestC coins (fun i => (purL coins d).getD i zeroP) (d + 1) coins.length := by
    unfold purP
    rw [purL, List.getD_eq_getElem?_getD, List.getElem?_append_right (by rw [purL_len]; exact Nat.le_refl _), purL_len]
    simp
  rw [purL, h]
abbrev pursC (l : List (List Int)) : List (List PV) := l.map purC
theorem four {q : List Int} (h : q.length = 4) : ∃ a b c d, q = [a, b, c, d] := by
  match q, h with
  | [a, b, c, d], _ => exact ⟨a, b, c, d, rfl⟩
theorem bestC_len {l : List Int} (hc : Coins l) {d n : Nat} (hd : 1 ≤ d) (hn : n ≤ l.length) : (bestC l (purP l) d n).length = 4 ∧ ∀ x ∈ bestC l (purP l) d n, 0 ≤ x ∧ x ≤ (d : Int) := by
  rcases bestC_inv hc hd (fun i _ => pur_best hc i) n hn with ⟨h, -⟩ | ⟨h, -⟩
  · rw [h]
    exact ⟨rfl, fun x hx => by
      have : x = 0 := by simpa [zeroP] using hx
      omega⟩
  · exact ⟨h.len, pays_bound hc h⟩
abbrev cell4 (p : List Int) : ABlk := .cells (p.map fun x => .p (pi x))
set_option maxRecDepth 100000 in
set_option maxHeartbeats 2000000 in
theorem pay_sem (k : SK) {l : List Int} (hc : Coins l) {pence : Nat} (hp : pence ≤ 600) : Sem1 71 [.sl k 1 (ints l), pi pence] (.sl .full 1 (ints ((purP l pence).take l.length))) := by
  have hl4 := hc.le
  refine semC_of_exec' mixed Tryz.func71 (by kernel_rfl) (by kernel_rfl) ac71_ok 2 rfl (by decide) [(.tmp 4)] (by kernel_rfl) ?_
  intro hr C hC hI
  unfold ac71
  simp only [go_sem, Nat.reduceBEq, Nat.reduceAdd, putCells]
  refine loop_g (α := Nat × Option Nat) (fun a => a.1 ≤ pence) (fun a => pence - a.1) [0, 1] (fun a => [(5, .p (.sl (kindO 136 4 a.2) 4 (pursC (purL l a.1)))), (6, .p (pi ((a.1 + 1 : Nat) : Int)))]) (fun _ => []) (fun a => a.2.toList) (0, none) (Nat.zero_le _) (by simp [Wk, wkT, wkL, look, AV.lo, upS_eq, keepS_nil, keepS_cons, kindO, purL, zeroP]) ?_
  rintro ⟨d, o⟩ hd
  replace hd : d ≤ pence := hd
  simp only [go_sem, Nat.reduceBEq]
  refine ⟨fun h5 => ?_, fun h5 => ?_⟩
  · have hd2 : d < pence := by omega
    simp only [go_sem, List.length_map]
    refine loop_kl l.length (fun _ => True) [0, 1, 5, 6, 7, 19, 20] (fun j => [(21, .p (pi j))]) (fun j => [cell4 (bestC l (purP l) (d + 1) j)]) trivial (by cases o <;> simp [Wk, wkT, wkL, look, AV.lo, AV.lo.loL, ABlk.toZ, upS_eq, keepS_nil, keepS_cons, kindO, bestC, zeroP]) ?_
    rintro j ⟨hj, -⟩
    obtain ⟨hbl, hbb⟩ := bestC_len hc (d := d + 1) (n := j) (by omega) hj
    have hnx := bestC_next l (purP l) (d + 1) j
    have hstop := fun h1 h2 => bestC_stop hc (ps := purP l) (d := d + 1) (n := j) h1 h2 l.length
    have hend := purP_next hc.pos d
    obtain ⟨B, hB⟩ : ∃ B, bestC l (purP l) (d + 1) j = B := ⟨_, rfl⟩
    rw [hB] at hbl hbb hnx hstop ⊢
    obtain ⟨y0, y1, y2, y3, rfl⟩ := four hbl
    simp only [go_sem, Nat.reduceBEq, Nat.reduceAdd, Nat.reduceLeDiff]
    refine ⟨fun h7 => ?_, fun h7 => ?_⟩
    · have hj2 : j < l.length := by omega
      have hg : l[j] = l.getD j 0 := by rw [List.getD_eq_getElem?_getD, List.getElem?_eq_getElem hj2]; rfl
      have e1 := iadr_map (f := fun x : Int => [pi x]) (kd := k) (sz := 1) hj2
      rw [hg] at e1
      have hcp := hc.pos j hj2
      have hct := hc.top j hj2
      obtain ⟨c, hcc⟩ : ∃ c : Nat, l.getD j 0 = c := ⟨(l.getD j 0).toNat, by omega⟩
      rw [hcc] at e1 hcp hct
      simp only [go_sem, Nat.reduceBEq, Nat.reduceAdd, Nat.reduceLeDiff, e1]
      refine ⟨fun h9 => ?_, fun h9 => ?_⟩
      · have hrow : pursC (purL l (d + 1)) = pursC (purL l d) ++ [[pi y0, pi y1, pi y2, pi y3]] := by
          rw [purL_next hc d, hend, hstop hj2 (by rw [hcc]; omega) (by omega) (Nat.le_refl _)]
          simp
        refine ⟨by rw [List.length_map, purL_len]; omega, can_kindO o, fun t ht => ⟨⟨(d + 1, some t), hd2⟩, by simp only; omega, ?_⟩⟩
        simp only [hrow]
        rw [wrap_succ (k := d + 1) (by omega)]
        cases o <;> simp [Wk, wkT, wkL, look, AV.lo, kindO]
      · obtain ⟨q, hq⟩ : ∃ q, d + 1 - c = q := ⟨_, rfl⟩
        have w1 : IntKind.i64.wrap (((d + 1 : Nat) : Int) - c) = (q : Int) := by rw [wrap_id (by omega) (by omega)]; omega
        obtain ⟨hil, hie⟩ := purL_at (coins := l) d (i := q) (by omega)
        have e2 := iadr_map (f := purC) (kd := kindO 136 4 o) (sz := 4) hil
        rw [hie] at e2
        have hpb := pays_bound hc (pur_best hc q).pays
        rw [show bestF l (purP l) (d + 1) [y0, y1, y2, y3] j = if [y0, y1, y2, y3] = zeroP ∨ betB (addAt (purP l q) j) [y0, y1, y2, y3] = true then addAt (purP l q) j else [y0, y1, y2, y3] by unfold bestF; rw [hcc, Int.toNat_natCast, if_pos (by omega), hq]] at hnx
        have hpl := pur_len hc q
        obtain ⟨P, hP⟩ : ∃ P, purP l q = P := ⟨_, rfl⟩
        rw [hP] at e2 hpb hnx hpl
        obtain ⟨x0, x1, x2, x3, rfl⟩ := four hpl
        have hw := pwith_sem (p := [x0, x1, x2, x3]) rfl (n := j) (by omega) (fun x hx => by have := hpb x hx; omega)
        have hzl := addAt_len [x0, x1, x2, x3] j
        have hzb : ∀ x ∈ addAt [x0, x1, x2, x3] j, 0 ≤ x ∧ x ≤ 1000000 := fun x hx => by
          have h4 : j = 0 ∨ j = 1 ∨ j = 2 ∨ j = 3 := by omega
          have g0 := hpb x0 (by simp)
          have g1 := hpb x1 (by simp)
          have g2 := hpb x2 (by simp)
          have g3 := hpb x3 (by simp)
          rcases h4 with rfl | rfl | rfl | rfl <;> simp only [addAt, List.mem_cons, List.not_mem_nil, or_false] at hx <;> rcases hx with rfl | rfl | rfl | rfl <;> omega
        obtain ⟨Z, hZ⟩ : ∃ Z, addAt [x0, x1, x2, x3] j = Z := ⟨_, rfl⟩
        rw [hZ] at hw hzl hzb hnx
        obtain ⟨z0, z1, z2, z3, rfl⟩ := four (q := Z) (by rw [hzl]; rfl)
        have hbet := better_sem (p := [z0, z1, z2, z3]) (q := [y0, y1, y2, y3]) rfl rfl hzb (fun x hx => by have := hbb x hx; omega)
        simp only [go_sem, Nat.reduceBEq, Nat.reduceAdd, e2, w1]
        refine call_pure2 hC hw rfl (PVleL_refl _) ?_
        rintro _ rfl
        simp only [go_sem, Nat.reduceBEq, Nat.reduceAdd, putCells]
        refine ⟨fun h => ?_, fun h => ?_⟩
        · have hz : ¬ [y0, y1, y2, y3] = zeroP := by simpa [zeroP] using h
          refine call_pure2 hC hbet rfl (PVleL_refl _) ?_
          rintro _ rfl
          cases hb : betB [z0, z1, z2, z3] [y0, y1, y2, y3]
          · rw [if_neg (by rw [hb]; simp [hz])] at hnx
            simp only [go_sem, Nat.reduceBEq, wrap_succ (k := j) (by omega)]
            refine ⟨⟨j + 1, hj2, trivial⟩, by simp only; omega, ?_⟩
            simp only [hnx]
            cases o <;> simp [Wk, wkT, wkL, look, AV.lo, AV.lo.loL, ABlk.toZ, kindO]
          · rw [if_pos (.inr hb)] at hnx
            simp only [go_sem, Nat.reduceBEq, Nat.reduceAdd, wrap_succ (k := j) (by omega), putCells, not_false_eq_true]
            refine ⟨⟨j + 1, hj2, trivial⟩, by simp only; omega, ?_⟩
            simp only [hnx]
            cases o <;> simp [Wk, wkT, wkL, look, AV.lo, AV.lo.loL, ABlk.toZ, kindO]
        · have hz : [y0, y1, y2, y3] = zeroP := by simpa [zeroP] using h
          rw [if_pos (.inl hz)] at hnx
          simp only [go_sem, wrap_succ (k := j) (by omega)]
          refine ⟨⟨j + 1, hj2, trivial⟩, by simp only; omega, ?_⟩
          simp only [hnx]
          cases o <;> simp [Wk, wkT, wkL, look, AV.lo, AV.lo.loL, ABlk.toZ, kindO]
    · have hjn : j = l.length := by omega
      subst hjn
      have hrow : pursC (purL l (d + 1)) = pursC (purL l d) ++ [[pi y0, pi y1, pi y2, pi y3]] := by
        rw [purL_next hc d, hend, hB]
        simp
      refine ⟨by rw [List.length_map, purL_len]; omega, can_kindO o, fun t ht => ⟨⟨(d + 1, some t), hd2⟩, by simp only; omega, ?_⟩⟩
      simp only [hrow]
      rw [wrap_succ (k := d + 1) (by omega)]
      cases o <;> simp [Wk, wkT, wkL, look, AV.lo, kindO]
  · have hdn : d = pence := by omega
    subst hdn
    obtain ⟨hil, hie⟩ := purL_at (coins := l) d (i := d) (Nat.le_refl _)
    have e2 := iadr_map (f := purC) (kd := kindO 136 4 o) (sz := 4) hil
    rw [hie] at e2
    have hpl := pur_len hc d
    obtain ⟨P, hP⟩ : ∃ P, purP l d = P := ⟨_, rfl⟩
    rw [hP] at e2 hpl ⊢
    obtain ⟨x0, x1, x2, x3, rfl⟩ := four hpl
    simp only [go_sem, Nat.reduceBEq, Nat.reduceAdd, e2, putCells, List.length_map]
    have hpur : pur 100 [ABlk.cells [AV.p (pi x0), AV.p (pi x1), AV.p (pi x2), AV.p (pi x3)]] (AV.loc 0 0) = some (.ptr [pi x0, pi x1, pi x2, pi x3] 0, [.frz [pi x0, pi x1, pi x2, pi x3]]) := rfl
    have h1 := hc.ne
    have hrows : rows 1 ((l.length : Int) - 0).toNat ([pi x0, pi x1, pi x2, pi x3].drop (0 + (0 : Int).toNat * 1)) = ints ([x0, x1, x2, x3].take l.length) := by
      have h4 : l.length = 1 ∨ l.length = 2 ∨ l.length = 3 ∨ l.length = 4 := by omega
      rcases h4 with e | e | e | e <;> rw [e] <;> rfl
    rw [hpur, slaK_some]
    refine ⟨by omega, by omega, by omega, by simp, ?_⟩
    rw [hrows]
    simp only [go_sem, Nat.reduceBEq]
    refine call_pure2 hC (handedI_sem (if (l.length : Int) = ((4 : Nat) : Int) then .full else .sh) 1 ([x0, x1, x2, x3].take l.length) (.inl rfl)) rfl (PVleL_refl _) ?_
    rintro _ rfl
    simp only [go_sem, Nat.reduceBEq]
    exact retQ_one rfl rfl
end Go.Proofs.YtlcpplkbmlmmbaaGreat.Mk.Me
