/- Contracts of maker: who is possible, what was changed. Contracts of maker: verdicts, values, what is needed, where to look. Contracts of maker: what is needed, two makers, where to look. -/
import Derived.Test.YtlcpplkbmlmmbaaGreatCaps02
namespace Go.Proofs.YtlcpplkbmlmmbaaGreat.Mk
open Go.RowKit Ls
def ac114 : AC := (AC.seq (AC.ops [(AOp.mk (some 4) (AK.new (PV.val (Value.bool false))) none 0 false true)]) (AC.seq (AC.seq (AC.ops [(AOp.mk (some 5) (AK.mv (AX.t 0)) none 0 false true), (AOp.mk (some 6) (AK.mv (AX.t 1)) none 1 false true), (AOp.mk (some 7) (AK.bslice false 3 1 1 [(PV.val (Value.int IntKind.i64 0))] [(0, (1, (AX.t 6)))]) none 2 false true), (AOp.mk (some 8) (AK.call 118 [(AX.t 5), (AX.t 7)]) none 3 false true)]) (AC.block 0 (AC.rng (AX.t 8) [9] AC.skip (AC.block 1 (AC.seq (AC.ops [(AOp.mk none (AK.st 1 (AX.t 4) (AX.c (PV.val (Value.bool true)))) none 0 false true)]) AC.ret))))) (AC.seq (AC.ops [(AOp.mk none (AK.st 1 (AX.t 4) (AX.c (PV.val (Value.bool false)))) none 0 false true)]) AC.ret)))
theorem ac114_ok : cCode Tryz.prog (fun _ => false) Tryz.f114.ntmps (Tryz.f114.body.getD .skip) = some ac114 := by kernel_rfl
def ac79 : AC := (AC.seq (AC.ops [(AOp.mk (some 2) (AK.mv (AX.c (PV.sl SK.full 0 []))) none 0 false true)]) (AC.seq (AC.ops [(AOp.mk (some 3) (AK.mv (AX.t 0)) none 0 false true), (AOp.mk (some 4) (AK.nilc (AX.t 3)) none 1 false true), (AOp.mk (some 5) (AK.fadr 0 (AX.t 4)) none 2 false true), (AOp.mk (some 6) (AK.fadr 0 (AX.t 5)) none 3 false true), (AOp.mk (some 7) (AK.ld none (AX.t 6)) none 4 false true), (AOp.mk (some 8) (AK.len (AX.t 7)) none 5 false true), (AOp.mk (some 9) (AK.mv (AX.t 0)) none 6 false true), (AOp.mk (some 10) (AK.mkf 114 [(AX.t 9)] []) none 7 false true), (AOp.mk (some 11) (AK.call 113 [(AX.t 8), (AX.t 10)]) none 8 false true), (AOp.mk (some 2) (AK.mv (AX.t 11)) none 9 false true)]) AC.ret))
theorem ac79_ok : cCode Tryz.prog (fun _ => false) Tryz.f79.ntmps (Tryz.f79.body.getD .skip) = some ac79 := by kernel_rfl
def ac192 : AC := (AC.seq (AC.ops [(AOp.mk (some 3) (AK.box 2 (AX.t 1)) none 0 false true), (AOp.mk (some 4) (AK.mv (AX.c (PV.val (Value.int IntKind.i64 0)))) none 1 false true)]) (AC.seq (AC.seq (AC.ops [(AOp.mk (some 6) (AK.mv (AX.t 0)) none 0 false true), (AOp.mk (some 7) (AK.len (AX.t 6)) none 1 false true), (AOp.mk (some 8) (AK.mv (AX.c (PV.val (Value.int IntKind.i64 0)))) none 2 false true)]) (AC.block 0 (AC.loop (AC.seq (AC.ops [(AOp.mk (some 9) (AK.bin false BinOp.lss (AX.t 8) (AX.t 7)) none 0 false true)]) (AC.seq (AC.cond (AX.t 9) AC.skip (AC.exit 0)) (AC.seq (AC.block 1 (AC.seq (AC.ops [(AOp.mk (some 10) (AK.mv (AX.t 8)) none 0 false true), (AOp.mk (some 5) (AK.mv (AX.t 10)) none 1 false true)]) (AC.seq (AC.ops [(AOp.mk (some 11) (AK.ld (some 2) (AX.t 3)) none 0 true false), (AOp.mk (some 12) (AK.mv (AX.t 0)) none 1 true false), (AOp.mk (some 13) (AK.mv (AX.t 5)) none 2 true false), (AOp.mk (some 14) (AK.iadrS 2 (AX.t 12) (AX.t 13)) none 3 true false), (AOp.mk (some 15) (AK.ld (some 2) (AX.t 14)) none 4 true false), (AOp.mk (some 16) (AK.eqs [CK.i, CK.i] false (AX.t 11) (AX.t 15)) none 5 true true)]) (AC.cond (AX.t 16) (AC.seq (AC.ops [(AOp.mk (some 17) (AK.mv (AX.t 5)) none 0 false true), (AOp.mk (some 4) (AK.mv (AX.t 17)) none 1 false true)]) AC.ret) AC.skip)))) (AC.ops [(AOp.mk (some 18) (AK.bin false BinOp.add (AX.t 8) (AX.c (PV.val (Value.int IntKind.i64 1)))) none 0 false true), (AOp.mk (some 8) (AK.mv (AX.t 18)) none 1 false true)]))))))) (AC.seq (AC.ops [(AOp.mk (some 4) (AK.mv (AX.c (PV.val (Value.int IntKind.i64 (-1))))) none 0 false true)]) AC.ret)))
theorem ac192_ok : cCode Tryz.prog (fun _ => false) Tryz.f192.ntmps (Tryz.f192.body.getD .skip) = some ac192 := by kernel_rfl
def ac191 : AC := (AC.seq (AC.ops [(AOp.mk (some 3) (AK.box 2 (AX.t 1)) none 0 false true), (AOp.mk (some 4) (AK.mv (AX.c (PV.val (Value.bool false)))) none 1 false true)]) (AC.seq (AC.ops [(AOp.mk (some 5) (AK.mv (AX.t 0)) none 0 false true), (AOp.mk (some 6) (AK.ld (some 2) (AX.t 3)) none 1 false true), (AOp.mk (some 7) (AK.call 192 [(AX.t 5), (AX.t 6)]) none 2 false true), (AOp.mk (some 8) (AK.bin false BinOp.geq (AX.t 7) (AX.c (PV.val (Value.int IntKind.i64 0)))) none 3 false true), (AOp.mk (some 4) (AK.mv (AX.t 8)) none 4 false true)]) AC.ret))
theorem ac191_ok : cCode Tryz.prog (fun _ => false) Tryz.f191.ntmps (Tryz.f191.body.getD .skip) = some ac191 := by kernel_rfl
def ac190 : AC := (AC.seq (AC.ops [(AOp.mk (some 2) (AK.box 8 (AX.t 0)) none 0 false true), (AOp.mk (some 3) (AK.box 2 (AX.t 1)) none 1 false true), (AOp.mk (some 4) (AK.mv (AX.c (PV.val (Value.bool false)))) none 2 false true)]) (AC.seq (AC.ops [(AOp.mk (some 5) (AK.fadr 1 (AX.t 2)) none 0 false true), (AOp.mk (some 6) (AK.ld none (AX.t 5)) none 1 false true), (AOp.mk (some 7) (AK.ld (some 2) (AX.t 3)) none 2 false true), (AOp.mk (some 8) (AK.call 191 [(AX.t 6), (AX.t 7)]) none 3 false true), (AOp.mk (some 4) (AK.mv (AX.t 8)) none 4 false true)]) AC.ret))
theorem ac190_ok : cCode Tryz.prog (fun _ => false) Tryz.f190.ntmps (Tryz.f190.body.getD .skip) = some ac190 := by kernel_rfl
def ac187 : AC := (AC.seq (AC.ops [(AOp.mk (some 3) (AK.box 2 (AX.t 1)) none 0 false true), (AOp.mk (some 4) (AK.new (PV.val (Value.bool false))) none 1 false true)]) (AC.seq (AC.seq (AC.ops [(AOp.mk (some 6) (AK.mv (AX.t 0)) none 0 false true), (AOp.mk (some 7) (AK.fadr 0 (AX.t 3)) none 1 false true), (AOp.mk (some 8) (AK.ld none (AX.t 7)) none 2 false true), (AOp.mk (some 9) (AK.bslice false 3 1 1 [(PV.val (Value.int IntKind.i64 0))] [(0, (1, (AX.t 8)))]) none 3 false true), (AOp.mk (some 10) (AK.call 118 [(AX.t 6), (AX.t 9)]) none 4 false true)]) (AC.block 0 (AC.rng (AX.t 10) [11] (AC.ops [(AOp.mk (some 5) (AK.new (PV.agg [(PV.val (Value.int IntKind.i64 0)), (PV.sl SK.full 0 []), (PV.val (Value.int IntKind.i64 0)), (PV.val (Value.int IntKind.i64 0)), (PV.val (Value.int IntKind.i64 0)), (PV.val (Value.int IntKind.i64 0)), (PV.val (Value.int IntKind.i64 0)), (PV.val (Value.int IntKind.i64 0))])) none 0 false true), (AOp.mk none (AK.st 8 (AX.t 5) (AX.t 11)) none 1 false true)]) (AC.block 1 (AC.seq (AC.ops [(AOp.mk (some 12) (AK.ld (some 8) (AX.t 5)) none 0 false true), (AOp.mk (some 13) (AK.ld (some 2) (AX.t 3)) none 1 false true), (AOp.mk (some 14) (AK.call 190 [(AX.t 12), (AX.t 13)]) none 2 false true), (AOp.mk (some 15) (AK.un UnOp.not (AX.t 14)) none 3 false true)]) (AC.cond (AX.t 15) (AC.seq (AC.ops [(AOp.mk none (AK.st 1 (AX.t 4) (AX.c (PV.val (Value.bool false)))) none 0 false true)]) AC.ret) AC.skip)))))) (AC.seq (AC.ops [(AOp.mk none (AK.st 1 (AX.t 4) (AX.c (PV.val (Value.bool true)))) none 0 false true)]) AC.ret)))
theorem ac187_ok : cCode Tryz.prog (fun _ => false) Tryz.f187.ntmps (Tryz.f187.body.getD .skip) = some ac187 := by kernel_rfl
def ac188 : AC := (AC.seq (AC.ops [(AOp.mk (some 3) (AK.box 2 (AX.t 1)) none 0 false true), (AOp.mk (some 4) (AK.new (PV.val (Value.bool false))) none 1 false true)]) (AC.seq (AC.seq (AC.ops [(AOp.mk (some 6) (AK.mv (AX.t 0)) none 0 false true), (AOp.mk (some 7) (AK.fadr 0 (AX.t 3)) none 1 false true), (AOp.mk (some 8) (AK.ld none (AX.t 7)) none 2 false true), (AOp.mk (some 9) (AK.bslice false 3 1 1 [(PV.val (Value.int IntKind.i64 0))] [(0, (1, (AX.t 8)))]) none 3 false true), (AOp.mk (some 10) (AK.call 118 [(AX.t 6), (AX.t 9)]) none 4 false true)]) (AC.block 0 (AC.rng (AX.t 10) [11] (AC.ops [(AOp.mk (some 5) (AK.new (PV.agg [(PV.val (Value.int IntKind.i64 0)), (PV.sl SK.full 0 []), (PV.val (Value.int IntKind.i64 0)), (PV.val (Value.int IntKind.i64 0)), (PV.val (Value.int IntKind.i64 0)), (PV.val (Value.int IntKind.i64 0)), (PV.val (Value.int IntKind.i64 0)), (PV.val (Value.int IntKind.i64 0))])) none 0 false true), (AOp.mk none (AK.st 8 (AX.t 5) (AX.t 11)) none 1 false true)]) (AC.block 1 (AC.seq (AC.ops [(AOp.mk (some 12) (AK.ld (some 8) (AX.t 5)) none 0 false true), (AOp.mk (some 13) (AK.ld (some 2) (AX.t 3)) none 1 false true), (AOp.mk (some 14) (AK.call 190 [(AX.t 12), (AX.t 13)]) none 2 false true)]) (AC.cond (AX.t 14) (AC.seq (AC.ops [(AOp.mk none (AK.st 1 (AX.t 4) (AX.c (PV.val (Value.bool true)))) none 0 false true)]) AC.ret) AC.skip)))))) (AC.seq (AC.ops [(AOp.mk none (AK.st 1 (AX.t 4) (AX.c (PV.val (Value.bool false)))) none 0 false true)]) AC.ret)))
theorem ac188_ok : cCode Tryz.prog (fun _ => false) Tryz.f188.ntmps (Tryz.f188.body.getD .skip) = some ac188 := by kernel_rfl
def ac189 : AC := (AC.seq (AC.ops [(AOp.mk (some 3) (AK.box 2 (AX.t 1)) none 0 false true), (AOp.mk (some 4) (AK.mv (AX.c (PV.val (Value.bool false)))) none 1 false true)]) (AC.seq (AC.ops [(AOp.mk (some 5) (AK.mv (AX.t 0)) none 0 false true), (AOp.mk (some 6) (AK.ld (some 2) (AX.t 3)) none 1 false true), (AOp.mk (some 7) (AK.call 188 [(AX.t 5), (AX.t 6)]) none 2 false true), (AOp.mk (some 8) (AK.un UnOp.not (AX.t 7)) none 3 false true), (AOp.mk (some 4) (AK.mv (AX.t 8)) none 4 false true)]) AC.ret))
theorem ac189_ok : cCode Tryz.prog (fun _ => false) Tryz.f189.ntmps (Tryz.f189.body.getD .skip) = some ac189 := by kernel_rfl
def ac184 : AC := (AC.seq (AC.ops [(AOp.mk (some 0) (AK.mv (AX.c (PV.sl SK.full 0 []))) none 0 false true)]) (AC.seq (AC.ops [(AOp.mk (some 1) (AK.build [(PV.val (Value.int IntKind.i64 0)), (PV.val Value.nilFunc)] [(0, (1, (AX.c (PV.val (Value.int IntKind.i64 2))))), (1, (1, (AX.c (PV.val (Value.func (Fn.func 187) #[] #[])))))]) none 0 false true), (AOp.mk (some 2) (AK.build [(PV.val (Value.int IntKind.i64 0)), (PV.val Value.nilFunc)] [(0, (1, (AX.c (PV.val (Value.int IntKind.i64 1))))), (1, (1, (AX.c (PV.val (Value.func (Fn.func 188) #[] #[])))))]) none 1 false true), (AOp.mk (some 3) (AK.build [(PV.val (Value.int IntKind.i64 0)), (PV.val Value.nilFunc)] [(0, (1, (AX.c (PV.val (Value.int IntKind.i64 0))))), (1, (1, (AX.c (PV.val (Value.func (Fn.func 189) #[] #[])))))]) none 2 false true), (AOp.mk (some 4) (AK.bslice false 210 2 3 [(PV.val (Value.int IntKind.i64 0)), (PV.val Value.nilFunc)] [(0, (2, (AX.t 1))), (2, (2, (AX.t 2))), (4, (2, (AX.t 3)))]) none 3 false true), (AOp.mk (some 0) (AK.mv (AX.t 4)) none 4 false true)]) AC.ret))
theorem ac184_ok : cCode Tryz.prog (fun _ => false) Tryz.f184.ntmps (Tryz.f184.body.getD .skip) = some ac184 := by kernel_rfl
def ac186 : AC := (AC.seq (AC.ops [(AOp.mk (some 3) (AK.box 2 (AX.t 0)) none 0 false true), (AOp.mk (some 4) (AK.mv (AX.c (PV.val (Value.bool false)))) none 1 false true)]) (AC.seq (AC.ops [(AOp.mk (some 5) (AK.fadr 1 (AX.t 3)) none 0 false true), (AOp.mk (some 6) (AK.ld none (AX.t 5)) none 1 false true), (AOp.mk (some 7) (AK.ld none (AX.t 1)) none 2 false true), (AOp.mk (some 8) (AK.ld (some 2) (AX.t 2)) none 3 false true), (AOp.mk (some 9) (AK.callv (AX.t 6) [(AX.t 7), (AX.t 8)]) none 4 false true), (AOp.mk (some 4) (AK.mv (AX.t 9)) none 5 false true)]) AC.ret))
theorem ac186_ok : cCode Tryz.prog (fun _ => false) Tryz.f186.ntmps (Tryz.f186.body.getD .skip) = some ac186 := by kernel_rfl
def ac185 : AC := (AC.seq (AC.ops [(AOp.mk (some 4) (AK.mv (AX.c (PV.val (Value.int IntKind.i64 0)))) none 0 false true)]) (AC.seq (AC.seq (AC.ops [(AOp.mk (some 6) (AK.mv (AX.t 0)) none 0 false true), (AOp.mk (some 7) (AK.len (AX.t 6)) none 1 false true), (AOp.mk (some 8) (AK.mv (AX.c (PV.val (Value.int IntKind.i64 0)))) none 2 false true)]) (AC.block 0 (AC.loop (AC.seq (AC.ops [(AOp.mk (some 9) (AK.bin false BinOp.lss (AX.t 8) (AX.t 7)) none 0 false true)]) (AC.seq (AC.cond (AX.t 9) AC.skip (AC.exit 0)) (AC.seq (AC.block 1 (AC.seq (AC.ops [(AOp.mk (some 10) (AK.mv (AX.t 8)) none 0 false true), (AOp.mk (some 5) (AK.mv (AX.t 10)) none 1 false true)]) (AC.seq (AC.ops [(AOp.mk (some 11) (AK.mv (AX.t 1)) none 0 false true), (AOp.mk (some 12) (AK.mv (AX.t 0)) none 1 false true), (AOp.mk (some 13) (AK.mv (AX.t 5)) none 2 false true), (AOp.mk (some 14) (AK.iadrS 2 (AX.t 12) (AX.t 13)) none 3 false true), (AOp.mk (some 15) (AK.ld (some 2) (AX.t 14)) none 4 false true), (AOp.mk (some 16) (AK.callv (AX.t 11) [(AX.t 15)]) none 5 false true)]) (AC.cond (AX.t 16) (AC.seq (AC.ops [(AOp.mk (some 17) (AK.mv (AX.t 5)) none 0 false true), (AOp.mk (some 4) (AK.mv (AX.t 17)) none 1 false true)]) AC.ret) AC.skip)))) (AC.ops [(AOp.mk (some 18) (AK.bin false BinOp.add (AX.t 8) (AX.c (PV.val (Value.int IntKind.i64 1)))) none 0 false true), (AOp.mk (some 8) (AK.mv (AX.t 18)) none 1 false true)]))))))) (AC.seq (AC.ops [(AOp.mk (some 4) (AK.mv (AX.c (PV.val (Value.int IntKind.i64 (-1))))) none 0 false true)]) AC.ret)))
theorem ac185_ok : cCode Tryz.prog (fun _ => false) Tryz.f185.ntmps (Tryz.f185.body.getD .skip) = some ac185 := by kernel_rfl
def ac182 : AC := (AC.seq (AC.ops [(AOp.mk (some 2) (AK.box 1 (AX.t 0)) none 0 false true), (AOp.mk (some 3) (AK.box 2 (AX.t 1)) none 1 false true), (AOp.mk (some 4) (AK.mv (AX.c (PV.val (Value.int IntKind.i64 0)))) none 2 false true)]) (AC.seq (AC.ops [(AOp.mk (some 7) (AK.call 184 []) none 0 false true), (AOp.mk (some 5) (AK.mv (AX.t 7)) none 1 false true)]) (AC.seq (AC.ops [(AOp.mk (some 8) (AK.mv (AX.t 5)) none 0 false true), (AOp.mk (some 9) (AK.mkf 186 [] [(AX.t 2), (AX.t 3)]) none 1 false true), (AOp.mk (some 10) (AK.call 185 [(AX.t 8), (AX.t 9)]) none 2 false true), (AOp.mk (some 6) (AK.mv (AX.t 10)) none 3 false true)]) (AC.seq (AC.ops [(AOp.mk (some 11) (AK.mv (AX.t 5)) none 0 false true), (AOp.mk (some 12) (AK.mv (AX.t 6)) none 1 false true), (AOp.mk (some 13) (AK.iadrS 2 (AX.t 11) (AX.t 12)) none 2 false true), (AOp.mk (some 14) (AK.fadr 0 (AX.t 13)) none 3 false true), (AOp.mk (some 15) (AK.ld none (AX.t 14)) none 4 false true), (AOp.mk (some 4) (AK.mv (AX.t 15)) none 5 false true)]) AC.ret))))
theorem ac182_ok : cCode Tryz.prog (fun _ => false) Tryz.f182.ntmps (Tryz.f182.body.getD .skip) = some ac182 := by kernel_rfl
theorem noY_pis2 (l : List Int) : noY.noYR (l.map fun x => [pi x]) = true := noYR_map (fun _ => rfl) l
theorem noY_rowsC (hs : List (List Int)) : noY.noYR (rowsC hs) = true := noYR_map (fun l => by simp only [noY.noYL, noY, noY_pis2, Bool.and_true]) hs
theorem noY_seenC (l : List (Int × Int)) : noY.noYR (seenC l) = true := noYR_map (fun _ => rfl) l
theorem noYM_own (b : MBook) : ∀ l : List (Nat × Nat), noY.noYM (l.map fun v : Nat × Nat => (PV.agg [pi v.1, pi v.2], pi (ownN b v.1 v.2))) = true
  | [] => rfl
  | x :: l => by
    have := noYM_own b l
    simp only [List.map_cons, noY.noYM, noY, noY.noYL, this, Bool.and_true]
theorem noY_ownE (b : MBook) : noY.noYM (ownE b) = true := noYM_own b _
theorem trL_one (b : MBook) (m : Nat) : trL b [m] = (truthsL b m).map fun c => (m, c) := by simp [trL]
theorem one_lt {b : MBook} {m : Nat} (hm : m < b.makers.length) : ∀ x ∈ [m], x < b.makers.length := fun x hx => by rw [List.mem_singleton.1 hx]; exact hm
theorem isPossible_sem (k k2 : SK) {b : MBook} (ho : okC b) {m : Nat} (hm : m < b.makers.length) : Sem1 114 [bookP k k2 b, pi m] (pb (possB b m)) := by
  refine semC_of_exec' mixed Tryz.func114 (by kernel_rfl) (by kernel_rfl) ac114_ok 2 rfl (by decide) [(.cell 4 4)] (by kernel_rfl) ?_
  intro hr C hC hI
  unfold ac114
  simp only [go_sem, Nat.reduceBEq]
  refine call_pure2 hC (truths_clo k k2 b _ [m] .full) rfl (PVleL_refl _) ?_
  rintro r rfl
  simp only [go_sem]
  refine rng_m (ι := Unit) (trL b [m]) (encTr b) [4] (fun _ _ => [.cells [.p (pb false)]]) (fun _ _ => []) (fun _ => some []) (fun i _ => i = 0) () rfl rfl (hI _ _ _ (truths_it k k2 ho .full [m] (one_lt hm) (by simp))) ?_ (fun _ => rfl) (by simp [Wk, wkT, wkL, look, AV.lo, AV.lo.loL, keepS]) rfl ?_ ?_
  · simp only [show noY.noYR ((trL b [m]).map (encTr b)) = true from noY_trs b _, noY.noYL, noY, noY_pis2, noY_rowsC, noY_seenC, noY_ownE, Bool.and_true]
  · rintro q - hq hok
    have hne : possB b m = true := by
      unfold possB
      refine decide_eq_true fun e => ?_
      rw [trL_one, e] at hq
      simp at hq
    rw [hne]
    simp only [go_sem, Nat.reduceBEq, Nat.reduceEqDiff, encTr, putCells]
    exact retQ_cell (n := none) (by kernel_rfl) rfl rfl
  · rintro - hok
    have hne : possB b m = false := by
      unfold possB
      refine decide_eq_false fun e => e ?_
      rw [trL_one, List.length_map] at hok
      exact List.eq_nil_of_length_eq_zero hok
    rw [hne]
    simp only [go_sem, Nat.reduceBEq, putCells]
    exact retQ_cell (n := none) (by kernel_rfl) rfl rfl
theorem possible_sem (k k2 : SK) {b : MBook} (ho : okC b) : Sem1 79 [bookP k k2 b] (.sl .full 1 ((natL (whoL b)).map fun x => [pi x])) := by
  have h1 := ho.1
  refine semC_of_exec' mixed Tryz.func79 (by kernel_rfl) (by kernel_rfl) ac79_ok 1 rfl (by decide) [(.tmp 2)] (by kernel_rfl) ?_
  intro hr C hC hI
  unfold ac79
  simp only [go_sem, Nat.reduceBEq, List.length_map]
  refine call_pure2 hC (those_sem (f := 114) (fi := [bookP k k2 b]) (cap := []) (e := b.makers.length) (P := possB b) (by omega) (fun n hn => isPossible_sem k k2 ho hn)) rfl (PVleL_refl _) ?_
  rintro r rfl
  simp only [go_sem, Nat.reduceBEq]
  exact retQ_one rfl rfl
theorem worksR_get {m : Nat} {l : List Nat} {kk : SK} {j : Nat} (hj : j < l.length) : iadrS' 2 (.p (.sl kk 2 (worksR m l))) (.p (pi j)) = some (.p (.ptr [pi m, pi (l[j] : Nat)] 0)) := iadr_map (f := fun q : Nat => [pi m, pi q]) (kd := kk) (sz := 2) hj
theorem IndexW_sem (m q : Nat) (l : List Nat) (hl : l.length ≤ 1000) : SemC Tryz.prog 192 [.sl .sh 2 (worksR m l), .agg [pi m, pi q]] (fun r => ∃ i : Int, r = pi i ∧ (0 ≤ i ↔ q ∈ l)) := by
  refine semC_of_exec' mixed Tryz.func192 (by kernel_rfl) (by kernel_rfl) ac192_ok 2 rfl (by decide) [(.tmp 4)] (by kernel_rfl) ?_
  intro hr C hC hI
  unfold ac192
  simp only [go_sem, Nat.reduceBEq, Nat.reduceAdd, show (worksR m l).length = l.length from List.length_map ..]
  refine loop_k l.length (fun j => ∀ y ∈ l.take j, q ≠ y) [0, 3, 7] (fun j => [(8, .p (pi j))]) (by simp) rfl ⟨rfl, by simp, by simp⟩ (by simp [wkT, look, AV.lo]) ?_
  rintro j ⟨hj, hok⟩
  simp only [go_sem, Nat.reduceBEq, Nat.reduceAdd]
  refine ⟨fun h5 => ?_, fun h5 => ?_⟩
  · have hj2 : j < l.length := by omega
    have hg := worksR_get (m := m) (kk := .sh) hj2
    by_cases e : q = l[j]
    · simp only [go_sem, Nat.reduceBEq, Nat.reduceAdd, hg, eq_true (show (q : Int) = (l[j] : Nat) by omega), decide_true, Bool.true_and, Int.reduceNeg]
      exact retQ_one rfl ⟨_, rfl, fun _ => e ▸ List.getElem_mem hj2, fun _ => by omega⟩
    · simp only [go_sem, Nat.reduceBEq, Nat.reduceAdd, hg, eq_false (show ¬ (q : Int) = (l[j] : Nat) by omega), wrap_succ (k := j) (by omega), decide_true, decide_false, Bool.true_and, Bool.false_and, Int.reduceNeg]
      refine ⟨⟨j + 1, hj2, take_allG hj2 hok e⟩, by simp only; omega, by simp [Wk, wkT, wkL, look, AV.lo, AV.lo.loL, ABlk.toZ]⟩
  · have hjn : j = l.length := by omega
    subst hjn
    rw [List.take_length] at hok
    exact retQ_one rfl ⟨_, rfl, fun h => absurd h (by decide), fun h => absurd rfl (hok q h)⟩
theorem ContainsW_sem (m q : Nat) (l : List Nat) (hl : l.length ≤ 1000) : Sem1 191 [.sl .sh 2 (worksR m l), .agg [pi m, pi q]] (pb (decide (q ∈ l))) := by
  refine semC_of_exec' mixed Tryz.func191 (by kernel_rfl) (by kernel_rfl) ac191_ok 2 rfl (by decide) [(.tmp 4)] (by kernel_rfl) ?_
  intro hr C hC hI
  unfold ac191
  simp only [go_sem, Nat.reduceBEq, Nat.reduceAdd]
  refine call_pure2 hC (IndexW_sem m q l hl) rfl (PVleL_refl _) ?_
  rintro r ⟨i, rfl, hi⟩
  simp only [go_sem, Nat.reduceBEq]
  exact retQ_one rfl (congrArg pb (decide_eq_decide.2 hi))
theorem changes_sem {b : MBook} (h6 : nK b ≤ 6) (m c q : Nat) (hq : q < nK b) : Sem1 190 [.agg (truthC b m c), .agg [pi m, pi q]] (pb (c.testBit q)) := by
  have hl : (chg c (nK b)).length ≤ 1000 := by
    unfold chg
    exact Nat.le_trans (List.length_filter_le ..) (by rw [List.length_range]; omega)
  refine semC_of_exec' mixed Tryz.func190 (by kernel_rfl) (by kernel_rfl) ac190_ok 2 rfl (by decide) [(.tmp 4)] (by kernel_rfl) ?_
  intro hr C hC hI
  unfold ac190
  simp only [go_sem, Nat.reduceBEq, Nat.reduceAdd, truthC]
  refine call_pure2 hC (ContainsW_sem m q (chg c (nK b)) hl) rfl (PVleL_refl _) ?_
  rintro r rfl
  simp only [go_sem, Nat.reduceBEq]
  refine retQ_one rfl (congrArg pb ?_)
  unfold chg
  rw [Bool.eq_iff_iff, decide_eq_true_eq, List.mem_filter, List.mem_range]
  exact ⟨fun h => h.2, fun h => ⟨hq, h⟩⟩
theorem tr_get {b : MBook} {m i : Nat} (h : i < (trL b [m]).length) : ∃ (hl : i < (truthsL b m).length), (trL b [m])[i] = (m, (truthsL b m)[i]) := by
  have e := trL_one b m
  have hl : i < (truthsL b m).length := by rw [e, List.length_map] at h; exact h
  refine ⟨hl, ?_⟩
  have : ∀ (L : List (Nat × Nat)) (hL : i < L.length), L = (truthsL b m).map (fun c => (m, c)) → L[i] = (m, (truthsL b m)[i]) := by
    rintro L hL rfl
    simp
  exact this _ h e
theorem mustBe_sem (k k2 : SK) {b : MBook} (ho : okC b) {m q : Nat} (hm : m < b.makers.length) (hq : q < nK b) : Sem1 187 [bookP k k2 b, .agg [pi m, pi q]] (pb ((truthsL b m).all fun c => c.testBit q)) := by
  refine semC_of_exec' mixed Tryz.func187 (by kernel_rfl) (by kernel_rfl) ac187_ok 2 rfl (by decide) [(.cell 4 4)] (by kernel_rfl) ?_
  intro hr C hC hI
  unfold ac187
  simp only [go_sem, Nat.reduceBEq, Nat.reduceAdd]
  refine call_pure2 hC (truths_clo k k2 b _ [m] .full) rfl (PVleL_refl _) ?_
  rintro r rfl
  simp only [go_sem]
  refine rng_m (ι := Unit) (trL b [m]) (encTr b) [3, 4] (fun _ _ => [.cells [.p (pi m), .p (pi q)], .cells [.p (pb false)]]) (fun _ _ => []) (fun _ => some []) (fun i _ => ∀ c ∈ (truthsL b m).take i, c.testBit q = true) () rfl rfl (hI _ _ _ (truths_it k k2 ho .full [m] (one_lt hm) (by simp))) ?_ (fun _ => rfl) (by simp [Wk, wkT, wkL, look, AV.lo, AV.lo.loL, keepS]) (by simp) ?_ ?_
  · simp only [show noY.noYR ((trL b [m]).map (encTr b)) = true from noY_trs b _, noY.noYL, noY, noY_pis2, noY_rowsC, noY_seenC, noY_ownE, Bool.and_true]
  · rintro i - hi hok
    obtain ⟨hl, e⟩ := tr_get hi
    rw [e]
    simp only [go_sem, Nat.reduceBEq, Nat.reduceAdd, encTr, truthC, putCells]
    refine call_pure2 hC (changes_sem ho.2.1.2 m (truthsL b m)[i] q hq) rfl (PVleL_refl _) ?_
    rintro r rfl
    cases hb : (truthsL b m)[i].testBit q
    · have : ((truthsL b m).all fun c => c.testBit q) = false := by
        rw [Bool.eq_false_iff]
        intro H
        have := List.all_eq_true.1 H _ (List.getElem_mem hl)
        rw [hb] at this
        cases this
      rw [this]
      simp only [go_sem, Nat.reduceBEq, putCells]
      exact retQ_cell (n := none) (by kernel_rfl) rfl rfl
    · simp only [go_sem, Nat.reduceBEq]
      refine ⟨(), take_allG hl hok hb, ?_⟩
      exact by simp [Wk, wkT, wkL, look, AV.lo, AV.lo.loL, ABlk.toZ]
  · rintro - hok
    have : ((truthsL b m).all fun c => c.testBit q) = true := by
      refine List.all_eq_true.2 fun c hc => hok c ?_
      rw [trL_one, List.length_map, List.take_length]
      exact hc
    rw [this]
    simp only [go_sem, Nat.reduceBEq, putCells]
    exact retQ_cell (n := none) (by kernel_rfl) rfl rfl
theorem canBe_sem (k k2 : SK) {b : MBook} (ho : okC b) {m q : Nat} (hm : m < b.makers.length) (hq : q < nK b) : Sem1 188 [bookP k k2 b, .agg [pi m, pi q]] (pb ((truthsL b m).any fun c => c.testBit q)) := by
  refine semC_of_exec' mixed Tryz.func188 (by kernel_rfl) (by kernel_rfl) ac188_ok 2 rfl (by decide) [(.cell 4 4)] (by kernel_rfl) ?_
  intro hr C hC hI
  unfold ac188
  simp only [go_sem, Nat.reduceBEq, Nat.reduceAdd]
  refine call_pure2 hC (truths_clo k k2 b _ [m] .full) rfl (PVleL_refl _) ?_
  rintro r rfl
  simp only [go_sem]
  refine rng_m (ι := Unit) (trL b [m]) (encTr b) [3, 4] (fun _ _ => [.cells [.p (pi m), .p (pi q)], .cells [.p (pb false)]]) (fun _ _ => []) (fun _ => some []) (fun i _ => ∀ c ∈ (truthsL b m).take i, c.testBit q = false) () rfl rfl (hI _ _ _ (truths_it k k2 ho .full [m] (one_lt hm) (by simp))) ?_ (fun _ => rfl) (by simp [Wk, wkT, wkL, look, AV.lo, AV.lo.loL, keepS]) (by simp) ?_ ?_
  · simp only [show noY.noYR ((trL b [m]).map (encTr b)) = true from noY_trs b _, noY.noYL, noY, noY_pis2, noY_rowsC, noY_seenC, noY_ownE, Bool.and_true]
  · rintro i - hi hok
    obtain ⟨hl, e⟩ := tr_get hi
    rw [e]
    simp only [go_sem, Nat.reduceBEq, Nat.reduceAdd, encTr, truthC, putCells]
    refine call_pure2 hC (changes_sem ho.2.1.2 m (truthsL b m)[i] q hq) rfl (PVleL_refl _) ?_
    rintro r rfl
    cases hb : (truthsL b m)[i].testBit q
    · simp only [go_sem, Nat.reduceBEq]
      refine ⟨(), take_allG hl hok hb, ?_⟩
      exact by simp [Wk, wkT, wkL, look, AV.lo, AV.lo.loL, ABlk.toZ]
    · have : ((truthsL b m).any fun c => c.testBit q) = true := List.any_eq_true.2 ⟨_, List.getElem_mem hl, hb⟩
      rw [this]
      simp only [go_sem, Nat.reduceBEq, putCells]
      exact retQ_cell (n := none) (by kernel_rfl) rfl rfl
  · rintro - hok
    have : ((truthsL b m).any fun c => c.testBit q) = false := by
      rw [List.any_eq_false]
      intro c hc
      have := hok c (by rw [trL_one, List.length_map, List.take_length]; exact hc)
      rw [this]
      decide
    rw [this]
    simp only [go_sem, Nat.reduceBEq, putCells]
    exact retQ_cell (n := none) (by kernel_rfl) rfl rfl
theorem cannotBe_sem (k k2 : SK) {b : MBook} (ho : okC b) {m q : Nat} (hm : m < b.makers.length) (hq : q < nK b) : Sem1 189 [bookP k k2 b, .agg [pi m, pi q]] (pb (!(truthsL b m).any fun c => c.testBit q)) := by
  refine semC_of_exec' mixed Tryz.func189 (by kernel_rfl) (by kernel_rfl) ac189_ok 2 rfl (by decide) [(.tmp 4)] (by kernel_rfl) ?_
  intro hr C hC hI
  unfold ac189
  simp only [go_sem, Nat.reduceBEq, Nat.reduceAdd]
  refine call_pure2 hC (canBe_sem k k2 ho hm hq) rfl (PVleL_refl _) ?_
  rintro r rfl
  simp only [go_sem, Nat.reduceBEq]
  cases (truthsL b m).any fun c => c.testBit q
  · simp only [go_sem, Nat.reduceBEq]
    exact retQ_one rfl rfl
  · simp only [go_sem, Nat.reduceBEq]
    exact retQ_one rfl rfl
def verdictI (b : MBook) (m q : Nat) : Int := if (truthsL b m).all fun c => c.testBit q then 2 else if (truthsL b m).any fun c => c.testBit q then 1 else 0
def verdictsP : List (List PV) := [[pi 2, fnV 187], [pi 1, fnV 188], [pi 0, fnV 189]]
theorem verdicts_sem : Sem1 184 [] (.sl .full 2 verdictsP) := by
  refine semC_of_exec' mixed Tryz.func184 (by kernel_rfl) (by kernel_rfl) ac184_ok 0 rfl (by decide) [(.tmp 0)] (by kernel_rfl) ?_
  intro hr C hC hI
  unfold ac184
  simp only [go_sem, Nat.reduceBEq, Nat.reduceAdd, Nat.reduceLeDiff]
  exact retQ_one rfl rfl
theorem verdict1_sem (k k2 : SK) {b : MBook} {m q : Nat} {f : FuncId} {i : Int} {v : Bool} (hf : Sem1 f [bookP k k2 b, .agg [pi m, pi q]] (pb v)) : Sem1 186 [.agg [pi i, fnV f], .ptr [bookP k k2 b] 0, .ptr [pi m, pi q] 0] (pb v) := by
  refine semC_of_exec' mixed Tryz.func186 (by kernel_rfl) (by kernel_rfl) ac186_ok 3 rfl (by decide) [(.tmp 4)] (by kernel_rfl) ?_
  intro hr C hC hI
  unfold ac186
  simp only [go_sem, Nat.reduceBEq, Nat.reduceAdd]
  refine call_pure2 hC (hf) rfl (PVleL_refl _) ?_
  rintro r rfl
  simp only [go_sem, Nat.reduceBEq]
  exact retQ_one rfl rfl
end Go.Proofs.YtlcpplkbmlmmbaaGreat.Mk
namespace Go.Proofs.YtlcpplkbmlmmbaaGreat.Mk
open Go.RowKit Ls
def ac167 : AC := (AC.seq (AC.ops [(AOp.mk (some 2) (AK.mv (AX.c (PV.val (Value.bool false)))) none 0 false true)]) (AC.seq (AC.ops [(AOp.mk (some 2) (AK.mv (AX.c (PV.val (Value.bool true)))) none 0 false true)]) AC.ret))
def ac144 : AC := (AC.seq (AC.ops [(AOp.mk (some 2) (AK.mv (AX.c (PV.sl SK.full 0 []))) none 0 false true)]) (AC.seq (AC.ops [(AOp.mk (some 3) (AK.mv (AX.t 0)) none 0 false true), (AOp.mk (some 4) (AK.nilc (AX.t 3)) none 1 false true), (AOp.mk (some 5) (AK.fadr 0 (AX.t 4)) none 2 false true), (AOp.mk (some 6) (AK.fadr 0 (AX.t 5)) none 3 false true), (AOp.mk (some 7) (AK.ld none (AX.t 6)) none 4 false true), (AOp.mk (some 8) (AK.len (AX.t 7)) none 5 false true), (AOp.mk (some 9) (AK.call 113 [(AX.t 8), (AX.c (PV.val (Value.func (Fn.func 167) #[] #[])))]) none 6 false true), (AOp.mk (some 2) (AK.mv (AX.t 9)) none 7 false true)]) AC.ret))
def ac111 : AC := (AC.seq (AC.ops [(AOp.mk (some 3) (AK.box 1 (AX.t 1)) none 0 false true), (AOp.mk (some 4) (AK.mv (AX.c (PV.sl SK.full 0 []))) none 1 false true)]) (AC.seq (AC.ops [(AOp.mk (some 5) (AK.new (PV.val (Value.int IntKind.i64 0))) none 0 false true)]) (AC.seq (AC.seq (AC.ops [(AOp.mk (some 7) (AK.mv (AX.t 0)) none 0 false true), (AOp.mk (some 8) (AK.mv (AX.t 0)) none 1 false true), (AOp.mk (some 9) (AK.call 144 [(AX.t 8)]) none 2 false true), (AOp.mk (some 10) (AK.call 118 [(AX.t 7), (AX.t 9)]) none 3 false true)]) (AC.block 0 (AC.rng (AX.t 10) [11] (AC.ops [(AOp.mk (some 6) (AK.new (PV.agg [(PV.val (Value.int IntKind.i64 0)), (PV.sl SK.full 0 []), (PV.val (Value.int IntKind.i64 0)), (PV.val (Value.int IntKind.i64 0)), (PV.val (Value.int IntKind.i64 0)), (PV.val (Value.int IntKind.i64 0)), (PV.val (Value.int IntKind.i64 0)), (PV.val (Value.int IntKind.i64 0))])) none 0 false true), (AOp.mk none (AK.st 8 (AX.t 6) (AX.t 11)) none 1 false true)]) (AC.block 1 (AC.ops [(AOp.mk (some 12) (AK.ld none (AX.t 5)) none 0 true false), (AOp.mk (some 13) (AK.ld none (AX.t 3)) none 1 true false), (AOp.mk (some 14) (AK.fadr 2 (AX.t 6)) none 2 true false), (AOp.mk (some 15) (AK.iadrA 1 6 (AX.t 14) (AX.t 13)) none 3 true false), (AOp.mk (some 16) (AK.ld none (AX.t 15)) none 4 true false), (AOp.mk (some 17) (AK.bin false BinOp.or (AX.t 12) (AX.t 16)) none 5 true true), (AOp.mk none (AK.st 1 (AX.t 5) (AX.t 17)) none 6 false true)]))))) (AC.seq (AC.ops [(AOp.mk (some 18) (AK.ld none (AX.t 5)) none 0 false true), (AOp.mk (some 19) (AK.mkf 145 [(AX.t 18)] []) none 1 false true), (AOp.mk (some 20) (AK.call 113 [(AX.c (PV.val (Value.int IntKind.i64 5))), (AX.t 19)]) none 2 false true), (AOp.mk (some 4) (AK.mv (AX.t 20)) none 3 false true)]) AC.ret))))
def idxV (x y : Bool) : Int := if x then 0 else if y then 1 else 2
theorem vd_0 : iadrS' 2 (.p (.sl .full 2 verdictsP)) (.p (pi 0)) = some (.p (.ptr [pi 2, fnV 187] 0)) := rfl
theorem vd_1 : iadrS' 2 (.p (.sl .full 2 verdictsP)) (.p (pi 1)) = some (.p (.ptr [pi 1, fnV 188] 0)) := rfl
theorem vd_2 : iadrS' 2 (.p (.sl .full 2 verdictsP)) (.p (pi 2)) = some (.p (.ptr [pi 0, fnV 189] 0)) := rfl
theorem IndexV_sem (k k2 : SK) {b : MBook} (ho : okC b) {m q : Nat} (hm : m < b.makers.length) (hq : q < nK b) : Sem1 185 [.sl .full 2 verdictsP, .clo 186 [] [.ptr [bookP k k2 b] 0, .ptr [pi m, pi q] 0]] (pi (idxV ((truthsL b m).all fun c => c.testBit q) ((truthsL b m).any fun c => c.testBit q))) := by
  have e1 := verdict1_sem (i := 2) k k2 (mustBe_sem k k2 ho hm hq)
  have e2 := verdict1_sem (i := 1) k k2 (canBe_sem k k2 ho hm hq)
  have e3 := verdict1_sem (i := 0) k k2 (cannotBe_sem k k2 ho hm hq)
  obtain ⟨x, hx⟩ : ∃ x, ((truthsL b m).all fun c => c.testBit q) = x := ⟨_, rfl⟩
  obtain ⟨y, hy⟩ : ∃ y, ((truthsL b m).any fun c => c.testBit q) = y := ⟨_, rfl⟩
  rw [hx] at e1 ⊢
  rw [hy] at e2 e3 ⊢
  have hlen : verdictsP.length = 3 := rfl
  obtain ⟨V, hV⟩ : ∃ V, verdictsP = V := ⟨_, rfl⟩
  have v0 := vd_0
  have v1 := vd_1
  have v2 := vd_2
  rw [hV] at hlen v0 v1 v2 ⊢
  refine semC_of_exec' mixed Tryz.func185 (by kernel_rfl) (by kernel_rfl) ac185_ok 2 rfl (by decide) [(.tmp 4)] (by kernel_rfl) ?_
  intro hr C hC hI
  unfold ac185
  simp only [go_sem, Nat.reduceBEq, hlen]
  refine loop_k 3 (fun j => (0 < j → x = false) ∧ (1 < j → y = false) ∧ j < 3) [0, 1, 7] (fun j => [(8, .p (pi j))]) ⟨fun h => absurd h (by decide), fun h => absurd h (by decide), by decide⟩ rfl ⟨rfl, by simp, by simp⟩ (by simp [wkT, look, AV.lo]) ?_
  rintro j ⟨hj, g1, g2, g3⟩
  have h3 : j = 0 ∨ j = 1 ∨ j = 2 := by omega
  rcases h3 with rfl | rfl | rfl
  · simp only [go_sem, Nat.reduceBEq, Nat.reduceAdd, Int.cast_ofNat_Int, v0, decide_true, Int.reduceLT, Int.reduceNeg]
    refine call_pure2 hC (e1) rfl (PVleL_refl _) ?_
    rintro r rfl
    simp only [go_sem, Nat.reduceBEq]
    cases x
    · simp only [go_sem, Nat.reduceBEq]
      exact ⟨⟨1, by omega, fun _ => rfl, fun h => absurd h (by decide), by decide⟩, by simp only; omega, by simp [Wk, wkT, wkL, look, AV.lo, wl1]⟩
    · simp only [go_sem, Nat.reduceBEq]
      exact retQ_one rfl rfl
  · obtain rfl := g1 (by decide)
    simp only [go_sem, Nat.reduceBEq, Nat.reduceAdd, Int.cast_ofNat_Int, v1, decide_true, Int.reduceLT, Int.reduceNeg]
    refine call_pure2 hC (e2) rfl (PVleL_refl _) ?_
    rintro r rfl
    simp only [go_sem, Nat.reduceBEq]
    cases y
    · simp only [go_sem, Nat.reduceBEq]
      exact ⟨⟨2, by omega, fun _ => rfl, fun _ => rfl, by decide⟩, by simp only; omega, by simp [Wk, wkT, wkL, look, AV.lo, wl2]⟩
    · simp only [go_sem, Nat.reduceBEq]
      exact retQ_one rfl rfl
  · obtain rfl := g1 (by decide)
    obtain rfl := g2 (by decide)
    simp only [go_sem, Nat.reduceBEq, Nat.reduceAdd, Int.cast_ofNat_Int, v2, decide_true, Int.reduceLT, Int.reduceNeg]
    refine call_pure2 hC (e3) rfl (PVleL_refl _) ?_
    rintro r rfl
    simp only [go_sem, Nat.reduceBEq]
    exact retQ_one rfl rfl
theorem verdict_sem (k k2 : SK) {b : MBook} (ho : okC b) {m q : Nat} (hm : m < b.makers.length) (hq : q < nK b) : Sem1 182 [bookP k k2 b, .agg [pi m, pi q]] (pi (verdictI b m q)) := by
  have hIV := IndexV_sem k k2 ho hm hq
  unfold verdictI
  obtain ⟨x, hx⟩ : ∃ x, ((truthsL b m).all fun c => c.testBit q) = x := ⟨_, rfl⟩
  obtain ⟨y, hy⟩ : ∃ y, ((truthsL b m).any fun c => c.testBit q) = y := ⟨_, rfl⟩
  rw [hx, hy] at hIV ⊢
  obtain ⟨V, hV⟩ : ∃ V, verdictsP = V := ⟨_, rfl⟩
  have v0 := vd_0
  have v1 := vd_1
  have v2 := vd_2
  have hvs := verdicts_sem
  rw [hV] at hIV v0 v1 v2 hvs
  refine semC_of_exec' mixed Tryz.func182 (by kernel_rfl) (by kernel_rfl) ac182_ok 2 rfl (by decide) [(.tmp 4)] (by kernel_rfl) ?_
  intro hr C hC hI
  unfold ac182
  simp only [go_sem, Nat.reduceBEq, Nat.reduceAdd]
  refine call_pure2 hC (hvs) rfl (PVleL_refl _) ?_
  rintro r rfl
  simp only [go_sem, Nat.reduceBEq]
  refine call_purA hC (hIV) (L' := _) rfl (PVleL_refl _) ?_
  rintro r rfl
  unfold idxV
  cases x
  · cases y
    · simp only [go_sem, Nat.reduceBEq, v2, Bool.false_eq_true]
      exact retQ_one rfl rfl
    · simp only [go_sem, Nat.reduceBEq, v1, Bool.false_eq_true]
      exact retQ_one rfl rfl
  · simp only [go_sem, Nat.reduceBEq, v0]
    exact retQ_one rfl rfl
def canF (b : MBook) (q : Nat) (l : List (Nat × Nat)) : Nat := l.foldl (fun s t => s ||| valN b t.1 t.2 q) 0
end Go.Proofs.YtlcpplkbmlmmbaaGreat.Mk
namespace Go.Proofs.YtlcpplkbmlmmbaaGreat.Mk
open Go.RowKit Ls
def ac83 : AC := (AC.seq (AC.ops [(AOp.mk (some 5) (AK.box 1 (AX.t 2)) none 0 false true), (AOp.mk (some 6) (AK.new (PV.val (Value.bool false))) none 1 false true)]) (AC.seq (AC.ops [(AOp.mk (some 10) (AK.mv (AX.t 0)) none 0 false true), (AOp.mk (some 11) (AK.call 117 [(AX.t 10), (AX.c (PV.sl SK.full 0 []))]) none 1 false true), (AOp.mk (some 7) (AK.new PV.nilp) none 2 false true), (AOp.mk none (AK.st 1 (AX.t 7) (AX.t 11)) none 3 false true)]) (AC.seq (AC.seq (AC.ops [(AOp.mk (some 12) (AK.ld none (AX.t 7)) none 0 false true), (AOp.mk (some 13) (AK.mv (AX.t 1)) none 1 false true), (AOp.mk (some 14) (AK.bslice false 3 1 1 [(PV.val (Value.int IntKind.i64 0))] [(0, (1, (AX.t 13)))]) none 2 false true), (AOp.mk (some 15) (AK.call 118 [(AX.t 12), (AX.t 14)]) none 3 false true)]) (AC.block 0 (AC.rng (AX.t 15) [16] (AC.ops [(AOp.mk (some 8) (AK.new (PV.agg [(PV.val (Value.int IntKind.i64 0)), (PV.sl SK.full 0 []), (PV.val (Value.int IntKind.i64 0)), (PV.val (Value.int IntKind.i64 0)), (PV.val (Value.int IntKind.i64 0)), (PV.val (Value.int IntKind.i64 0)), (PV.val (Value.int IntKind.i64 0)), (PV.val (Value.int IntKind.i64 0))])) none 0 false true), (AOp.mk none (AK.st 8 (AX.t 8) (AX.t 16)) none 1 false true)]) (AC.block 1 (AC.seq (AC.ops [(AOp.mk (some 17) (AK.ld none (AX.t 7)) none 0 false true), (AOp.mk (some 18) (AK.ld none (AX.t 5)) none 1 false true), (AOp.mk (some 19) (AK.bslice false 3 1 1 [(PV.val (Value.int IntKind.i64 0))] [(0, (1, (AX.t 18)))]) none 2 false true), (AOp.mk (some 20) (AK.call 118 [(AX.t 17), (AX.t 19)]) none 3 false true)]) (AC.block 2 (AC.rng (AX.t 20) [21] (AC.ops [(AOp.mk (some 9) (AK.new (PV.agg [(PV.val (Value.int IntKind.i64 0)), (PV.sl SK.full 0 []), (PV.val (Value.int IntKind.i64 0)), (PV.val (Value.int IntKind.i64 0)), (PV.val (Value.int IntKind.i64 0)), (PV.val (Value.int IntKind.i64 0)), (PV.val (Value.int IntKind.i64 0)), (PV.val (Value.int IntKind.i64 0))])) none 0 false true), (AOp.mk none (AK.st 8 (AX.t 9) (AX.t 21)) none 1 false true)]) (AC.block 3 (AC.seq (AC.ops [(AOp.mk (some 22) (AK.fadr 2 (AX.t 8)) none 0 false true), (AOp.mk (some 23) (AK.ld (some 6) (AX.t 22)) none 1 false true), (AOp.mk (some 24) (AK.fadr 2 (AX.t 9)) none 2 false true), (AOp.mk (some 25) (AK.ld (some 6) (AX.t 24)) none 3 false true), (AOp.mk (some 26) (AK.call 119 [(AX.t 23), (AX.t 25)]) none 4 false true), (AOp.mk (some 27) (AK.call 112 [(AX.t 26)]) none 5 false true), (AOp.mk (some 28) (AK.un UnOp.not (AX.t 27)) none 6 false true)]) (AC.cond (AX.t 28) (AC.seq (AC.ops [(AOp.mk none (AK.st 1 (AX.t 6) (AX.c (PV.val (Value.bool false)))) none 0 false true)]) AC.ret) AC.skip)))))))))) (AC.seq (AC.ops [(AOp.mk none (AK.st 1 (AX.t 6) (AX.c (PV.val (Value.bool true)))) none 0 false true)]) AC.ret))))
def needsP (o : Option Nat) : PV := match o with | some z => .tup [pi (z : Nat), pb true] | none => .tup [pi 0, pb false]
def bothB (b : MBook) (o u : Nat) : Bool := (truthsL (unseenB b) o).any fun c1 => (truthsL (unseenB b) u).any fun c2 => !lackB fun q => valA (unseenB b) o c1 q &&& valA (unseenB b) u c2 q
theorem okC.know {b : MBook} (ho : okC b) {q v : Nat} (hq : q < nK b) (hv : v < 5) : okC (knowB b q v) := by
  obtain ⟨h1, h2, h3, h4, h5⟩ := ho
  refine ⟨h1, h2, h3, fun m hm => ?_, h5⟩
  rcases List.mem_append.1 hm with h | h
  · exact h4 m h
  · rw [List.mem_singleton] at h
    subst h
    have : v = 0 ∨ v = 1 ∨ v = 2 ∨ v = 3 ∨ v = 4 := by omega
    refine ⟨⟨by simp, by show (q : Int) < (nK b : Int); omega⟩, ?_⟩
    rcases this with rfl | rfl | rfl | rfl | rfl <;> (simp only; decide)
def cntL (b : MBook) (q : Nat) (l : List Nat) : List Nat := l.map fun v => (whoL (knowB b q v)).length
def bestK (b : MBook) (j : Nat) : Nat := (List.range j).foldl (fun best k => if worstN b k < worstN b best then k else best) 0
end Go.Proofs.YtlcpplkbmlmmbaaGreat.Mk
