/- Contracts of maker: what the package returns. Mathematics of maker: what is told of two makers, and lists of values. Contracts of the reference of maker: truths, who is possible. -/
import Derived.Test.YtlcpplkbmlmmbaaGreatPays03
import Derived.Test.YtlcpplkbmlmmbaaGreatGa16
import Derived.Test.YtlcpplkbmlmmbaaGreatGa15
namespace Go.Proofs.YtlcpplkbmlmmbaaGreat.Mk
open Go.RowKit Ls
def ac81 : AC := (AC.seq (AC.ops [(AOp.mk (some 2) (AK.box 4 (AX.t 0)) none 0 false true), (AOp.mk (some 4) (AK.mv (AX.c PV.nilp)) none 1 false true), (AOp.mk (some 5) (AK.mv (AX.c (PV.val (Value.int IntKind.i64 0)))) none 2 false true)]) (AC.seq (AC.seq (AC.ops [(AOp.mk (some 7) (AK.ld (some 4) (AX.t 2)) none 0 false true), (AOp.mk (some 8) (AK.call 73 [(AX.t 7)]) none 1 false true), (AOp.mk (some 6) (AK.mv (AX.t 8)) none 2 false true)]) (AC.seq (AC.ops [(AOp.mk (some 9) (AK.mv (AX.t 6)) none 0 false true), (AOp.mk (some 10) (AK.bin false BinOp.neq (AX.t 9) (AX.c (PV.val (Value.int IntKind.i64 0)))) none 1 false true)]) (AC.cond (AX.t 10) (AC.seq (AC.ops [(AOp.mk (some 11) (AK.mv (AX.t 6)) none 0 false true), (AOp.mk (some 4) (AK.mv (AX.c PV.nilp)) none 1 false true), (AOp.mk (some 5) (AK.mv (AX.t 11)) none 2 false true)]) AC.ret) AC.skip))) (AC.seq (AC.seq (AC.ops [(AOp.mk (some 12) (AK.mv (AX.t 1)) none 0 false true), (AOp.mk (some 13) (AK.un UnOp.not (AX.t 12)) none 1 false true)]) (AC.cond (AX.t 13) (AC.seq (AC.ops [(AOp.mk (some 4) (AK.mv (AX.c PV.nilp)) none 0 false true), (AOp.mk (some 5) (AK.mv (AX.c (PV.val (Value.int IntKind.i64 51)))) none 1 false true)]) AC.ret) AC.skip)) (AC.seq (AC.ops [(AOp.mk (some 14) (AK.ld (some 4) (AX.t 2)) none 0 false true), (AOp.mk (some 15) (AK.call 115 [(AX.t 14)]) none 1 false true), (AOp.mk (some 4) (AK.mv (AX.t 15)) none 2 false true), (AOp.mk (some 5) (AK.mv (AX.c (PV.val (Value.int IntKind.i64 0)))) none 3 false true)]) AC.ret))))
theorem ac81_ok : cCode Tryz.prog (fun _ => false) Tryz.f81.ntmps (Tryz.f81.body.getD .skip) = some ac81 := by kernel_rfl
def ac78 : AC := (AC.seq (AC.ops [(AOp.mk (some 2) (AK.box 4 (AX.t 0)) none 0 false true), (AOp.mk (some 4) (AK.mv (AX.c PV.nilp)) none 1 false true), (AOp.mk (some 5) (AK.mv (AX.c (PV.val (Value.int IntKind.i64 0)))) none 2 false true)]) (AC.seq (AC.ops [(AOp.mk (some 9) (AK.ld (some 4) (AX.t 2)) none 0 false true), (AOp.mk (some 10) (AK.mv (AX.t 1)) none 1 false true), (AOp.mk (some 11) (AK.call 81 [(AX.t 9), (AX.t 10)]) none 2 false true), (AOp.mk (some 8) (AK.mv (AX.t 11)) none 3 false true), (AOp.mk (some 12) (AK.ext (AX.t 8) 0) none 4 false true), (AOp.mk (some 13) (AK.ext (AX.t 8) 1) none 5 false true), (AOp.mk (some 6) (AK.mv (AX.t 12)) none 6 false true), (AOp.mk (some 7) (AK.mv (AX.t 13)) none 7 false true)]) (AC.seq (AC.seq (AC.ops [(AOp.mk (some 14) (AK.mv (AX.t 7)) none 0 false true), (AOp.mk (some 15) (AK.bin false BinOp.neq (AX.t 14) (AX.c (PV.val (Value.int IntKind.i64 0)))) none 1 false true)]) (AC.cond (AX.t 15) (AC.seq (AC.ops [(AOp.mk (some 16) (AK.mv (AX.t 7)) none 0 false true), (AOp.mk (some 4) (AK.mv (AX.c PV.nilp)) none 1 false true), (AOp.mk (some 5) (AK.mv (AX.t 16)) none 2 false true)]) AC.ret) AC.skip)) (AC.seq (AC.seq (AC.ops [(AOp.mk (some 17) (AK.mv (AX.t 6)) none 0 false true), (AOp.mk (some 18) (AK.nilc (AX.t 17)) none 1 false true), (AOp.mk (some 19) (AK.fadr 4 (AX.t 18)) none 2 false true), (AOp.mk (some 20) (AK.ld (some 6) (AX.t 19)) none 3 false true), (AOp.mk (some 21) (AK.call 112 [(AX.t 20)]) none 4 false true)]) (AC.cond (AX.t 21) (AC.seq (AC.ops [(AOp.mk (some 4) (AK.mv (AX.c PV.nilp)) none 0 false true), (AOp.mk (some 5) (AK.mv (AX.c (PV.val (Value.int IntKind.i64 52)))) none 1 false true)]) AC.ret) AC.skip)) (AC.seq (AC.ops [(AOp.mk (some 22) (AK.mv (AX.t 6)) none 0 false true), (AOp.mk (some 4) (AK.mv (AX.t 22)) none 1 false true), (AOp.mk (some 5) (AK.mv (AX.c (PV.val (Value.int IntKind.i64 0)))) none 2 false true)]) AC.ret)))))
theorem ac78_ok : cCode Tryz.prog (fun _ => false) Tryz.f78.ntmps (Tryz.f78.body.getD .skip) = some ac78 := by kernel_rfl
def ac41 : AC := (AC.seq (AC.ops [(AOp.mk (some 1) (AK.box 4 (AX.t 0)) none 0 false true), (AOp.mk (some 2) (AK.mv (AX.c (PV.sl SK.full 0 []))) none 1 false true), (AOp.mk (some 3) (AK.mv (AX.c (PV.val (Value.int IntKind.i64 0)))) none 2 false true)]) (AC.seq (AC.ops [(AOp.mk (some 7) (AK.ld (some 4) (AX.t 1)) none 0 false true), (AOp.mk (some 8) (AK.call 78 [(AX.t 7), (AX.c (PV.val (Value.bool true)))]) none 1 false true), (AOp.mk (some 6) (AK.mv (AX.t 8)) none 2 false true), (AOp.mk (some 9) (AK.ext (AX.t 6) 0) none 3 false true), (AOp.mk (some 10) (AK.ext (AX.t 6) 1) none 4 false true), (AOp.mk (some 4) (AK.mv (AX.t 9)) none 5 false true), (AOp.mk (some 5) (AK.mv (AX.t 10)) none 6 false true)]) (AC.seq (AC.seq (AC.ops [(AOp.mk (some 11) (AK.mv (AX.t 5)) none 0 false true), (AOp.mk (some 12) (AK.bin false BinOp.neq (AX.t 11) (AX.c (PV.val (Value.int IntKind.i64 0)))) none 1 false true)]) (AC.cond (AX.t 12) (AC.seq (AC.ops [(AOp.mk (some 13) (AK.mv (AX.t 5)) none 0 false true), (AOp.mk (some 2) (AK.mv (AX.c (PV.sl SK.full 0 []))) none 1 false true), (AOp.mk (some 3) (AK.mv (AX.t 13)) none 2 false true)]) AC.ret) AC.skip)) (AC.seq (AC.ops [(AOp.mk (some 14) (AK.mv (AX.t 4)) none 0 false true), (AOp.mk (some 15) (AK.call 79 [(AX.t 14)]) none 1 false true), (AOp.mk (some 2) (AK.mv (AX.t 15)) none 2 false true), (AOp.mk (some 3) (AK.mv (AX.c (PV.val (Value.int IntKind.i64 0)))) none 3 false true)]) AC.ret))))
theorem ac41_ok : cCode Tryz.prog (fun _ => false) Tryz.f41.ntmps (Tryz.f41.body.getD .skip) = some ac41 := by kernel_rfl
def ac178 : AC := (AC.seq (AC.ops [(AOp.mk (some 3) (AK.box 4 (AX.t 0)) none 0 false true), (AOp.mk (some 6) (AK.mv (AX.c (PV.val (Value.int IntKind.i64 0)))) none 1 false true), (AOp.mk (some 7) (AK.mv (AX.c (PV.val (Value.int IntKind.i64 0)))) none 2 false true)]) (AC.seq (AC.ops [(AOp.mk (some 11) (AK.ld (some 4) (AX.t 3)) none 0 true false), (AOp.mk (some 12) (AK.ld (some 4) (AX.t 3)) none 1 true false), (AOp.mk (some 13) (AK.mv (AX.t 1)) none 2 true false), (AOp.mk (some 14) (AK.call 82 [(AX.t 12), (AX.t 13)]) none 3 false false), (AOp.mk (some 15) (AK.mv (AX.t 14)) none 4 true false), (AOp.mk (some 16) (AK.ld (some 4) (AX.t 3)) (some (15, true)) 5 true false), (AOp.mk (some 17) (AK.mv (AX.t 2)) (some (15, true)) 6 true false), (AOp.mk (some 18) (AK.call 110 [(AX.t 16), (AX.t 17)]) (some (15, true)) 7 false false), (AOp.mk (some 19) (AK.pick (AX.t 15) (AX.t 18) (AX.c (PV.val (Value.bool false)))) none 8 true false), (AOp.mk (some 20) (AK.call 78 [(AX.t 11), (AX.t 19)]) none 9 false true), (AOp.mk (some 10) (AK.mv (AX.t 20)) none 10 true true), (AOp.mk (some 21) (AK.ext (AX.t 10) 0) none 11 true false), (AOp.mk (some 22) (AK.ext (AX.t 10) 1) none 12 true false), (AOp.mk (some 8) (AK.mv (AX.t 21)) none 13 true false), (AOp.mk (some 9) (AK.mv (AX.t 22)) none 14 true true)]) (AC.seq (AC.seq (AC.ops [(AOp.mk (some 23) (AK.mv (AX.t 9)) none 0 false true), (AOp.mk (some 24) (AK.bin false BinOp.neq (AX.t 23) (AX.c (PV.val (Value.int IntKind.i64 0)))) none 1 false true)]) (AC.cond (AX.t 24) (AC.seq (AC.ops [(AOp.mk (some 25) (AK.mv (AX.t 9)) none 0 false true), (AOp.mk (some 6) (AK.mv (AX.c (PV.val (Value.int IntKind.i64 0)))) none 1 false true), (AOp.mk (some 7) (AK.mv (AX.t 25)) none 2 false true)]) AC.ret) AC.skip)) (AC.seq (AC.seq (AC.ops [(AOp.mk (some 26) (AK.mv (AX.t 8)) none 0 false true), (AOp.mk (some 27) (AK.mv (AX.t 1)) none 1 false true), (AOp.mk (some 28) (AK.call 114 [(AX.t 26), (AX.t 27)]) none 2 false true), (AOp.mk (some 29) (AK.un UnOp.not (AX.t 28)) none 3 false true)]) (AC.cond (AX.t 29) (AC.seq (AC.ops [(AOp.mk (some 6) (AK.mv (AX.c (PV.val (Value.int IntKind.i64 0)))) none 0 false true), (AOp.mk (some 7) (AK.mv (AX.c (PV.val (Value.int IntKind.i64 4)))) none 1 false true)]) AC.ret) AC.skip)) (AC.seq (AC.ops [(AOp.mk (some 30) (AK.mv (AX.t 8)) none 0 false true), (AOp.mk (some 31) (AK.mv (AX.t 1)) none 1 false true), (AOp.mk (some 32) (AK.mv (AX.t 2)) none 2 false true), (AOp.mk (some 33) (AK.build [(PV.val (Value.int IntKind.i64 0)), (PV.val (Value.int IntKind.i64 0))] [(0, (1, (AX.t 31))), (1, (1, (AX.t 32)))]) none 3 false true), (AOp.mk (some 34) (AK.call 182 [(AX.t 30), (AX.t 33)]) none 4 false true), (AOp.mk (some 6) (AK.mv (AX.t 34)) none 5 false true), (AOp.mk (some 7) (AK.mv (AX.c (PV.val (Value.int IntKind.i64 0)))) none 6 false true)]) AC.ret)))))
theorem ac178_ok : cCode Tryz.prog (fun _ => false) Tryz.f178.ntmps (Tryz.f178.body.getD .skip) = some ac178 := by kernel_rfl
def ac77 : AC := (AC.seq (AC.ops [(AOp.mk (some 2) (AK.box 4 (AX.t 0)) none 0 false true), (AOp.mk (some 4) (AK.mv (AX.c (PV.sl SK.full 0 []))) none 1 false true), (AOp.mk (some 5) (AK.mv (AX.c (PV.val (Value.int IntKind.i64 0)))) none 2 false true)]) (AC.seq (AC.ops [(AOp.mk (some 9) (AK.ld (some 4) (AX.t 2)) none 0 true false), (AOp.mk (some 10) (AK.ld (some 4) (AX.t 2)) none 1 true false), (AOp.mk (some 11) (AK.mv (AX.t 1)) none 2 true false), (AOp.mk (some 12) (AK.call 110 [(AX.t 10), (AX.t 11)]) none 3 false false), (AOp.mk (some 13) (AK.call 78 [(AX.t 9), (AX.t 12)]) none 4 false true), (AOp.mk (some 8) (AK.mv (AX.t 13)) none 5 true true), (AOp.mk (some 14) (AK.ext (AX.t 8) 0) none 6 true false), (AOp.mk (some 15) (AK.ext (AX.t 8) 1) none 7 true false), (AOp.mk (some 6) (AK.mv (AX.t 14)) none 8 true false), (AOp.mk (some 7) (AK.mv (AX.t 15)) none 9 true true)]) (AC.seq (AC.seq (AC.ops [(AOp.mk (some 16) (AK.mv (AX.t 7)) none 0 false true), (AOp.mk (some 17) (AK.bin false BinOp.neq (AX.t 16) (AX.c (PV.val (Value.int IntKind.i64 0)))) none 1 false true)]) (AC.cond (AX.t 17) (AC.seq (AC.ops [(AOp.mk (some 18) (AK.mv (AX.t 7)) none 0 false true), (AOp.mk (some 4) (AK.mv (AX.c (PV.sl SK.full 0 []))) none 1 false true), (AOp.mk (some 5) (AK.mv (AX.t 18)) none 2 false true)]) AC.ret) AC.skip)) (AC.seq (AC.ops [(AOp.mk (some 19) (AK.mv (AX.t 6)) none 0 false true), (AOp.mk (some 20) (AK.mv (AX.t 1)) none 1 false true), (AOp.mk (some 21) (AK.call 111 [(AX.t 19), (AX.t 20)]) none 2 false true), (AOp.mk (some 4) (AK.mv (AX.t 21)) none 3 false true), (AOp.mk (some 5) (AK.mv (AX.c (PV.val (Value.int IntKind.i64 0)))) none 4 false true)]) AC.ret))))
def ac47 : AC := (AC.seq (AC.ops [(AOp.mk (some 3) (AK.box 4 (AX.t 0)) none 0 false true), (AOp.mk (some 6) (AK.mv (AX.c (PV.val (Value.bool false)))) none 1 false true), (AOp.mk (some 7) (AK.mv (AX.c (PV.val (Value.int IntKind.i64 0)))) none 2 false true)]) (AC.seq (AC.ops [(AOp.mk (some 11) (AK.ld (some 4) (AX.t 3)) none 0 true false), (AOp.mk (some 12) (AK.ld (some 4) (AX.t 3)) none 1 true false), (AOp.mk (some 13) (AK.mv (AX.t 1)) none 2 true false), (AOp.mk (some 14) (AK.call 82 [(AX.t 12), (AX.t 13)]) none 3 false false), (AOp.mk (some 15) (AK.mv (AX.t 14)) none 4 true false), (AOp.mk (some 16) (AK.ld (some 4) (AX.t 3)) (some (15, true)) 5 true false), (AOp.mk (some 17) (AK.mv (AX.t 2)) (some (15, true)) 6 true false), (AOp.mk (some 18) (AK.call 82 [(AX.t 16), (AX.t 17)]) (some (15, true)) 7 false false), (AOp.mk (some 19) (AK.pick (AX.t 15) (AX.t 18) (AX.c (PV.val (Value.bool false)))) none 8 true false), (AOp.mk (some 20) (AK.mv (AX.t 19)) none 9 true false), (AOp.mk (some 21) (AK.mv (AX.t 1)) (some (20, true)) 10 true false), (AOp.mk (some 22) (AK.mv (AX.t 2)) (some (20, true)) 11 true false), (AOp.mk (some 23) (AK.bin false BinOp.neq (AX.t 21) (AX.t 22)) (some (20, true)) 12 true false), (AOp.mk (some 24) (AK.pick (AX.t 20) (AX.t 23) (AX.c (PV.val (Value.bool false)))) none 13 true false), (AOp.mk (some 25) (AK.call 81 [(AX.t 11), (AX.t 24)]) none 14 false true), (AOp.mk (some 10) (AK.mv (AX.t 25)) none 15 true true), (AOp.mk (some 26) (AK.ext (AX.t 10) 0) none 16 true false), (AOp.mk (some 27) (AK.ext (AX.t 10) 1) none 17 true false), (AOp.mk (some 8) (AK.mv (AX.t 26)) none 18 true false), (AOp.mk (some 9) (AK.mv (AX.t 27)) none 19 true true)]) (AC.seq (AC.seq (AC.ops [(AOp.mk (some 28) (AK.mv (AX.t 9)) none 0 false true), (AOp.mk (some 29) (AK.bin false BinOp.neq (AX.t 28) (AX.c (PV.val (Value.int IntKind.i64 0)))) none 1 false true)]) (AC.cond (AX.t 29) (AC.seq (AC.ops [(AOp.mk (some 30) (AK.mv (AX.t 9)) none 0 false true), (AOp.mk (some 6) (AK.mv (AX.c (PV.val (Value.bool false)))) none 1 false true), (AOp.mk (some 7) (AK.mv (AX.t 30)) none 2 false true)]) AC.ret) AC.skip)) (AC.seq (AC.ops [(AOp.mk (some 31) (AK.mv (AX.t 8)) none 0 false true), (AOp.mk (some 32) (AK.mv (AX.t 1)) none 1 false true), (AOp.mk (some 33) (AK.mv (AX.t 2)) none 2 false true), (AOp.mk (some 34) (AK.call 83 [(AX.t 31), (AX.t 32), (AX.t 33)]) none 3 false true), (AOp.mk (some 6) (AK.mv (AX.t 34)) none 4 false true), (AOp.mk (some 7) (AK.mv (AX.c (PV.val (Value.int IntKind.i64 0)))) none 5 false true)]) AC.ret))))
theorem real_row {args : List PV} {i j x : Nat} {cs : List PV} {k k' : SK} {sz sz' : Nat} {es es' : List (List PV)} (h : ∃ g w vs, Agree g w ∧ ArgsP g args vs) (hi : args[i]? = some (.agg cs)) (hj : cs[j]? = some (.sl k sz es)) (hx : es[x]? = some [.sl k' sz' es']) : es'.length ≤ 140737488355328 := by
  obtain ⟨g, w, vs, hA, ha⟩ := h
  have hlt : i < vs.length := by rw [← ha.len]; exact (List.getElem?_eq_some_iff.1 hi).1
  have := ha.at_ i _ _ hi (List.getElem?_eq_getElem hlt)
  generalize vs[i] = v at this
  cases this with
  | agg _ us hl h1 hh =>
    have hlt2 : j < us.size := by rw [← hl]; exact (List.getElem?_eq_some_iff.1 hj).1
    have := hh j _ _ hj (Array.getElem?_eq_getElem hlt2)
    generalize us[j] = u at this
    cases this with
    | sl _ _ _ ad n c f hl hn hc hm hk hz hat hh =>
      have := hh x 0 _ _ hx rfl
      generalize f x 0 = y at this
      cases this with
      | sl _ _ _ ad2 n2 c2 f2 hl2 hn2 hc2 hm2 hk2 hz2 hat2 hh2 => omega
theorem real_nK {k k2 : SK} {b : MBook} {r : List PV} (h : ∃ g w vs, Agree g w ∧ ArgsP g (.agg (bookC k k2 b) :: r) vs) : nK b ≤ 140737488355328 := by
  unfold nK
  cases hm : b.makers with
  | nil => simp
  | cons x l =>
    have := real_row (i := 0) (j := 0) (x := 0) (es' := x.map fun y => [pi y]) (k' := .sh) (sz' := 1) h rfl rfl (by rw [hm]; rfl)
    rw [List.length_map] at this
    exact this
def errA (b : MBook) (known : Bool) : Int := if okBook b then (if known then 0 else 51) else 50
def errR (b : MBook) (known : Bool) : Int := if okBook b then (if known then (if rightB b then 0 else 52) else 51) else 50
theorem askedBook_sem (k k2 : SK) (b : MBook) (known : Bool) : Sem1 81 [.agg (bookC k k2 b), pb known] (.tup [if errA b known = 0 then bookP k k2 b else .nilp, pi (errA b known)]) := by
  refine semC_of_exec' mixed Tryz.func81 (by kernel_rfl) (by kernel_rfl) ac81_ok 2 rfl (by decide) [(.tmp 4), (.tmp 5)] (by kernel_rfl) ?_
  intro hr C hC hI
  unfold ac81
  simp only [go_sem, Nat.reduceBEq, Nat.reduceAdd]
  refine call_pure2 hC (Check_sem k k2 b) rfl (PVleL_refl _) ?_
  rintro r rfl
  simp only [go_sem, Nat.reduceBEq]
  by_cases ho : okBook b
  · rw [if_pos ho]
    refine ⟨fun h => absurd rfl h, fun _ => ?_⟩
    cases known
    · have he : errA b false = 51 := by unfold errA; rw [if_pos ho]; rfl
      rw [he]
      simp only [go_sem, Nat.reduceBEq]
      exact retQ_two rfl rfl rfl
    · have he : errA b true = 0 := by unfold errA; rw [if_pos ho]; rfl
      rw [he]
      simp only [go_sem, Nat.reduceBEq, Nat.reduceAdd]
      refine call_pure2 hC (bookOf_sem k k2 ho.1 (by have := ho.2; omega)) rfl (PVleL_refl _) ?_
      rintro r rfl
      simp only [go_sem, Nat.reduceBEq]
      exact retQ_two rfl rfl rfl
  · have he : errA b known = 50 := by unfold errA; rw [if_neg ho]
    rw [if_neg ho, he]
    refine ⟨fun _ => retQ_two rfl rfl rfl, fun h => absurd h (by decide)⟩
theorem lack_right {b : MBook} (ho : okC b) : lackB (seenN b) = !rightB b := by
  rw [Bool.eq_iff_iff, lack_iff, Bool.not_eq_true', Bool.eq_false_iff, Ne]
  unfold rightB
  rw [List.all_eq_true]
  constructor
  · rintro ⟨k, hk, h⟩ H
    rcases Nat.lt_or_ge k (nK b) with hkn | hkn
    · have := H k (List.mem_range.2 hkn)
      rw [h] at this
      simp at this
    · rw [seen_out ho hkn] at h
      cases h
  · intro H
    refine Classical.byContradiction fun hn => H fun k hk => ?_
    have hk := List.mem_range.1 hk
    rw [decide_eq_true_eq]
    intro h0
    exact hn ⟨k, by have := ho.2.1; omega, h0⟩
theorem rightBook_sem (k k2 : SK) (b : MBook) (known : Bool) : Sem1 78 [.agg (bookC k k2 b), pb known] (.tup [if errR b known = 0 then bookP k k2 b else .nilp, pi (errR b known)]) := by
  refine semC_of_exec' mixed Tryz.func78 (by kernel_rfl) (by kernel_rfl) ac78_ok 2 rfl (by decide) [(.tmp 4), (.tmp 5)] (by kernel_rfl) ?_
  intro hr C hC hI
  unfold ac78
  simp only [go_sem, Nat.reduceBEq, Nat.reduceAdd]
  refine call_pure2 hC (askedBook_sem k k2 b known) rfl (PVleL_refl _) ?_
  rintro r rfl
  simp only [go_sem, Nat.reduceBEq]
  by_cases ho : okBook b
  · have hl := lack_right ho.1
    cases known
    · have he : errA b false = 51 := by unfold errA; rw [if_pos ho]; rfl
      have he2 : errR b false = 51 := by unfold errR; rw [if_pos ho]; rfl
      rw [he, he2]
      simp only [go_sem, decide_true, not_false_eq_true, false_implies, true_implies, Int.reduceEq]
      exact retQ_two rfl rfl rfl
    · have he : errA b true = 0 := by unfold errA; rw [if_pos ho]; rfl
      rw [he, if_pos rfl]
      simp only [go_sem, Nat.reduceBEq, Nat.reduceAdd, Nat.reduceLeDiff, decide_false, not_true_eq_false, false_implies, true_implies]
      refine call_pure2 hC (lacksSome_sem (seenN b)) rfl (PVleL_refl _) ?_
      rintro r rfl
      simp only [go_sem, Nat.reduceBEq]
      rw [hl]
      cases hr2 : rightB b
      · have he2 : errR b true = 52 := by unfold errR; rw [if_pos ho, hr2]; rfl
        rw [he2]
        simp only [go_sem]
        exact retQ_two rfl rfl rfl
      · have he2 : errR b true = 0 := by unfold errR; rw [if_pos ho, hr2]; rfl
        rw [he2, if_pos rfl]
        simp only [go_sem, Nat.reduceBEq]
        exact retQ_two rfl rfl rfl
  · have he : errA b known = 50 := by unfold errA; rw [if_neg ho]
    have he2 : errR b known = 50 := by unfold errR; rw [if_neg ho]
    rw [he, he2]
    simp only [go_sem, decide_true, not_false_eq_true, false_implies, true_implies, Int.reduceEq]
    exact retQ_two rfl rfl rfl
theorem rightP {C : Con} (hC : ∀ f args rd K s, SemP Tryz.prog Fence.wide f args rd K s → C.call f args rd K s) (k k2 : SK) (b : MBook) (known : Bool) {rd : List Nat} {K : AV → AS → Prop} {s : AS}
    (h1 : errR b known ≠ 0 → K (.p (.tup [.nilp, pi (errR b known)])) s) (h2 : errR b known = 0 → K (.p (.tup [bookP k k2 b, pi 0])) s) : C.call 78 [.p (.agg (bookC k k2 b)), .p (pb known)] rd K s := by
  refine call_pure2 hC (rightBook_sem k k2 b known) rfl (PVleL_refl _) ?_
  rintro r rfl
  by_cases he : errR b known = 0
  · rw [if_pos he, he]; exact h2 he
  · rw [if_neg he]; exact h1 he
theorem errR_ok {b : MBook} {known : Bool} (h : errR b known = 0) : okBook b ∧ known = true ∧ rightB b = true := by
  unfold errR at h
  split at h
  · rename_i ho
    split at h
    · rename_i hk
      split at h
      · rename_i hr; exact ⟨ho, hk, hr⟩
      · omega
    · omega
  · omega
def okM (b : MBook) (n : Int) : Bool := decide (0 ≤ n ∧ n < b.makers.length)
def okK (b : MBook) (n : Int) : Bool := decide (0 ≤ n ∧ n < (nK b : Int))
theorem okM_nat {b : MBook} {n : Int} (h : okM b n = true) : ∃ m : Nat, n = m ∧ m < b.makers.length := by
  have := of_decide_eq_true h
  exact ⟨n.toNat, by omega, by omega⟩
theorem okK_nat {b : MBook} {n : Int} (h : okK b n = true) : ∃ m : Nat, n = m ∧ m < nK b := by
  have := of_decide_eq_true h
  exact ⟨n.toNat, by omega, by omega⟩
theorem Who_sem (k k2 : SK) (b : MBook) : Sem1 41 [.agg (bookC k k2 b)] (if errR b true = 0 then .tup [pis (natL (whoL b)), pi 0] else .tup [pis [], pi (errR b true)]) := by
  refine semC_of_exec' mixed Tryz.func41 (by kernel_rfl) (by kernel_rfl) ac41_ok 1 rfl (by decide) [(.tmp 2), (.tmp 3)] (by kernel_rfl) ?_
  intro hr C hC hI
  unfold ac41
  simp only [go_sem, Nat.reduceBEq, Nat.reduceAdd]
  refine rightP hC k k2 b true (fun hne => ?_) (fun h0 => ?_)
  · rw [if_neg hne]
    simp only [go_sem, Nat.reduceBEq, eq_true hne, decide_true]
    exact retQ_two_le rfl rfl (PVle.nil _ _ _) (PVle.refl _) rfl
  · obtain ⟨ho, -⟩ := errR_ok h0
    rw [if_pos h0]
    simp only [go_sem, Nat.reduceBEq, decide_false, not_true_eq_false]
    refine call_pure2 hC (possible_sem k k2 ho.1) rfl (PVleL_refl _) ?_
    rintro r rfl
    simp only [go_sem, Nat.reduceBEq]
    exact retQ_two_le rfl rfl (PVle.sh _ _ _) (PVle.refl _) rfl
def needsR (o : Option Nat) : PV := match o with | some z => .tup [pi (z : Nat), pi 0] | none => .tup [pi 0, pi 4]
theorem hasM_sem (k k2 : SK) (b : MBook) (n : Int) (hl : b.makers.length ≤ 140737488355328) : Sem1 82 [.agg (bookC k k2 b), pi n] (pb (okM b n)) := hasMaker_sem k k2 b n hl
theorem hasK_sem (k k2 : SK) (b : MBook) (n : Int) (hl : nK b ≤ 140737488355328) : Sem1 110 [.agg (bookC k k2 b), pi n] (pb (okK b n)) := hasKind_sem k k2 b n hl
theorem Changed_sem (k k2 : SK) (b : MBook) (n p : Int) : Sem1 178 [.agg (bookC k k2 b), pi n, pi p] (if errR b (okM b n && okK b p) = 0 then (if possB b n.toNat then .tup [pi (verdictI b n.toNat p.toNat), pi 0] else .tup [pi 0, pi 4]) else .tup [pi 0, pi (errR b (okM b n && okK b p))]) := by
  refine semC_of_exec' mixed Tryz.func178 (by kernel_rfl) (by kernel_rfl) ac178_ok 3 rfl (by decide) [(.tmp 6), (.tmp 7)] (by kernel_rfl) ?_
  intro hr C hC hI
  unfold ac178
  simp only [go_sem, Nat.reduceBEq, Nat.reduceAdd]
  have hlen := real_aggL (i := 0) (j := 0) hr rfl rfl
  rw [List.length_map] at hlen
  have hlk := real_nK hr
  refine call_pure2 hC (hasM_sem k k2 b n hlen) rfl (PVleL_refl _) ?_
  rintro r rfl
  simp only [go_sem, Nat.reduceBEq]
  cases hM : okM b n
  · have hne : errR b false ≠ 0 := fun h => by have := (errR_ok h).2.1; cases this
    rw [Bool.false_and, if_neg hne]
    simp only [go_sem, Nat.reduceBEq]
    refine rightP hC k k2 b false (fun hne => ?_) (fun h0 => absurd h0 hne)
    simp only [go_sem, Nat.reduceBEq, eq_true hne, decide_true]
    exact retQ_two rfl rfl rfl
  · rw [Bool.true_and]
    simp only [go_sem, Nat.reduceBEq, Nat.reduceAdd]
    refine call_pure2 hC (hasK_sem k k2 b p hlk) rfl (PVleL_refl _) ?_
    rintro r rfl
    simp only [go_sem, Nat.reduceBEq]
    refine rightP hC k k2 b (okK b p) (fun hne => ?_) (fun h0 => ?_)
    · rw [if_neg hne]
      simp only [go_sem, Nat.reduceBEq, eq_true hne, decide_true]
      exact retQ_two rfl rfl rfl
    · obtain ⟨ho, hk, -⟩ := errR_ok h0
      obtain ⟨m, rfl, hm⟩ := okM_nat hM
      obtain ⟨q, rfl, hq⟩ := okK_nat hk
      rw [if_pos h0, Int.toNat_natCast, Int.toNat_natCast]
      simp only [go_sem, Nat.reduceBEq, decide_false, not_true_eq_false]
      refine call_pure2 hC (isPossible_sem k k2 ho.1 hm) rfl (PVleL_refl _) ?_
      rintro r rfl
      simp only [go_sem, Nat.reduceBEq]
      cases possB b m
      · simp only [go_sem, Nat.reduceBEq]
        exact retQ_two rfl rfl rfl
      · simp only [go_sem, Nat.reduceBEq, Nat.reduceAdd, Nat.reduceLeDiff]
        refine call_pure2 hC (verdict_sem k k2 ho.1 hm hq) rfl (PVleL_refl _) ?_
        rintro r rfl
        simp only [go_sem, Nat.reduceBEq]
        exact retQ_two rfl rfl rfl
def okT (b : MBook) (n p : Int) : Bool := okM b n && okM b p && decide (n ≠ p)
end Go.Proofs.YtlcpplkbmlmmbaaGreat.Mk
namespace Go.Proofs.YtlcpplkbmlmmbaaGreat.Mk
open Go.RowKit Ls
def exL (l : List Int) (j : Nat) : List (Int × Int) := (List.range j).map fun (k : Nat) => ((k : Int), 2 ^ exV l k)
def pickI (b : MBook) (o u k : Nat) : Int := (listI (pickN b o u k : Nat) 5).getD 0 0
def pickL (b : MBook) (o u j : Nat) : List Int := (List.range j).map (pickI b o u)
def anyL (bits : List Int) (j : Nat) : List Int := (List.range j).map fun (k : Nat) => rndI (takeL bits k) 5
end Go.Proofs.YtlcpplkbmlmmbaaGreat.Mk
namespace Go.Proofs.YtlcpplkbmlmmbaaGreat.Mk
open Go.RowKit Ls
theorem okC.first {b : MBook} (h : okC b) : ∃ h0 : 0 < b.makers.length, b.makers[0].length = nK b := ⟨by have := h.1; omega, (h.row (by have := h.1; omega)).1⟩
def ac96 : AC := (AC.seq (AC.ops [(AOp.mk (some 1) (AK.box 4 (AX.t 0)) none 0 false true), (AOp.mk (some 2) (AK.mv (AX.c (PV.val (Value.int IntKind.i64 0)))) none 1 false true)]) (AC.seq (AC.ops [(AOp.mk (some 3) (AK.fadr 0 (AX.t 1)) none 0 false true), (AOp.mk (some 4) (AK.ld none (AX.t 3)) none 1 false true), (AOp.mk (some 5) (AK.iadrS 1 (AX.t 4) (AX.c (PV.val (Value.int IntKind.i64 0)))) none 2 false true), (AOp.mk (some 6) (AK.ld none (AX.t 5)) none 3 false true), (AOp.mk (some 7) (AK.len (AX.t 6)) none 4 false true), (AOp.mk (some 2) (AK.mv (AX.t 7)) none 5 false true)]) AC.ret))
theorem ac96_ok : cCode Tryz.prog (fun _ => false) Tryz.f96.ntmps (Tryz.f96.body.getD .skip) = some ac96 := by kernel_rfl
def ac173 : AC := (AC.seq (AC.ops [(AOp.mk (some 2) (AK.box 4 (AX.t 0)) none 0 false true), (AOp.mk (some 4) (AK.mv (AX.c (PV.val (Value.bool false)))) none 1 false true)]) (AC.seq (AC.ops [(AOp.mk (some 5) (AK.mv (AX.t 1)) none 0 false true), (AOp.mk (some 6) (AK.fadr 0 (AX.t 2)) none 1 false true), (AOp.mk (some 7) (AK.ld none (AX.t 6)) none 2 false true), (AOp.mk (some 8) (AK.len (AX.t 7)) none 3 false true), (AOp.mk (some 9) (AK.bin false BinOp.sub (AX.t 8) (AX.c (PV.val (Value.int IntKind.i64 1)))) none 4 false true), (AOp.mk (some 10) (AK.call 60 [(AX.t 5), (AX.c (PV.val (Value.int IntKind.i64 0))), (AX.t 9)]) none 5 false true), (AOp.mk (some 4) (AK.mv (AX.t 10)) none 6 false true)]) AC.ret))
def ac97 : AC := (AC.seq (AC.ops [(AOp.mk (some 2) (AK.box 4 (AX.t 0)) none 0 false true), (AOp.mk (some 4) (AK.mv (AX.c (PV.val (Value.bool false)))) none 1 false true)]) (AC.seq (AC.ops [(AOp.mk (some 5) (AK.mv (AX.t 1)) none 0 false true), (AOp.mk (some 6) (AK.ld (some 4) (AX.t 2)) none 1 false true), (AOp.mk (some 7) (AK.call 96 [(AX.t 6)]) none 2 false true), (AOp.mk (some 8) (AK.bin false BinOp.sub (AX.t 7) (AX.c (PV.val (Value.int IntKind.i64 1)))) none 3 false true), (AOp.mk (some 9) (AK.call 60 [(AX.t 5), (AX.c (PV.val (Value.int IntKind.i64 0))), (AX.t 8)]) none 4 false true), (AOp.mk (some 4) (AK.mv (AX.t 9)) none 5 false true)]) AC.ret))
theorem ac97_ok : cCode Tryz.prog (fun _ => false) Tryz.f97.ntmps (Tryz.f97.body.getD .skip) = some ac97 := by kernel_rfl
def ac179 : AC := (AC.seq (AC.ops [(AOp.mk (some 2) (AK.box 4 (AX.t 0)) none 0 false true), (AOp.mk (some 4) (AK.mv (AX.c (PV.val (Value.int IntKind.i64 0)))) none 1 false true)]) (AC.seq (AC.ops [(AOp.mk (some 5) (AK.mv (AX.c (PV.val (Value.int IntKind.i64 31)))) none 0 false true)]) (AC.seq (AC.seq (AC.ops [(AOp.mk (some 6) (AK.mv (AX.c (PV.val (Value.int IntKind.i64 0)))) none 0 false true)]) (AC.block 0 (AC.loop (AC.seq (AC.seq (AC.ops [(AOp.mk (some 7) (AK.mv (AX.t 6)) none 0 false true), (AOp.mk (some 8) (AK.fadr 1 (AX.t 2)) none 1 false true), (AOp.mk (some 9) (AK.ld none (AX.t 8)) none 2 false true), (AOp.mk (some 10) (AK.len (AX.t 9)) none 3 false true), (AOp.mk (some 11) (AK.bin false BinOp.lss (AX.t 7) (AX.t 10)) none 4 false true)]) (AC.cond (AX.t 11) AC.skip (AC.exit 0))) (AC.seq (AC.block 1 (AC.seq (AC.ops [(AOp.mk (some 14) (AK.fadr 1 (AX.t 2)) none 0 false true), (AOp.mk (some 15) (AK.ld none (AX.t 14)) none 1 false true), (AOp.mk (some 16) (AK.mv (AX.t 6)) none 2 false true), (AOp.mk (some 17) (AK.iadrS 2 (AX.t 15) (AX.t 16)) none 3 false true), (AOp.mk (some 18) (AK.fadr 0 (AX.t 17)) none 4 false true), (AOp.mk (some 19) (AK.ld none (AX.t 18)) none 5 false true), (AOp.mk (some 20) (AK.mv (AX.t 1)) none 6 false true), (AOp.mk (some 21) (AK.bin false BinOp.eql (AX.t 19) (AX.t 20)) none 7 false true)]) (AC.cond (AX.t 21) (AC.ops [(AOp.mk (some 22) (AK.mv (AX.t 5)) none 0 false true), (AOp.mk (some 23) (AK.fadr 1 (AX.t 2)) none 1 false true), (AOp.mk (some 24) (AK.ld none (AX.t 23)) none 2 false true), (AOp.mk (some 25) (AK.mv (AX.t 6)) none 3 false true), (AOp.mk (some 26) (AK.iadrS 2 (AX.t 24) (AX.t 25)) none 4 false true), (AOp.mk (some 27) (AK.fadr 1 (AX.t 26)) none 5 false true), (AOp.mk (some 28) (AK.ld none (AX.t 27)) none 6 false true), (AOp.mk (some 29) (AK.bin false BinOp.and (AX.t 22) (AX.t 28)) none 7 false true), (AOp.mk (some 5) (AK.mv (AX.t 29)) none 8 false true)]) AC.skip))) (AC.ops [(AOp.mk (some 12) (AK.mv (AX.t 6)) none 0 false true), (AOp.mk (some 13) (AK.bin false BinOp.add (AX.t 12) (AX.c (PV.val (Value.int IntKind.i64 1)))) none 1 false true), (AOp.mk (some 6) (AK.mv (AX.t 13)) none 2 false true)])))))) (AC.seq (AC.ops [(AOp.mk (some 30) (AK.mv (AX.t 5)) none 0 false true), (AOp.mk (some 4) (AK.mv (AX.t 30)) none 1 false true)]) AC.ret))))
def ac171 : AC := (AC.seq (AC.ops [(AOp.mk (some 1) (AK.box 4 (AX.t 0)) none 0 false true), (AOp.mk (some 2) (AK.mv (AX.c (PV.val (Value.bool false)))) none 1 false true)]) (AC.seq (AC.ops [(AOp.mk (some 3) (AK.mv (AX.c (PV.val (Value.bool true)))) none 0 false true)]) (AC.seq (AC.seq (AC.ops [(AOp.mk (some 4) (AK.mv (AX.c (PV.val (Value.int IntKind.i64 0)))) none 0 false true)]) (AC.block 0 (AC.loop (AC.seq (AC.seq (AC.ops [(AOp.mk (some 5) (AK.mv (AX.t 4)) none 0 false true), (AOp.mk (some 6) (AK.ld (some 4) (AX.t 1)) none 1 false true), (AOp.mk (some 7) (AK.call 96 [(AX.t 6)]) none 2 false true), (AOp.mk (some 8) (AK.bin false BinOp.lss (AX.t 5) (AX.t 7)) none 3 false true)]) (AC.cond (AX.t 8) AC.skip (AC.exit 0))) (AC.seq (AC.block 1 (AC.ops [(AOp.mk (some 11) (AK.mv (AX.t 3)) none 0 false true), (AOp.mk (some 12) (AK.mv (AX.t 11)) none 1 false true), (AOp.mk (some 13) (AK.ld (some 4) (AX.t 1)) (some (12, true)) 2 false true), (AOp.mk (some 14) (AK.mv (AX.t 4)) (some (12, true)) 3 false true), (AOp.mk (some 15) (AK.call 179 [(AX.t 13), (AX.t 14)]) (some (12, true)) 4 false true), (AOp.mk (some 16) (AK.bin false BinOp.neq (AX.t 15) (AX.c (PV.val (Value.int IntKind.i64 0)))) (some (12, true)) 5 false true), (AOp.mk (some 17) (AK.pick (AX.t 12) (AX.t 16) (AX.c (PV.val (Value.bool false)))) none 6 false true), (AOp.mk (some 3) (AK.mv (AX.t 17)) none 7 false true)])) (AC.ops [(AOp.mk (some 9) (AK.mv (AX.t 4)) none 0 false true), (AOp.mk (some 10) (AK.bin false BinOp.add (AX.t 9) (AX.c (PV.val (Value.int IntKind.i64 1)))) none 1 false true), (AOp.mk (some 4) (AK.mv (AX.t 10)) none 2 false true)])))))) (AC.seq (AC.ops [(AOp.mk (some 18) (AK.mv (AX.t 3)) none 0 false true), (AOp.mk (some 2) (AK.mv (AX.t 18)) none 1 false true)]) AC.ret))))
def ac180 : AC := (AC.seq (AC.ops [(AOp.mk (some 2) (AK.box 4 (AX.t 0)) none 0 false true), (AOp.mk (some 4) (AK.mv (AX.c (PV.val (Value.bool false)))) none 1 false true)]) (AC.seq (AC.ops [(AOp.mk (some 5) (AK.mv (AX.t 1)) none 0 true false), (AOp.mk (some 6) (AK.fadr 3 (AX.t 2)) none 1 true true), (AOp.mk (some 7) (AK.ld none (AX.t 6)) none 2 true true), (AOp.mk (some 8) (AK.bin false BinOp.and (AX.t 5) (AX.t 7)) none 3 true true), (AOp.mk (some 9) (AK.bin false BinOp.eql (AX.t 8) (AX.c (PV.val (Value.int IntKind.i64 0)))) none 4 true true), (AOp.mk (some 10) (AK.mv (AX.t 9)) none 5 true true), (AOp.mk (some 11) (AK.mv (AX.t 1)) (some (10, true)) 6 true false), (AOp.mk (some 12) (AK.ld (some 4) (AX.t 2)) (some (10, true)) 7 true false), (AOp.mk (some 16) (AK.fadr 2 (AX.t 2)) (some (10, true)) 11 true false), (AOp.mk (some 17) (AK.ld none (AX.t 16)) (some (10, true)) 12 true false), (AOp.mk (some 13) (AK.call 96 [(AX.t 12)]) (some (10, true)) 8 false false), (AOp.mk (some 14) (AK.call 44 [(AX.t 11), (AX.t 13)]) (some (10, true)) 9 false false), (AOp.mk (some 15) (AK.len (AX.t 14)) (some (10, true)) 10 true false), (AOp.mk (some 18) (AK.bin false BinOp.leq (AX.t 15) (AX.t 17)) (some (10, true)) 13 true true), (AOp.mk (some 19) (AK.pick (AX.t 10) (AX.t 18) (AX.c (PV.val (Value.bool false)))) none 14 true true), (AOp.mk (some 4) (AK.mv (AX.t 19)) none 15 true true)]) AC.ret))
def ac183 : AC := (AC.seq (AC.ops [(AOp.mk (some 4) (AK.box 4 (AX.t 0)) none 0 false true), (AOp.mk (some 8) (AK.mv (AX.c (PV.val (Value.int IntKind.i64 0)))) none 1 false true)]) (AC.seq (AC.seq (AC.ops [(AOp.mk (some 9) (AK.mv (AX.t 2)) none 0 false true), (AOp.mk (some 10) (AK.mv (AX.t 3)) none 1 false true), (AOp.mk (some 11) (AK.call 80 [(AX.t 9), (AX.t 10)]) none 2 false true)]) (AC.cond (AX.t 11) (AC.seq (AC.ops [(AOp.mk (some 12) (AK.ld (some 4) (AX.t 4)) none 0 false true), (AOp.mk (some 13) (AK.mv (AX.t 3)) none 1 false true), (AOp.mk (some 14) (AK.call 179 [(AX.t 12), (AX.t 13)]) none 2 false true), (AOp.mk (some 8) (AK.mv (AX.t 14)) none 3 false true)]) AC.ret) AC.skip)) (AC.seq (AC.ops [(AOp.mk (some 15) (AK.ld (some 4) (AX.t 4)) none 0 true false), (AOp.mk (some 16) (AK.mv (AX.t 3)) none 1 true false), (AOp.mk (some 18) (AK.fadr 0 (AX.t 4)) none 3 true false), (AOp.mk (some 19) (AK.ld none (AX.t 18)) none 4 true false), (AOp.mk (some 20) (AK.mv (AX.t 1)) none 5 true false), (AOp.mk (some 21) (AK.iadrS 1 (AX.t 19) (AX.t 20)) none 6 true false), (AOp.mk (some 22) (AK.ld none (AX.t 21)) none 7 true false), (AOp.mk (some 23) (AK.mv (AX.t 3)) none 8 true false), (AOp.mk (some 24) (AK.iadrS 1 (AX.t 22) (AX.t 23)) none 9 true false), (AOp.mk (some 25) (AK.ld none (AX.t 24)) none 10 true false), (AOp.mk (some 17) (AK.call 179 [(AX.t 15), (AX.t 16)]) none 2 false false), (AOp.mk (some 26) (AK.bin false BinOp.and (AX.t 17) (AX.t 25)) none 11 true true), (AOp.mk (some 8) (AK.mv (AX.t 26)) none 12 true true)]) AC.ret)))
def ac181 : AC := (AC.seq (AC.ops [(AOp.mk (some 3) (AK.box 4 (AX.t 0)) none 0 false true), (AOp.mk (some 6) (AK.mv (AX.c (PV.val (Value.bool false)))) none 1 false true)]) (AC.seq (AC.ops [(AOp.mk (some 7) (AK.mv (AX.c (PV.val (Value.bool true)))) none 0 false true)]) (AC.seq (AC.seq (AC.ops [(AOp.mk (some 8) (AK.mv (AX.c (PV.val (Value.int IntKind.i64 0)))) none 0 false true)]) (AC.block 0 (AC.loop (AC.seq (AC.seq (AC.ops [(AOp.mk (some 9) (AK.mv (AX.t 8)) none 0 false true), (AOp.mk (some 10) (AK.ld (some 4) (AX.t 3)) none 1 false true), (AOp.mk (some 11) (AK.call 96 [(AX.t 10)]) none 2 false true), (AOp.mk (some 12) (AK.bin false BinOp.lss (AX.t 9) (AX.t 11)) none 3 false true)]) (AC.cond (AX.t 12) AC.skip (AC.exit 0))) (AC.seq (AC.block 1 (AC.ops [(AOp.mk (some 15) (AK.mv (AX.t 7)) none 0 false true), (AOp.mk (some 16) (AK.mv (AX.t 15)) none 1 false true), (AOp.mk (some 17) (AK.ld (some 4) (AX.t 3)) (some (16, true)) 2 false true), (AOp.mk (some 18) (AK.mv (AX.t 1)) (some (16, true)) 3 false true), (AOp.mk (some 19) (AK.mv (AX.t 2)) (some (16, true)) 4 false true), (AOp.mk (some 20) (AK.mv (AX.t 8)) (some (16, true)) 5 false true), (AOp.mk (some 21) (AK.call 183 [(AX.t 17), (AX.t 18), (AX.t 19), (AX.t 20)]) (some (16, true)) 6 false true), (AOp.mk (some 22) (AK.bin false BinOp.neq (AX.t 21) (AX.c (PV.val (Value.int IntKind.i64 0)))) (some (16, true)) 7 false true), (AOp.mk (some 23) (AK.pick (AX.t 16) (AX.t 22) (AX.c (PV.val (Value.bool false)))) none 8 false true), (AOp.mk (some 7) (AK.mv (AX.t 23)) none 9 false true)])) (AC.ops [(AOp.mk (some 13) (AK.mv (AX.t 8)) none 0 false true), (AOp.mk (some 14) (AK.bin false BinOp.add (AX.t 13) (AX.c (PV.val (Value.int IntKind.i64 1)))) none 1 false true), (AOp.mk (some 8) (AK.mv (AX.t 14)) none 2 false true)])))))) (AC.seq (AC.ops [(AOp.mk (some 24) (AK.mv (AX.t 7)) none 0 false true), (AOp.mk (some 6) (AK.mv (AX.t 24)) none 1 false true)]) AC.ret))))
def ac174 : AC := (AC.seq (AC.ops [(AOp.mk (some 2) (AK.box 4 (AX.t 0)) none 0 false true), (AOp.mk (some 4) (AK.mv (AX.c (PV.sl SK.full 0 []))) none 1 false true)]) (AC.seq (AC.ops [(AOp.mk (some 7) (AK.bslice false 3 1 0 [(PV.val (Value.int IntKind.i64 0))] []) none 0 false true), (AOp.mk (some 5) (AK.mv (AX.t 7)) none 1 false true)]) (AC.seq (AC.seq (AC.ops [(AOp.mk (some 6) (AK.mv (AX.c (PV.val (Value.int IntKind.i64 0)))) none 0 false true)]) (AC.block 0 (AC.loop (AC.seq (AC.seq (AC.ops [(AOp.mk (some 8) (AK.mv (AX.t 6)) none 0 false true), (AOp.mk (some 9) (AK.ld (some 4) (AX.t 2)) none 1 false true), (AOp.mk (some 10) (AK.call 96 [(AX.t 9)]) none 2 false true), (AOp.mk (some 11) (AK.bin false BinOp.shl (AX.c (PV.val (Value.int IntKind.i64 1))) (AX.t 10)) none 3 false true), (AOp.mk (some 12) (AK.bin false BinOp.lss (AX.t 8) (AX.t 11)) none 4 false true)]) (AC.cond (AX.t 12) AC.skip (AC.exit 0))) (AC.seq (AC.block 1 (AC.seq (AC.ops [(AOp.mk (some 15) (AK.ld (some 4) (AX.t 2)) none 0 false true), (AOp.mk (some 16) (AK.mv (AX.t 6)) none 1 false true), (AOp.mk (some 17) (AK.call 180 [(AX.t 15), (AX.t 16)]) none 2 false true), (AOp.mk (some 18) (AK.mv (AX.t 17)) none 3 false true), (AOp.mk (some 19) (AK.ld (some 4) (AX.t 2)) (some (18, true)) 4 false true), (AOp.mk (some 20) (AK.mv (AX.t 1)) (some (18, true)) 5 false true), (AOp.mk (some 21) (AK.mv (AX.t 6)) (some (18, true)) 6 false true), (AOp.mk (some 22) (AK.call 181 [(AX.t 19), (AX.t 20), (AX.t 21)]) (some (18, true)) 7 false true), (AOp.mk (some 23) (AK.pick (AX.t 18) (AX.t 22) (AX.c (PV.val (Value.bool false)))) none 8 false true)]) (AC.cond (AX.t 23) (AC.ops [(AOp.mk (some 24) (AK.mv (AX.t 5)) none 0 false true), (AOp.mk (some 25) (AK.mv (AX.t 6)) none 1 false true), (AOp.mk (some 26) (AK.bslice false 3 1 1 [(PV.val (Value.int IntKind.i64 0))] [(0, (1, (AX.t 25)))]) none 2 false true), (AOp.mk (some 27) (AK.app false 3 1 8 [(PV.val (Value.int IntKind.i64 0))] (AX.t 24) (AX.t 26)) none 3 false true), (AOp.mk (some 5) (AK.mv (AX.t 27)) none 4 false true)]) AC.skip))) (AC.ops [(AOp.mk (some 13) (AK.mv (AX.t 6)) none 0 false true), (AOp.mk (some 14) (AK.bin false BinOp.add (AX.t 13) (AX.c (PV.val (Value.int IntKind.i64 1)))) none 1 false true), (AOp.mk (some 6) (AK.mv (AX.t 14)) none 2 false true)])))))) (AC.seq (AC.ops [(AOp.mk (some 28) (AK.mv (AX.t 5)) none 0 false true), (AOp.mk (some 4) (AK.mv (AX.t 28)) none 1 false true)]) AC.ret))))
def ac172 : AC := (AC.seq (AC.ops [(AOp.mk (some 2) (AK.box 4 (AX.t 0)) none 0 false true), (AOp.mk (some 4) (AK.mv (AX.c (PV.val (Value.bool false)))) none 1 false true)]) (AC.seq (AC.ops [(AOp.mk (some 5) (AK.ld (some 4) (AX.t 2)) none 0 false true), (AOp.mk (some 6) (AK.mv (AX.t 1)) none 1 false true), (AOp.mk (some 7) (AK.call 174 [(AX.t 5), (AX.t 6)]) none 2 false true), (AOp.mk (some 8) (AK.len (AX.t 7)) none 3 false true), (AOp.mk (some 9) (AK.bin false BinOp.gtr (AX.t 8) (AX.c (PV.val (Value.int IntKind.i64 0)))) none 4 false true), (AOp.mk (some 4) (AK.mv (AX.t 9)) none 5 false true)]) AC.ret))
def ac164 : AC := (AC.seq (AC.ops [(AOp.mk (some 1) (AK.box 4 (AX.t 0)) none 0 false true), (AOp.mk (some 2) (AK.mv (AX.c (PV.sl SK.full 0 []))) none 1 false true)]) (AC.seq (AC.ops [(AOp.mk (some 5) (AK.bslice false 3 1 0 [(PV.val (Value.int IntKind.i64 0))] []) none 0 false true), (AOp.mk (some 3) (AK.mv (AX.t 5)) none 1 false true)]) (AC.seq (AC.seq (AC.ops [(AOp.mk (some 4) (AK.mv (AX.c (PV.val (Value.int IntKind.i64 0)))) none 0 false true)]) (AC.block 0 (AC.loop (AC.seq (AC.seq (AC.ops [(AOp.mk (some 6) (AK.mv (AX.t 4)) none 0 false true), (AOp.mk (some 7) (AK.fadr 0 (AX.t 1)) none 1 false true), (AOp.mk (some 8) (AK.ld none (AX.t 7)) none 2 false true), (AOp.mk (some 9) (AK.len (AX.t 8)) none 3 false true), (AOp.mk (some 10) (AK.bin false BinOp.lss (AX.t 6) (AX.t 9)) none 4 false true)]) (AC.cond (AX.t 10) AC.skip (AC.exit 0))) (AC.seq (AC.block 1 (AC.seq (AC.ops [(AOp.mk (some 13) (AK.ld (some 4) (AX.t 1)) none 0 false true), (AOp.mk (some 14) (AK.mv (AX.t 4)) none 1 false true), (AOp.mk (some 15) (AK.call 172 [(AX.t 13), (AX.t 14)]) none 2 false true)]) (AC.cond (AX.t 15) (AC.ops [(AOp.mk (some 16) (AK.mv (AX.t 3)) none 0 false true), (AOp.mk (some 17) (AK.mv (AX.t 4)) none 1 false true), (AOp.mk (some 18) (AK.bslice false 3 1 1 [(PV.val (Value.int IntKind.i64 0))] [(0, (1, (AX.t 17)))]) none 2 false true), (AOp.mk (some 19) (AK.app false 3 1 8 [(PV.val (Value.int IntKind.i64 0))] (AX.t 16) (AX.t 18)) none 3 false true), (AOp.mk (some 3) (AK.mv (AX.t 19)) none 4 false true)]) AC.skip))) (AC.ops [(AOp.mk (some 11) (AK.mv (AX.t 4)) none 0 false true), (AOp.mk (some 12) (AK.bin false BinOp.add (AX.t 11) (AX.c (PV.val (Value.int IntKind.i64 1)))) none 1 false true), (AOp.mk (some 4) (AK.mv (AX.t 12)) none 2 false true)])))))) (AC.seq (AC.ops [(AOp.mk (some 20) (AK.mv (AX.t 3)) none 0 false true), (AOp.mk (some 2) (AK.mv (AX.t 20)) none 1 false true)]) AC.ret))))
def ac163 : AC := (AC.seq (AC.ops [(AOp.mk (some 2) (AK.box 4 (AX.t 0)) none 0 false true), (AOp.mk (some 4) (AK.mv (AX.c (PV.val (Value.int IntKind.i64 0)))) none 1 false true)]) (AC.seq (AC.seq (AC.ops [(AOp.mk (some 5) (AK.mv (AX.t 1)) none 0 false true), (AOp.mk (some 6) (AK.un UnOp.not (AX.t 5)) none 1 false true)]) (AC.cond (AX.t 6) (AC.seq (AC.ops [(AOp.mk (some 4) (AK.mv (AX.c (PV.val (Value.int IntKind.i64 51)))) none 0 false true)]) AC.ret) AC.skip)) (AC.seq (AC.seq (AC.ops [(AOp.mk (some 7) (AK.ld (some 4) (AX.t 2)) none 0 false true), (AOp.mk (some 8) (AK.call 171 [(AX.t 7)]) none 1 false true), (AOp.mk (some 9) (AK.un UnOp.not (AX.t 8)) none 2 false true)]) (AC.cond (AX.t 9) (AC.seq (AC.ops [(AOp.mk (some 4) (AK.mv (AX.c (PV.val (Value.int IntKind.i64 52)))) none 0 false true)]) AC.ret) AC.skip)) (AC.seq (AC.ops [(AOp.mk (some 4) (AK.mv (AX.c (PV.val (Value.int IntKind.i64 0)))) none 0 false true)]) AC.ret))))
def chgB (b : MBook) (c : Nat) : Bool := decide (c &&& fixN b = 0) && decide ((cntN c (nK b) : Int) ≤ b.repairs)
section
variable (k k2 : SK) {b : MBook} (ho : okC b)
include ho
theorem rkinds_sem : Sem1 96 [.agg (bookC k k2 b)] (pi (nK b)) := by
  obtain ⟨hz, hfl⟩ := ho.first
  have e0 : iadrS' 1 (.p (.sl k 1 (rowsC b.makers))) (.p (pi 0)) = some (.p (.ptr [pis b.makers[0]] 0)) := iadr_map (f := fun h => [pis h]) (kd := k) (sz := 1) hz
  refine semC_of_exec' mixed Tryz.func96 (by kernel_rfl) (by kernel_rfl) ac96_ok 1 rfl (by decide) [(.tmp 2)] (by kernel_rfl) ?_
  intro hr C hC hI
  unfold ac96
  simp only [go_sem, Nat.reduceBEq, Nat.reduceAdd, e0, List.length_map, hfl]
  exact retQ_one rfl rfl
def fitB (b : MBook) (m c j : Nat) : Bool := (List.range j).all fun q => decide (valN b m c q ≠ 0)
end
end Go.Proofs.YtlcpplkbmlmmbaaGreat.Mk
