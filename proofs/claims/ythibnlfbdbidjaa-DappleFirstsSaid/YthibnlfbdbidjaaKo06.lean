/- Contracts of dapple's statements: the chapter's books and examples. Contracts of dapple's statements: which books are sound; two horses. Law: DappleKnowing. Lists that grow in a loop. -/
import Derived.Test.YthibnlfbdbidjaaKo05
import Derived.Test.YthibnlfbdbidjaaGa16
import Derived.Test.YthibnlfbdbidjaaGa14
namespace Go.Proofs.Ythibnlfbdbidjaa
open Go.RowKit
def ac58 : AC := (AC.seq (AC.ops [(AOp.mk (some 0) (AK.new (PV.agg [(PV.val (Value.int IntKind.i64 0)), (PV.sl SK.full 0 [])])) none 0 false true)]) (AC.seq (AC.ops [(AOp.mk (some 1) (AK.bslice false 3 1 4 [(PV.val (Value.int IntKind.i64 0))] [(0, (1, (AX.c (PV.val (Value.int IntKind.i64 2))))), (1, (1, (AX.c (PV.val (Value.int IntKind.i64 1))))), (2, (1, (AX.c (PV.val (Value.int IntKind.i64 4))))), (3, (1, (AX.c (PV.val (Value.int IntKind.i64 1)))))]) none 0 false true), (AOp.mk (some 2) (AK.bslice false 3 1 4 [(PV.val (Value.int IntKind.i64 0))] [(0, (1, (AX.c (PV.val (Value.int IntKind.i64 4))))), (1, (1, (AX.c (PV.val (Value.int IntKind.i64 1))))), (2, (1, (AX.c (PV.val (Value.int IntKind.i64 2))))), (3, (1, (AX.c (PV.val (Value.int IntKind.i64 1)))))]) none 1 false true), (AOp.mk (some 3) (AK.bslice false 3 1 4 [(PV.val (Value.int IntKind.i64 0))] [(0, (1, (AX.c (PV.val (Value.int IntKind.i64 3))))), (1, (1, (AX.c (PV.val (Value.int IntKind.i64 4))))), (2, (1, (AX.c (PV.val (Value.int IntKind.i64 1))))), (3, (1, (AX.c (PV.val (Value.int IntKind.i64 2)))))]) none 2 false true), (AOp.mk (some 4) (AK.bslice false 3 1 4 [(PV.val (Value.int IntKind.i64 0))] [(0, (1, (AX.c (PV.val (Value.int IntKind.i64 8))))), (1, (1, (AX.c (PV.val (Value.int IntKind.i64 8))))), (2, (1, (AX.c (PV.val (Value.int IntKind.i64 8))))), (3, (1, (AX.c (PV.val (Value.int IntKind.i64 8)))))]) none 3 false true), (AOp.mk (some 5) (AK.bslice false 26 1 4 [(PV.sl SK.full 0 [])] [(0, (1, (AX.t 1))), (1, (1, (AX.t 2))), (2, (1, (AX.t 3))), (3, (1, (AX.t 4)))]) none 4 false true), (AOp.mk (some 6) (AK.build [(PV.val (Value.int IntKind.i64 0)), (PV.sl SK.full 0 [])] [(0, (1, (AX.c (PV.val (Value.int IntKind.i64 4))))), (1, (1, (AX.t 5)))]) none 5 false true), (AOp.mk none (AK.st 2 (AX.t 0) (AX.t 6)) none 6 false true)]) AC.ret))
theorem ac58_ok : cCode Try.prog (fun _ => false) Try.f58.ntmps (Try.f58.body.getD .skip) = some ac58 := by kernel_rfl
def ac59 : AC := (AC.seq (AC.ops [(AOp.mk (some 0) (AK.new (PV.agg [(PV.val (Value.int IntKind.i64 0)), (PV.sl SK.full 0 [])])) none 0 false true)]) (AC.seq (AC.ops [(AOp.mk (some 2) (AK.call 58 []) none 0 false true), (AOp.mk (some 1) (AK.new (PV.agg [(PV.val (Value.int IntKind.i64 0)), (PV.sl SK.full 0 [])])) none 1 false true), (AOp.mk none (AK.st 2 (AX.t 1) (AX.t 2)) none 2 false true)]) (AC.seq (AC.ops [(AOp.mk (some 3) (AK.fadr 1 (AX.t 1)) none 0 false true), (AOp.mk (some 4) (AK.ld none (AX.t 3)) none 1 false true), (AOp.mk (some 5) (AK.bslice false 3 1 4 [(PV.val (Value.int IntKind.i64 0))] [(0, (1, (AX.c (PV.val (Value.int IntKind.i64 15))))), (1, (1, (AX.c (PV.val (Value.int IntKind.i64 15))))), (2, (1, (AX.c (PV.val (Value.int IntKind.i64 15))))), (3, (1, (AX.c (PV.val (Value.int IntKind.i64 15)))))]) none 2 false true), (AOp.mk (some 6) (AK.bslice false 26 1 1 [(PV.sl SK.full 0 [])] [(0, (1, (AX.t 5)))]) none 3 false true), (AOp.mk (some 7) (AK.app false 26 1 24 [(PV.sl SK.full 0 [])] (AX.t 4) (AX.t 6)) none 4 false true), (AOp.mk (some 8) (AK.fadr 1 (AX.t 1)) none 5 false true), (AOp.mk none (AK.st 1 (AX.t 8) (AX.t 7)) none 6 false true)]) (AC.seq (AC.ops [(AOp.mk (some 9) (AK.ld (some 2) (AX.t 1)) none 0 false true), (AOp.mk none (AK.st 2 (AX.t 0) (AX.t 9)) none 1 false true)]) AC.ret))))
theorem ac59_ok : cCode Try.prog (fun _ => false) Try.f59.ntmps (Try.f59.body.getD .skip) = some ac59 := by kernel_rfl
def ac25 : AC := (AC.seq (AC.ops [(AOp.mk (some 0) (AK.mv (AX.c (PV.val (Value.bool false)))) none 0 false true)]) (AC.seq (AC.ops [(AOp.mk (some 16) (AK.call 58 []) none 0 false true), (AOp.mk (some 17) (AK.call 18 [(AX.t 16), (AX.c (PV.val (Value.int IntKind.i64 2))), (AX.c (PV.val (Value.int IntKind.i64 0)))]) none 1 false true), (AOp.mk (some 15) (AK.mv (AX.t 17)) none 2 false true), (AOp.mk (some 18) (AK.ext (AX.t 15) 0) none 3 false true), (AOp.mk (some 19) (AK.ext (AX.t 15) 1) none 4 false true), (AOp.mk (some 1) (AK.mv (AX.t 18)) none 5 false true), (AOp.mk (some 2) (AK.mv (AX.t 19)) none 6 false true)]) (AC.seq (AC.ops [(AOp.mk (some 21) (AK.call 58 []) none 0 false true), (AOp.mk (some 22) (AK.call 23 [(AX.t 21), (AX.c (PV.val (Value.int IntKind.i64 0))), (AX.c (PV.val (Value.int IntKind.i64 1)))]) none 1 false true), (AOp.mk (some 20) (AK.mv (AX.t 22)) none 2 false true), (AOp.mk (some 23) (AK.ext (AX.t 20) 0) none 3 false true), (AOp.mk (some 24) (AK.ext (AX.t 20) 1) none 4 false true), (AOp.mk (some 3) (AK.mv (AX.t 23)) none 5 false true), (AOp.mk (some 4) (AK.mv (AX.t 24)) none 6 false true)]) (AC.seq (AC.ops [(AOp.mk (some 26) (AK.call 58 []) none 0 false true), (AOp.mk (some 27) (AK.call 30 [(AX.t 26)]) none 1 false true), (AOp.mk (some 25) (AK.mv (AX.t 27)) none 2 false true), (AOp.mk (some 28) (AK.ext (AX.t 25) 0) none 3 false true), (AOp.mk (some 29) (AK.ext (AX.t 25) 1) none 4 false true), (AOp.mk (some 30) (AK.ext (AX.t 25) 2) none 5 false true), (AOp.mk (some 5) (AK.mv (AX.t 28)) none 6 false true), (AOp.mk (some 6) (AK.mv (AX.t 29)) none 7 false true), (AOp.mk (some 7) (AK.mv (AX.t 30)) none 8 false true)]) (AC.seq (AC.ops [(AOp.mk (some 32) (AK.call 58 []) none 0 false true), (AOp.mk (some 33) (AK.bslice false 3 1 4 [(PV.val (Value.int IntKind.i64 0))] [(0, (1, (AX.c (PV.val (Value.int IntKind.i64 1))))), (1, (1, (AX.c (PV.val (Value.int IntKind.i64 1))))), (2, (1, (AX.c (PV.val (Value.int IntKind.i64 2))))), (3, (1, (AX.c (PV.val (Value.int IntKind.i64 0)))))]) none 1 false true), (AOp.mk (some 34) (AK.call 26 [(AX.t 32), (AX.t 33)]) none 2 false true), (AOp.mk (some 31) (AK.mv (AX.t 34)) none 3 false true), (AOp.mk (some 35) (AK.ext (AX.t 31) 0) none 4 false true), (AOp.mk (some 36) (AK.ext (AX.t 31) 1) none 5 false true), (AOp.mk (some 8) (AK.mv (AX.t 35)) none 6 false true), (AOp.mk (some 9) (AK.mv (AX.t 36)) none 7 false true)]) (AC.seq (AC.ops [(AOp.mk (some 38) (AK.call 59 []) none 0 false true), (AOp.mk (some 39) (AK.call 34 [(AX.t 38)]) none 1 false true), (AOp.mk (some 37) (AK.mv (AX.t 39)) none 2 false true), (AOp.mk (some 40) (AK.ext (AX.t 37) 0) none 3 false true), (AOp.mk (some 41) (AK.ext (AX.t 37) 1) none 4 false true), (AOp.mk (some 10) (AK.mv (AX.t 40)) none 5 false true), (AOp.mk (some 11) (AK.mv (AX.t 41)) none 6 false true)]) (AC.seq (AC.seq (AC.ops [(AOp.mk (some 42) (AK.mv (AX.t 2)) none 0 false true), (AOp.mk (some 43) (AK.bin false BinOp.neq (AX.t 42) (AX.c (PV.val (Value.int IntKind.i64 0)))) none 1 false true), (AOp.mk (some 44) (AK.mv (AX.t 43)) none 2 false true), (AOp.mk (some 45) (AK.mv (AX.t 4)) (some (44, false)) 3 false true), (AOp.mk (some 46) (AK.bin false BinOp.neq (AX.t 45) (AX.c (PV.val (Value.int IntKind.i64 0)))) (some (44, false)) 4 false true), (AOp.mk (some 47) (AK.pick (AX.t 44) (AX.c (PV.val (Value.bool true))) (AX.t 46)) none 5 false true), (AOp.mk (some 48) (AK.mv (AX.t 47)) none 6 false true), (AOp.mk (some 49) (AK.mv (AX.t 7)) (some (48, false)) 7 false true), (AOp.mk (some 50) (AK.bin false BinOp.neq (AX.t 49) (AX.c (PV.val (Value.int IntKind.i64 0)))) (some (48, false)) 8 false true), (AOp.mk (some 51) (AK.pick (AX.t 48) (AX.c (PV.val (Value.bool true))) (AX.t 50)) none 9 false true), (AOp.mk (some 52) (AK.mv (AX.t 51)) none 10 false true), (AOp.mk (some 53) (AK.mv (AX.t 9)) (some (52, false)) 11 false true), (AOp.mk (some 54) (AK.bin false BinOp.neq (AX.t 53) (AX.c (PV.val (Value.int IntKind.i64 0)))) (some (52, false)) 12 false true), (AOp.mk (some 55) (AK.pick (AX.t 52) (AX.c (PV.val (Value.bool true))) (AX.t 54)) none 13 false true), (AOp.mk (some 56) (AK.mv (AX.t 55)) none 14 false true), (AOp.mk (some 57) (AK.mv (AX.t 11)) (some (56, false)) 15 false true), (AOp.mk (some 58) (AK.bin false BinOp.neq (AX.t 57) (AX.c (PV.val (Value.int IntKind.i64 0)))) (some (56, false)) 16 false true), (AOp.mk (some 59) (AK.pick (AX.t 56) (AX.c (PV.val (Value.bool true))) (AX.t 58)) none 17 false true), (AOp.mk (some 60) (AK.mv (AX.t 59)) none 18 false true), (AOp.mk (some 61) (AK.mv (AX.t 1)) (some (60, false)) 19 false true), (AOp.mk (some 62) (AK.bslice false 3 1 1 [(PV.val (Value.int IntKind.i64 0))] [(0, (1, (AX.c (PV.val (Value.int IntKind.i64 3)))))]) (some (60, false)) 20 false true), (AOp.mk (some 63) (AK.call 20 [(AX.t 61), (AX.t 62)]) (some (60, false)) 21 false true), (AOp.mk (some 64) (AK.un UnOp.not (AX.t 63)) (some (60, false)) 22 false true), (AOp.mk (some 65) (AK.pick (AX.t 60) (AX.c (PV.val (Value.bool true))) (AX.t 64)) none 23 false true), (AOp.mk (some 66) (AK.mv (AX.t 65)) none 24 false true), (AOp.mk (some 67) (AK.mv (AX.t 3)) (some (66, false)) 25 false true), (AOp.mk (some 68) (AK.bin false BinOp.neq (AX.t 67) (AX.c (PV.val (Value.int IntKind.i64 2)))) (some (66, false)) 26 false true), (AOp.mk (some 69) (AK.pick (AX.t 66) (AX.c (PV.val (Value.bool true))) (AX.t 68)) none 27 false true), (AOp.mk (some 70) (AK.mv (AX.t 69)) none 28 false true), (AOp.mk (some 71) (AK.mv (AX.t 5)) (some (70, false)) 29 false true), (AOp.mk (some 72) (AK.bin false BinOp.neq (AX.t 71) (AX.c (PV.val (Value.int IntKind.i64 0)))) (some (70, false)) 30 false true), (AOp.mk (some 73) (AK.pick (AX.t 70) (AX.c (PV.val (Value.bool true))) (AX.t 72)) none 31 false true), (AOp.mk (some 74) (AK.mv (AX.t 73)) none 32 false true), (AOp.mk (some 75) (AK.mv (AX.t 6)) (some (74, false)) 33 false true), (AOp.mk (some 76) (AK.bin false BinOp.neq (AX.t 75) (AX.c (PV.val (Value.int IntKind.i64 1)))) (some (74, false)) 34 false true), (AOp.mk (some 77) (AK.pick (AX.t 74) (AX.c (PV.val (Value.bool true))) (AX.t 76)) none 35 false true), (AOp.mk (some 78) (AK.mv (AX.t 77)) none 36 false true), (AOp.mk (some 79) (AK.mv (AX.t 8)) (some (78, false)) 37 false true), (AOp.mk (some 80) (AK.bslice false 3 1 1 [(PV.val (Value.int IntKind.i64 0))] [(0, (1, (AX.c (PV.val (Value.int IntKind.i64 2)))))]) (some (78, false)) 38 false true), (AOp.mk (some 81) (AK.call 20 [(AX.t 79), (AX.t 80)]) (some (78, false)) 39 false true), (AOp.mk (some 82) (AK.un UnOp.not (AX.t 81)) (some (78, false)) 40 false true), (AOp.mk (some 83) (AK.pick (AX.t 78) (AX.c (PV.val (Value.bool true))) (AX.t 82)) none 41 false true), (AOp.mk (some 84) (AK.mv (AX.t 83)) none 42 false true), (AOp.mk (some 85) (AK.mv (AX.t 10)) (some (84, false)) 43 false true), (AOp.mk (some 86) (AK.bslice false 3 1 3 [(PV.val (Value.int IntKind.i64 0))] [(0, (1, (AX.c (PV.val (Value.int IntKind.i64 0))))), (1, (1, (AX.c (PV.val (Value.int IntKind.i64 1))))), (2, (1, (AX.c (PV.val (Value.int IntKind.i64 4)))))]) (some (84, false)) 44 false true), (AOp.mk (some 87) (AK.call 20 [(AX.t 85), (AX.t 86)]) (some (84, false)) 45 false true), (AOp.mk (some 88) (AK.un UnOp.not (AX.t 87)) (some (84, false)) 46 false true), (AOp.mk (some 89) (AK.pick (AX.t 84) (AX.c (PV.val (Value.bool true))) (AX.t 88)) none 47 false true)]) (AC.cond (AX.t 89) (AC.seq (AC.ops [(AOp.mk (some 0) (AK.mv (AX.c (PV.val (Value.bool false)))) none 0 false true)]) AC.ret) AC.skip)) (AC.seq (AC.ops [(AOp.mk (some 91) (AK.call 59 []) none 0 false true), (AOp.mk (some 92) (AK.call 36 [(AX.t 91)]) none 1 false true), (AOp.mk (some 90) (AK.mv (AX.t 92)) none 2 false true), (AOp.mk (some 93) (AK.ext (AX.t 90) 0) none 3 false true), (AOp.mk (some 94) (AK.ext (AX.t 90) 1) none 4 false true), (AOp.mk (some 95) (AK.ext (AX.t 90) 2) none 5 false true), (AOp.mk (some 12) (AK.mv (AX.t 93)) none 6 false true), (AOp.mk (some 13) (AK.mv (AX.t 94)) none 7 false true), (AOp.mk (some 2) (AK.mv (AX.t 95)) none 8 false true)]) (AC.seq (AC.ops [(AOp.mk (some 97) (AK.call 58 []) none 0 false true), (AOp.mk (some 98) (AK.call 28 [(AX.t 97)]) none 1 false true), (AOp.mk (some 96) (AK.mv (AX.t 98)) none 2 false true), (AOp.mk (some 99) (AK.ext (AX.t 96) 0) none 3 false true), (AOp.mk (some 100) (AK.ext (AX.t 96) 1) none 4 false true), (AOp.mk (some 14) (AK.mv (AX.t 99)) none 5 false true), (AOp.mk (some 4) (AK.mv (AX.t 100)) none 6 false true)]) (AC.seq (AC.ops [(AOp.mk (some 101) (AK.mv (AX.t 2)) none 0 false true), (AOp.mk (some 102) (AK.bin false BinOp.eql (AX.t 101) (AX.c (PV.val (Value.int IntKind.i64 0)))) none 1 false true), (AOp.mk (some 103) (AK.mv (AX.t 102)) none 2 false true), (AOp.mk (some 104) (AK.mv (AX.t 4)) (some (103, true)) 3 false true), (AOp.mk (some 105) (AK.bin false BinOp.eql (AX.t 104) (AX.c (PV.val (Value.int IntKind.i64 0)))) (some (103, true)) 4 false true), (AOp.mk (some 106) (AK.pick (AX.t 103) (AX.t 105) (AX.c (PV.val (Value.bool false)))) none 5 false true), (AOp.mk (some 107) (AK.mv (AX.t 106)) none 6 false true), (AOp.mk (some 108) (AK.mv (AX.t 12)) (some (107, true)) 7 false true), (AOp.mk (some 109) (AK.bin false BinOp.eql (AX.t 108) (AX.c (PV.val (Value.int IntKind.i64 4)))) (some (107, true)) 8 false true), (AOp.mk (some 110) (AK.pick (AX.t 107) (AX.t 109) (AX.c (PV.val (Value.bool false)))) none 9 false true), (AOp.mk (some 111) (AK.mv (AX.t 110)) none 10 false true), (AOp.mk (some 112) (AK.mv (AX.t 13)) (some (111, true)) 11 false true), (AOp.mk (some 113) (AK.bin false BinOp.eql (AX.t 112) (AX.c (PV.val (Value.int IntKind.i64 0)))) (some (111, true)) 12 false true), (AOp.mk (some 114) (AK.pick (AX.t 111) (AX.t 113) (AX.c (PV.val (Value.bool false)))) none 13 false true), (AOp.mk (some 115) (AK.mv (AX.t 114)) none 14 false true), (AOp.mk (some 116) (AK.mv (AX.t 14)) (some (115, true)) 15 false true), (AOp.mk (some 117) (AK.bslice false 3 1 4 [(PV.val (Value.int IntKind.i64 0))] [(0, (1, (AX.c (PV.val (Value.int IntKind.i64 0))))), (1, (1, (AX.c (PV.val (Value.int IntKind.i64 0))))), (2, (1, (AX.c (PV.val (Value.int IntKind.i64 0))))), (3, (1, (AX.c (PV.val (Value.int IntKind.i64 0)))))]) (some (115, true)) 16 false true), (AOp.mk (some 118) (AK.call 20 [(AX.t 116), (AX.t 117)]) (some (115, true)) 17 false true), (AOp.mk (some 119) (AK.pick (AX.t 115) (AX.t 118) (AX.c (PV.val (Value.bool false)))) none 18 false true), (AOp.mk (some 0) (AK.mv (AX.t 119)) none 19 false true)]) AC.ret))))))))))
theorem ac25_ok : cCode Try.prog (fun _ => false) Try.f25.ntmps (Try.f25.body.getD .skip) = some ac25 := by kernel_rfl
def ownB : DBook := ⟨4, [[2, 1, 4, 1], [4, 1, 2, 1], [3, 4, 1, 2], [8, 8, 8, 8]]⟩
def wornB : DBook := ⟨4, [[2, 1, 4, 1], [4, 1, 2, 1], [3, 4, 1, 2], [8, 8, 8, 8], [15, 15, 15, 15]]⟩
theorem PVle.rowsK {k : SK} {sz : Nat} {l r : List (List PV)} (h : PVleR l r) : PVle (.sl k sz l) (.sl k sz r) := fun g v hv => by
  obtain ⟨h1, h2⟩ := h.spec
  cases hv with
  | sl _ _ _ ad n c f hl hn hc hm hk hz hat hh =>
    refine .sl k sz r ad n c f (by omega) hn hc hm hk (fun i e he => ?_) hat (fun i j e x he hx => ?_)
    · have hi : i < l.length := by rw [h1]; exact (List.getElem?_eq_some_iff.1 he).1
      rw [← (h2 i _ e (List.getElem?_eq_getElem hi) he).spec.1]
      exact hz i _ (List.getElem?_eq_getElem hi)
    · have hi : i < l.length := by rw [h1]; exact (List.getElem?_eq_some_iff.1 he).1
      obtain ⟨h3, h4⟩ := (h2 i _ e (List.getElem?_eq_getElem hi) he).spec
      have hj : j < l[i].length := by rw [h3]; exact (List.getElem?_eq_some_iff.1 hx).1
      exact h4 j _ x (List.getElem?_eq_getElem hj) hx g _ (hh i j _ _ (List.getElem?_eq_getElem hi) (List.getElem?_eq_getElem hj))
theorem own_sem : Sem1 58 [] (.agg (bookC .full ownB)) := by
  refine semC_of_exec' mixed Try.func58 (by kernel_rfl) (by kernel_rfl) ac58_ok 0 rfl (by decide) [(.cell 0 24)] (by kernel_rfl) ?_
  intro hr C hC hI
  unfold ac58
  simp only [go_sem, Nat.reduceBEq, Nat.reduceAdd, Nat.reduceLeDiff]
  refine retQ_cell_le (n := some 2) (by kernel_rfl) rfl ?_ rfl
  exact PVle.agg (show PVleL [_, _] [_, _] from ⟨PVle.refl _, PVle.rowsK (show PVleR [_, _, _, _] [_, _, _, _] from ⟨⟨PVle.sh _ _ _, trivial⟩, ⟨PVle.sh _ _ _, trivial⟩, ⟨PVle.sh _ _ _, trivial⟩, ⟨PVle.sh _ _ _, trivial⟩, trivial⟩), trivial⟩)
theorem worn_sem : Sem1 59 [] (.agg (bookC .sh wornB)) := by
  refine semC_of_exec' mixed Try.func59 (by kernel_rfl) (by kernel_rfl) ac59_ok 0 rfl (by decide) [(.cell 0 24)] (by kernel_rfl) ?_
  intro hr C hC hI
  unfold ac59
  simp only [go_sem]
  refine call_pure2 hC (own_sem) rfl (PVleL_refl _) ?_
  rintro r rfl
  simp only [go_sem, Nat.reduceBEq, Nat.reduceAdd, Nat.reduceLeDiff, ownB, putCells]
  intro t _
  refine retQ_cell_le (n := some 2) (by kernel_rfl) rfl ?_ rfl
  exact PVle.agg (show PVleL [_, _] [_, _] from ⟨PVle.refl _, PVle.rows (show PVleR [_, _, _, _, _] [_, _, _, _, _] from ⟨PVleL.refl _, PVleL.refl _, PVleL.refl _, PVleL.refl _, ⟨PVle.sh _ _ _, trivial⟩, trivial⟩), trivial⟩)
set_option maxRecDepth 100000 in
theorem ev_turns : Sem1 18 [.agg (bookC .full ownB), pi 2, pi 0] (.tup [pis [3], pi 0]) :=
  (Turns_sem .full ownB 2 0).mono fun _ h => h.trans (by kernel_rfl)
theorem ev_same : Sem1 23 [.agg (bookC .full ownB), pi 0, pi 1] (.tup [pi 2, pi 0]) :=
  (Same_sem .full ownB 0 1).mono fun _ h => h.trans (by kernel_rfl)
theorem ev_clash : Sem1 30 [.agg (bookC .full ownB)] (.tup [pi 0, pi 1, pi 0]) :=
  (Clash_sem .full ownB).mono fun _ h => h.trans (by kernel_rfl)
theorem ev_whose : Sem1 26 [.agg (bookC .full ownB), pis [1, 1, 2, 0]] (.tup [pis [2], pi 0]) :=
  (Whose_sem .full ownB [1, 1, 2, 0]).mono fun _ h => h.trans (by kernel_rfl)
theorem ev_drop : Sem1 34 [.agg (bookC .sh wornB)] (.tup [pis [0, 1, 4], pi 0]) :=
  (Drop_sem .sh wornB).mono fun _ h => h.trans (by kernel_rfl)
theorem ev_look : Sem1 36 [.agg (bookC .sh wornB)] (.tup [pi 4, pi 0, pi 0]) :=
  (Look_sem .sh wornB).mono fun _ h => h.trans (by kernel_rfl)
theorem ev_new : Sem1 28 [.agg (bookC .full ownB)] (.tup [pis [0, 0, 0, 0], pi 0]) :=
  (New_sem .full ownB).mono fun _ h => h.trans (by kernel_rfl)
theorem Equal_lit (k : SK) (l m : List Int) : PVleL [pis l, .sl k 1 (m.map fun x => [pi x])] [pis l, pis m] := ⟨PVle.refl _, PVle.sh _ _ _, trivial⟩
set_option maxRecDepth 100000 in
theorem pressed_sem : Sem1 25 [] (pb true) := by
  refine semC_of_exec' mixed Try.func25 (by kernel_rfl) (by kernel_rfl) ac25_ok 0 rfl (by decide) [(.tmp 0)] (by kernel_rfl) ?_
  intro hr C hC hI
  unfold ac25
  simp only [go_sem]
  refine call_pure2 hC (own_sem) rfl (PVleL_refl _) ?_
  rintro r rfl
  simp only [go_sem, Nat.reduceBEq]
  refine call_pure2 hC (ev_turns) rfl (PVleL_refl _) ?_
  rintro r rfl
  simp only [go_sem, Nat.reduceBEq]
  refine call_pure2 hC (own_sem) rfl (PVleL_refl _) ?_
  rintro r rfl
  simp only [go_sem, Nat.reduceBEq]
  refine call_pure2 hC (ev_same) rfl (PVleL_refl _) ?_
  rintro r rfl
  simp only [go_sem, Nat.reduceBEq]
  refine call_pure2 hC (own_sem) rfl (PVleL_refl _) ?_
  rintro r rfl
  simp only [go_sem, Nat.reduceBEq]
  refine call_pure2 hC (ev_clash) rfl (PVleL_refl _) ?_
  rintro r rfl
  simp only [go_sem, Nat.reduceBEq]
  refine call_pure2 hC (own_sem) rfl (PVleL_refl _) ?_
  rintro r rfl
  simp only [go_sem, Nat.reduceBEq, Nat.reduceAdd, Nat.reduceLeDiff]
  refine call_pure2 hC (ev_whose) rfl ⟨PVle.refl _, PVle.sh _ _ _, trivial⟩ ?_
  rintro r rfl
  simp only [go_sem, Nat.reduceBEq]
  refine call_pure2 hC (worn_sem) rfl (PVleL_refl _) ?_
  rintro r rfl
  simp only [go_sem, Nat.reduceBEq]
  refine call_pure2 hC (ev_drop) rfl (PVleL_refl _) ?_
  rintro r rfl
  simp only [go_sem, Nat.reduceBEq, decide_false, not_true_eq_false]
  refine call_pure2 hC (Equal_sem [3] [3]) rfl (Equal_lit .full [3] [3]) ?_
  rintro r rfl
  simp only [go_sem, Nat.reduceBEq, decide_true, decide_false, not_true_eq_false]
  refine call_pure2 hC (Equal_sem [2] [2]) rfl (Equal_lit .full [2] [2]) ?_
  rintro r rfl
  simp only [go_sem, Nat.reduceBEq, Nat.reduceAdd, Nat.reduceLeDiff, decide_true]
  refine call_pure2 hC (Equal_sem [0, 1, 4] [0, 1, 4]) rfl (Equal_lit .full _ [0, 1, 4]) ?_
  rintro r rfl
  simp only [go_sem, Nat.reduceBEq, decide_true]
  refine call_pure2 hC (worn_sem) rfl (PVleL_refl _) ?_
  rintro r rfl
  simp only [go_sem, Nat.reduceBEq]
  refine call_pure2 hC (ev_look) rfl (PVleL_refl _) ?_
  rintro r rfl
  simp only [go_sem, Nat.reduceBEq]
  refine call_pure2 hC (own_sem) rfl (PVleL_refl _) ?_
  rintro r rfl
  simp only [go_sem, Nat.reduceBEq]
  refine call_pure2 hC (ev_new) rfl (PVleL_refl _) ?_
  rintro r rfl
  simp only [go_sem, Nat.reduceBEq, Nat.reduceAdd, Nat.reduceLeDiff, decide_true]
  refine call_pure2 hC (Equal_sem [0, 0, 0, 0] [0, 0, 0, 0]) rfl (Equal_lit .full _ [0, 0, 0, 0]) ?_
  rintro r rfl
  simp only [go_sem, Nat.reduceBEq, decide_true]
  exact retQ_one rfl rfl
end Go.Proofs.Ythibnlfbdbidjaa
namespace Go.Proofs.Ythibnlfbdbidjaa
open Go.RowKit
def ac38 : AC := (AC.seq (AC.ops [(AOp.mk (some 1) (AK.box 2 (AX.t 0)) none 0 false true), (AOp.mk (some 2) (AK.mv (AX.c (PV.val (Value.bool false)))) none 1 false true)]) (AC.seq (AC.ops [(AOp.mk (some 6) (AK.ld (some 2) (AX.t 1)) none 0 false true), (AOp.mk (some 7) (AK.call 21 [(AX.t 6)]) none 1 false true), (AOp.mk (some 8) (AK.bin false BinOp.eql (AX.t 7) (AX.c (PV.val (Value.int IntKind.i64 0)))) none 2 false true), (AOp.mk (some 9) (AK.mv (AX.t 8)) none 3 false true), (AOp.mk (some 10) (AK.fadr 0 (AX.t 1)) (some (9, true)) 4 false true), (AOp.mk (some 11) (AK.ld none (AX.t 10)) (some (9, true)) 5 false true), (AOp.mk (some 12) (AK.call 45 [(AX.t 11), (AX.c (PV.val (Value.int IntKind.i64 1))), (AX.c (PV.val (Value.int IntKind.i64 8)))]) (some (9, true)) 6 false true), (AOp.mk (some 13) (AK.pick (AX.t 9) (AX.t 12) (AX.c (PV.val (Value.bool false)))) none 7 false true), (AOp.mk (some 14) (AK.mv (AX.t 13)) none 8 false true), (AOp.mk (some 15) (AK.fadr 1 (AX.t 1)) (some (14, true)) 9 false true), (AOp.mk (some 16) (AK.ld none (AX.t 15)) (some (14, true)) 10 false true), (AOp.mk (some 17) (AK.len (AX.t 16)) (some (14, true)) 11 false true), (AOp.mk (some 18) (AK.call 45 [(AX.t 17), (AX.c (PV.val (Value.int IntKind.i64 1))), (AX.c (PV.val (Value.int IntKind.i64 6)))]) (some (14, true)) 12 false true), (AOp.mk (some 19) (AK.pick (AX.t 14) (AX.t 18) (AX.c (PV.val (Value.bool false)))) none 13 false true), (AOp.mk (some 3) (AK.mv (AX.t 19)) none 14 false true)]) (AC.seq (AC.seq (AC.ops [(AOp.mk (some 4) (AK.mv (AX.c (PV.val (Value.int IntKind.i64 0)))) none 0 false true)]) (AC.block 0 (AC.loop (AC.seq (AC.seq (AC.ops [(AOp.mk (some 20) (AK.mv (AX.t 3)) none 0 false true), (AOp.mk (some 21) (AK.mv (AX.t 20)) none 1 false true), (AOp.mk (some 22) (AK.mv (AX.t 4)) (some (21, true)) 2 false true), (AOp.mk (some 23) (AK.fadr 1 (AX.t 1)) (some (21, true)) 3 false true), (AOp.mk (some 24) (AK.ld none (AX.t 23)) (some (21, true)) 4 false true), (AOp.mk (some 25) (AK.len (AX.t 24)) (some (21, true)) 5 false true), (AOp.mk (some 26) (AK.bin false BinOp.lss (AX.t 22) (AX.t 25)) (some (21, true)) 6 false true), (AOp.mk (some 27) (AK.pick (AX.t 21) (AX.t 26) (AX.c (PV.val (Value.bool false)))) none 7 false true)]) (AC.cond (AX.t 27) AC.skip (AC.exit 0))) (AC.seq (AC.block 1 (AC.seq (AC.ops [(AOp.mk (some 30) (AK.fadr 1 (AX.t 1)) none 0 true false), (AOp.mk (some 31) (AK.ld none (AX.t 30)) none 1 true false), (AOp.mk (some 32) (AK.mv (AX.t 4)) none 2 true false), (AOp.mk (some 33) (AK.iadrS 1 (AX.t 31) (AX.t 32)) none 3 true false), (AOp.mk (some 34) (AK.ld none (AX.t 33)) none 4 true false), (AOp.mk (some 35) (AK.len (AX.t 34)) none 5 true false), (AOp.mk (some 36) (AK.fadr 0 (AX.t 1)) none 6 true false), (AOp.mk (some 37) (AK.ld none (AX.t 36)) none 7 true false), (AOp.mk (some 38) (AK.bin false BinOp.eql (AX.t 35) (AX.t 37)) none 8 true true), (AOp.mk (some 3) (AK.mv (AX.t 38)) none 9 true true)]) (AC.seq (AC.ops [(AOp.mk (some 5) (AK.mv (AX.c (PV.val (Value.int IntKind.i64 0)))) none 0 false true)]) (AC.block 2 (AC.loop (AC.seq (AC.seq (AC.ops [(AOp.mk (some 39) (AK.mv (AX.t 3)) none 0 false true), (AOp.mk (some 40) (AK.mv (AX.t 39)) none 1 false true), (AOp.mk (some 41) (AK.mv (AX.t 5)) (some (40, true)) 2 false true), (AOp.mk (some 42) (AK.fadr 0 (AX.t 1)) (some (40, true)) 3 false true), (AOp.mk (some 43) (AK.ld none (AX.t 42)) (some (40, true)) 4 false true), (AOp.mk (some 44) (AK.bin false BinOp.lss (AX.t 41) (AX.t 43)) (some (40, true)) 5 false true), (AOp.mk (some 45) (AK.pick (AX.t 40) (AX.t 44) (AX.c (PV.val (Value.bool false)))) none 6 false true)]) (AC.cond (AX.t 45) AC.skip (AC.exit 2))) (AC.seq (AC.block 3 (AC.ops [(AOp.mk (some 48) (AK.fadr 1 (AX.t 1)) none 0 false true), (AOp.mk (some 49) (AK.ld none (AX.t 48)) none 1 false true), (AOp.mk (some 50) (AK.mv (AX.t 4)) none 2 false true), (AOp.mk (some 51) (AK.iadrS 1 (AX.t 49) (AX.t 50)) none 3 false true), (AOp.mk (some 52) (AK.ld none (AX.t 51)) none 4 false true), (AOp.mk (some 53) (AK.mv (AX.t 5)) none 5 false true), (AOp.mk (some 54) (AK.iadrS 1 (AX.t 52) (AX.t 53)) none 6 false true), (AOp.mk (some 55) (AK.ld none (AX.t 54)) none 7 false true), (AOp.mk (some 56) (AK.call 45 [(AX.t 55), (AX.c (PV.val (Value.int IntKind.i64 1))), (AX.c (PV.val (Value.int IntKind.i64 15)))]) none 8 false true), (AOp.mk (some 3) (AK.mv (AX.t 56)) none 9 false true)])) (AC.ops [(AOp.mk (some 46) (AK.mv (AX.t 5)) none 0 false true), (AOp.mk (some 47) (AK.bin false BinOp.add (AX.t 46) (AX.c (PV.val (Value.int IntKind.i64 1)))) none 1 false true), (AOp.mk (some 5) (AK.mv (AX.t 47)) none 2 false true)])))))))) (AC.ops [(AOp.mk (some 28) (AK.mv (AX.t 4)) none 0 false true), (AOp.mk (some 29) (AK.bin false BinOp.add (AX.t 28) (AX.c (PV.val (Value.int IntKind.i64 1)))) none 1 false true), (AOp.mk (some 4) (AK.mv (AX.t 29)) none 2 false true)])))))) (AC.seq (AC.ops [(AOp.mk (some 57) (AK.mv (AX.t 3)) none 0 false true), (AOp.mk (some 2) (AK.mv (AX.t 57)) none 1 false true)]) AC.ret))))
theorem ac38_ok : cCode Try.prog (fun _ => false) Try.f38.ntmps (Try.f38.body.getD .skip) = some ac38 := by kernel_rfl
def ac44 : AC := (AC.seq (AC.ops [(AOp.mk (some 3) (AK.box 2 (AX.t 0)) none 0 false true), (AOp.mk (some 6) (AK.mv (AX.c (PV.val (Value.int IntKind.i64 0)))) none 1 false true), (AOp.mk (some 7) (AK.mv (AX.c (PV.val (Value.int IntKind.i64 0)))) none 2 false true)]) (AC.seq (AC.ops [(AOp.mk (some 9) (AK.mv (AX.t 1)) none 0 false true), (AOp.mk (some 10) (AK.fadr 1 (AX.t 3)) none 1 false true), (AOp.mk (some 11) (AK.ld none (AX.t 10)) none 2 false true), (AOp.mk (some 12) (AK.len (AX.t 11)) none 3 false true), (AOp.mk (some 13) (AK.call 46 [(AX.t 9), (AX.t 12)]) none 4 false true), (AOp.mk (some 8) (AK.mv (AX.t 13)) none 5 false true)]) (AC.seq (AC.ops [(AOp.mk (some 14) (AK.mv (AX.t 8)) none 0 true false), (AOp.mk (some 15) (AK.mv (AX.t 8)) none 1 true false), (AOp.mk (some 16) (AK.bin false BinOp.add (AX.t 15) (AX.c (PV.val (Value.int IntKind.i64 1)))) none 2 true false), (AOp.mk (some 17) (AK.mv (AX.t 2)) none 3 true false), (AOp.mk (some 18) (AK.fadr 1 (AX.t 3)) none 4 true false), (AOp.mk (some 19) (AK.ld none (AX.t 18)) none 5 true false), (AOp.mk (some 20) (AK.len (AX.t 19)) none 6 true false), (AOp.mk (some 21) (AK.bin false BinOp.sub (AX.t 20) (AX.c (PV.val (Value.int IntKind.i64 1)))) none 7 true false), (AOp.mk (some 24) (AK.fadr 1 (AX.t 3)) none 10 true false), (AOp.mk (some 25) (AK.ld none (AX.t 24)) none 11 true false), (AOp.mk (some 26) (AK.len (AX.t 25)) none 12 true false), (AOp.mk (some 22) (AK.call 46 [(AX.t 17), (AX.t 21)]) none 8 false false), (AOp.mk (some 23) (AK.bin false BinOp.add (AX.t 16) (AX.t 22)) none 9 true false), (AOp.mk (some 27) (AK.call 46 [(AX.t 23), (AX.t 26)]) none 13 false false), (AOp.mk (some 6) (AK.mv (AX.t 14)) none 14 true true), (AOp.mk (some 7) (AK.mv (AX.t 27)) none 15 true true)]) AC.ret)))
theorem ac44_ok : cCode Try.prog (fun _ => false) Try.f44.ntmps (Try.f44.body.getD .skip) = some ac44 := by kernel_rfl
theorem sound_sem (k : SK) (b : DBook) : Sem1 38 [.agg (bookC k b)] (pb (decide (okBook b))) := by
  refine semC_of_exec' mixed Try.func38 (by kernel_rfl) (by kernel_rfl) ac38_ok 1 rfl (by decide) [(.tmp 2)] (by kernel_rfl) ?_
  intro hr C hC hI
  unfold ac38
  simp only [go_sem, Nat.reduceBEq, Nat.reduceAdd]
  refine call_pure2 hC (Check_sem ..) rfl (PVleL_refl _) ?_
  rintro r rfl
  simp only [go_sem, Nat.reduceBEq]
  by_cases ho : okBook b
  · obtain ⟨h1, h8, hn⟩ := okR ho
    have h6 := ho.2.1
    simp only [if_pos ho, decide_eq_true ho]
    refine ⟨fun _ => ?_, fun h => absurd trivial h⟩
    refine call_pure2 hC (In_sem ..) rfl (PVleL_refl _) ?_
    rintro r rfl
    simp only [go_sem, Nat.reduceBEq, decide_eq_true (show 1 ≤ b.round ∧ b.round ≤ 8 by omega), List.length_map]
    refine call_pure2 hC (In_sem ..) rfl (PVleL_refl _) ?_
    rintro r rfl
    simp only [go_sem, Nat.reduceBEq, decide_eq_true (show (1 : Int) ≤ b.horses.length ∧ (b.horses.length : Int) ≤ 6 by omega)]
    refine loop_k b.horses.length (fun _ => True) [1] (fun j => [(4, .p (pi j)), (3, .p (pb true))]) trivial rfl ⟨rfl, by simp, by simp⟩ (by simp [wkT, look, AV.lo]) ?_
    rintro j ⟨hj, -⟩
    simp only [go_sem, Nat.reduceBEq, List.length_map]
    refine ⟨fun h5 => ?_, fun h5 => ?_⟩
    · have hj2 : j < b.horses.length := by omega
      have hH := ho.2.2 _ (List.getElem_mem hj2)
      have eh := iadr_map (f := fun h => [pis h]) (kd := k) (sz := 1) hj2
      obtain ⟨r, hr'⟩ : ∃ r, b.horses[j] = r := ⟨_, rfl⟩
      rw [hr'] at hH eh
      simp only [go_sem, Nat.reduceBEq, eh, List.length_map, decide_eq_true hH.1]
      refine loop_k (nR b) (fun _ => True) [1, 4] (fun q => [(5, .p (pi q)), (3, .p (pb true))]) trivial rfl ⟨rfl, by simp, by simp⟩ (by simp [wkT, look, AV.lo]) ?_
      rintro q ⟨hq, -⟩
      simp only [go_sem, Nat.reduceBEq]
      refine ⟨fun h6 => ?_, fun h6 => ?_⟩
      · have hq2 : q < nR b := by omega
        have hq3 : q < r.length := by have := hH.1; omega
        have hx := hH.2 _ (List.getElem_mem hq3)
        simp only [go_sem, Nat.reduceBEq, eh, iadr_pis hq3]
        refine call_pure2 hC (In_sem ..) rfl (PVleL_refl _) ?_
        rintro r rfl
        simp only [go_sem, Nat.reduceBEq, decide_eq_true hx, wrap_succ (k := q) (by omega)]
        exact ⟨⟨q + 1, hq2, trivial⟩, by simp only; omega, by simp [Wk, wkT, wkL, look, AV.lo, AV.lo.loL, ABlk.toZ]⟩
      · simp only [go_sem, wrap_succ (k := j) (by omega)]
        exact ⟨⟨j + 1, hj2, trivial⟩, by simp only; omega, by simp [Wk, wkT, wkL, look, AV.lo, AV.lo.loL, ABlk.toZ]⟩
    · exact retQ_one rfl rfl
  · simp only [if_neg ho, decide_eq_false ho]
    refine ⟨fun h => absurd h (by decide), fun _ => ?_⟩
    refine loop_k 0 (fun _ => True) [1] (fun j => [(4, .p (pi 0)), (3, .p (pb false))]) trivial rfl ⟨rfl, by simp, by simp⟩ (by simp [wkT, look, AV.lo]) ?_
    rintro j ⟨hj, -⟩
    simp only [go_sem, Nat.reduceBEq]
    exact retQ_one rfl rfl
def twoJ (b : DBook) (n m : Int) : Int := rndI (rndI n b.horses.length + 1 + rndI m (b.horses.length - 1)) b.horses.length
theorem two_sem (k : SK) {b : DBook} (ho : okBook b) (h2 : 2 ≤ b.horses.length) (n m : Int) : Sem1 44 [.agg (bookC k b), pi n, pi m] (.tup [pi (rndI n b.horses.length), pi (twoJ b n m)]) := by
  have h6 := ho.2.1
  refine semC_of_exec' mixed Try.func44 (by kernel_rfl) (by kernel_rfl) ac44_ok 3 rfl (by decide) [(.tmp 6), (.tmp 7)] (by kernel_rfl) ?_
  intro hr C hC hI
  unfold ac44
  simp only [go_sem, Nat.reduceBEq, Nat.reduceAdd, List.length_map]
  have e1 := rndI_range (n := n) (m := b.horses.length) (by omega)
  have e2 := rndI_range (n := m) (m := (b.horses.length : Int) - 1) (by omega)
  refine call_pure2 hC (Round_sem ..) rfl (PVleL_refl _) ?_
  rintro r rfl
  simp only [go_sem, Nat.reduceBEq, List.length_map, wrap_id (n := (b.horses.length : Int) - 1) (by omega) (by omega), wrap_id (n := rndI n b.horses.length + 1) (by omega) (by omega)]
  refine call_pure2 hC (Round_sem ..) rfl (PVleL_refl _) ?_
  rintro r rfl
  simp only [go_sem, Nat.reduceBEq, wrap_id (n := rndI n b.horses.length + 1 + rndI m (b.horses.length - 1)) (by omega) (by omega)]
  refine call_pure2 hC (Round_sem ..) rfl (PVleL_refl _) ?_
  rintro r rfl
  simp only [go_sem, Nat.reduceBEq]
  exact retQ_two rfl rfl rfl
theorem two_range {b : DBook} (h2 : 2 ≤ b.horses.length) (n m : Int) : ∃ h o : Nat, rndI n b.horses.length = h ∧ twoJ b n m = o ∧ h < b.horses.length ∧ o < b.horses.length ∧ h ≠ o := by
  have e1 := rndI_range (n := n) (m := b.horses.length) (by omega)
  have e2 := rndI_range (n := m) (m := (b.horses.length : Int) - 1) (by omega)
  have e3 := rndI_range (n := rndI n b.horses.length + 1 + rndI m (b.horses.length - 1)) (m := b.horses.length) (by omega)
  refine ⟨(rndI n b.horses.length).toNat, (twoJ b n m).toNat, by omega, by unfold twoJ; omega, by omega, by unfold twoJ; omega, ?_⟩
  unfold twoJ
  generalize rndI n b.horses.length = x at *
  generalize rndI m (b.horses.length - 1) = y at *
  unfold rndI at *
  rw [if_neg (by omega)] at *
  by_cases hlt : x + 1 + y < b.horses.length
  · rw [Int.emod_eq_of_lt (by omega) hlt]; omega
  · have : (x + 1 + y) % b.horses.length = x + 1 + y - b.horses.length := by
      rw [← Int.sub_emod_right, Int.emod_eq_of_lt (by omega) (by omega)]
    rw [this]; omega
end Go.Proofs.Ythibnlfbdbidjaa
namespace Go.Proofs.Ythibnlfbdbidjaa
open Go.RowKit
def ac9 : AC := (AC.seq (AC.ops [(AOp.mk (some 2) (AK.box 2 (AX.t 0)) none 0 false true), (AOp.mk (some 3) (AK.box 2 (AX.t 1)) none 1 false true), (AOp.mk (some 4) (AK.mv (AX.c (PV.val (Value.bool false)))) none 2 false true)]) (AC.seq (AC.seq (AC.ops [(AOp.mk (some 13) (AK.ld (some 2) (AX.t 2)) none 0 false true), (AOp.mk (some 14) (AK.call 38 [(AX.t 13)]) none 1 false true), (AOp.mk (some 15) (AK.un UnOp.not (AX.t 14)) none 2 false true), (AOp.mk (some 16) (AK.mv (AX.t 15)) none 3 false true), (AOp.mk (some 17) (AK.fadr 1 (AX.t 2)) (some (16, false)) 4 false true), (AOp.mk (some 18) (AK.ld none (AX.t 17)) (some (16, false)) 5 false true), (AOp.mk (some 19) (AK.len (AX.t 18)) (some (16, false)) 6 false true), (AOp.mk (some 20) (AK.bin false BinOp.lss (AX.t 19) (AX.c (PV.val (Value.int IntKind.i64 2)))) (some (16, false)) 7 false true), (AOp.mk (some 21) (AK.pick (AX.t 16) (AX.c (PV.val (Value.bool true))) (AX.t 20)) none 8 false true)]) (AC.cond (AX.t 21) (AC.seq (AC.ops [(AOp.mk (some 22) (AK.call 25 []) none 0 false true), (AOp.mk (some 4) (AK.mv (AX.t 22)) none 1 false true)]) AC.ret) AC.skip)) (AC.seq (AC.ops [(AOp.mk (some 24) (AK.ld (some 2) (AX.t 2)) none 0 false true), (AOp.mk (some 25) (AK.iadrA 1 2 (AX.t 3) (AX.c (PV.val (Value.int IntKind.i64 0)))) none 1 false true), (AOp.mk (some 26) (AK.ld none (AX.t 25)) none 2 false true), (AOp.mk (some 27) (AK.iadrA 1 2 (AX.t 3) (AX.c (PV.val (Value.int IntKind.i64 1)))) none 3 false true), (AOp.mk (some 28) (AK.ld none (AX.t 27)) none 4 false true), (AOp.mk (some 29) (AK.call 44 [(AX.t 24), (AX.t 26), (AX.t 28)]) none 5 false true), (AOp.mk (some 23) (AK.mv (AX.t 29)) none 6 false true), (AOp.mk (some 30) (AK.ext (AX.t 23) 0) none 7 false true), (AOp.mk (some 31) (AK.ext (AX.t 23) 1) none 8 false true), (AOp.mk (some 5) (AK.mv (AX.t 30)) none 9 false true), (AOp.mk (some 6) (AK.mv (AX.t 31)) none 10 false true)]) (AC.seq (AC.ops [(AOp.mk (some 33) (AK.ld (some 2) (AX.t 2)) none 0 false true), (AOp.mk (some 34) (AK.mv (AX.t 5)) none 1 false true), (AOp.mk (some 35) (AK.mv (AX.t 6)) none 2 false true), (AOp.mk (some 36) (AK.call 23 [(AX.t 33), (AX.t 34), (AX.t 35)]) none 3 false true), (AOp.mk (some 32) (AK.mv (AX.t 36)) none 4 false true), (AOp.mk (some 37) (AK.ext (AX.t 32) 0) none 5 false true), (AOp.mk (some 38) (AK.ext (AX.t 32) 1) none 6 false true), (AOp.mk (some 7) (AK.mv (AX.t 37)) none 7 false true), (AOp.mk (some 8) (AK.mv (AX.t 38)) none 8 false true)]) (AC.seq (AC.ops [(AOp.mk (some 40) (AK.ld (some 2) (AX.t 2)) none 0 false true), (AOp.mk (some 41) (AK.mv (AX.t 5)) none 1 false true), (AOp.mk (some 42) (AK.mv (AX.t 6)) none 2 false true), (AOp.mk (some 43) (AK.call 18 [(AX.t 40), (AX.t 41), (AX.t 42)]) none 3 false true), (AOp.mk (some 39) (AK.mv (AX.t 43)) none 4 false true), (AOp.mk (some 44) (AK.ext (AX.t 39) 0) none 5 false true), (AOp.mk (some 45) (AK.ext (AX.t 39) 1) none 6 false true), (AOp.mk (some 9) (AK.mv (AX.t 44)) none 7 false true), (AOp.mk (some 10) (AK.mv (AX.t 45)) none 8 false true)]) (AC.seq (AC.ops [(AOp.mk (some 46) (AK.mv (AX.t 9)) none 0 false true), (AOp.mk (some 47) (AK.len (AX.t 46)) none 1 false true), (AOp.mk (some 48) (AK.bin false BinOp.gtr (AX.t 47) (AX.c (PV.val (Value.int IntKind.i64 0)))) none 2 false true), (AOp.mk (some 11) (AK.mv (AX.t 48)) none 3 false true)]) (AC.seq (AC.seq (AC.ops [(AOp.mk (some 12) (AK.mv (AX.c (PV.val (Value.int IntKind.i64 0)))) none 0 false true)]) (AC.block 0 (AC.loop (AC.seq (AC.seq (AC.ops [(AOp.mk (some 49) (AK.mv (AX.t 12)) none 0 false true), (AOp.mk (some 50) (AK.fadr 0 (AX.t 2)) none 1 false true), (AOp.mk (some 51) (AK.ld none (AX.t 50)) none 2 false true), (AOp.mk (some 52) (AK.bin false BinOp.lss (AX.t 49) (AX.t 51)) none 3 false true)]) (AC.cond (AX.t 52) AC.skip (AC.exit 0))) (AC.seq (AC.block 1 (AC.ops [(AOp.mk (some 55) (AK.mv (AX.t 11)) none 0 false true), (AOp.mk (some 56) (AK.mv (AX.t 55)) none 1 false true), (AOp.mk (some 57) (AK.fadr 1 (AX.t 2)) (some (56, true)) 2 false true), (AOp.mk (some 58) (AK.ld none (AX.t 57)) (some (56, true)) 3 false true), (AOp.mk (some 59) (AK.mv (AX.t 5)) (some (56, true)) 4 false true), (AOp.mk (some 60) (AK.iadrS 1 (AX.t 58) (AX.t 59)) (some (56, true)) 5 false true), (AOp.mk (some 61) (AK.ld none (AX.t 60)) (some (56, true)) 6 false true), (AOp.mk (some 62) (AK.mv (AX.t 12)) (some (56, true)) 7 false true), (AOp.mk (some 63) (AK.iadrS 1 (AX.t 61) (AX.t 62)) (some (56, true)) 8 false true), (AOp.mk (some 64) (AK.ld none (AX.t 63)) (some (56, true)) 9 false true), (AOp.mk (some 65) (AK.call 48 [(AX.t 64), (AX.c (PV.val (Value.int IntKind.i64 4)))]) (some (56, true)) 10 false true), (AOp.mk (some 66) (AK.len (AX.t 65)) (some (56, true)) 11 false true), (AOp.mk (some 67) (AK.bin false BinOp.eql (AX.t 66) (AX.c (PV.val (Value.int IntKind.i64 1)))) (some (56, true)) 12 false true), (AOp.mk (some 68) (AK.pick (AX.t 56) (AX.t 67) (AX.c (PV.val (Value.bool false)))) none 13 false true), (AOp.mk (some 69) (AK.mv (AX.t 68)) none 14 false true), (AOp.mk (some 70) (AK.fadr 1 (AX.t 2)) (some (69, true)) 15 false true), (AOp.mk (some 71) (AK.ld none (AX.t 70)) (some (69, true)) 16 false true), (AOp.mk (some 72) (AK.mv (AX.t 6)) (some (69, true)) 17 false true), (AOp.mk (some 73) (AK.iadrS 1 (AX.t 71) (AX.t 72)) (some (69, true)) 18 false true), (AOp.mk (some 74) (AK.ld none (AX.t 73)) (some (69, true)) 19 false true), (AOp.mk (some 75) (AK.mv (AX.t 12)) (some (69, true)) 20 false true), (AOp.mk (some 76) (AK.iadrS 1 (AX.t 74) (AX.t 75)) (some (69, true)) 21 false true), (AOp.mk (some 77) (AK.ld none (AX.t 76)) (some (69, true)) 22 false true), (AOp.mk (some 78) (AK.call 48 [(AX.t 77), (AX.c (PV.val (Value.int IntKind.i64 4)))]) (some (69, true)) 23 false true), (AOp.mk (some 79) (AK.len (AX.t 78)) (some (69, true)) 24 false true), (AOp.mk (some 80) (AK.bin false BinOp.eql (AX.t 79) (AX.c (PV.val (Value.int IntKind.i64 1)))) (some (69, true)) 25 false true), (AOp.mk (some 81) (AK.pick (AX.t 69) (AX.t 80) (AX.c (PV.val (Value.bool false)))) none 26 false true), (AOp.mk (some 11) (AK.mv (AX.t 81)) none 27 false true)])) (AC.ops [(AOp.mk (some 53) (AK.mv (AX.t 12)) none 0 false true), (AOp.mk (some 54) (AK.bin false BinOp.add (AX.t 53) (AX.c (PV.val (Value.int IntKind.i64 1)))) none 1 false true), (AOp.mk (some 12) (AK.mv (AX.t 54)) none 2 false true)])))))) (AC.seq (AC.ops [(AOp.mk (some 82) (AK.mv (AX.t 8)) none 0 false true), (AOp.mk (some 83) (AK.bin false BinOp.eql (AX.t 82) (AX.c (PV.val (Value.int IntKind.i64 0)))) none 1 false true), (AOp.mk (some 84) (AK.mv (AX.t 83)) none 2 false true), (AOp.mk (some 85) (AK.mv (AX.t 10)) (some (84, true)) 3 false true), (AOp.mk (some 86) (AK.bin false BinOp.eql (AX.t 85) (AX.c (PV.val (Value.int IntKind.i64 0)))) (some (84, true)) 4 false true), (AOp.mk (some 87) (AK.pick (AX.t 84) (AX.t 86) (AX.c (PV.val (Value.bool false)))) none 5 false true), (AOp.mk (some 88) (AK.mv (AX.t 87)) none 6 false true), (AOp.mk (some 89) (AK.mv (AX.t 7)) (some (88, true)) 7 false true), (AOp.mk (some 90) (AK.bin false BinOp.eql (AX.t 89) (AX.c (PV.val (Value.int IntKind.i64 2)))) (some (88, true)) 8 false true), (AOp.mk (some 91) (AK.mv (AX.t 11)) (some (88, true)) 9 false true), (AOp.mk (some 92) (AK.bin true BinOp.eql (AX.t 90) (AX.t 91)) (some (88, true)) 10 false true), (AOp.mk (some 93) (AK.pick (AX.t 88) (AX.t 92) (AX.c (PV.val (Value.bool false)))) none 11 false true), (AOp.mk (some 94) (AK.mv (AX.t 93)) none 12 false true), (AOp.mk (some 95) (AK.call 25 []) (some (94, true)) 13 false true), (AOp.mk (some 96) (AK.pick (AX.t 94) (AX.t 95) (AX.c (PV.val (Value.bool false)))) none 14 false true), (AOp.mk (some 4) (AK.mv (AX.t 96)) none 15 false true)]) AC.ret))))))))
theorem ac9_ok : cCode Try.prog (fun _ => false) Try.f9.ntmps (Try.f9.body.getD .skip) = some ac9 := by kernel_rfl
theorem known_one {b : DBook} (ho : okBook b) {h p : Nat} (hh : h < b.horses.length) (hp : p < nR b) : decide (((listI (hsI b h p) 4).length : Int) = 1) = !openB (hsI b h p) := by
  rw [open_iff (hs_set ho hh hp), Bool.eq_iff_iff]
  simp only [decide_eq_true_eq, Bool.not_eq_true', decide_eq_false_iff_not]
  omega
theorem pair_ok {b : DBook} (ho : okBook b) {h o : Nat} (hh : h < b.horses.length) (hoo : o < b.horses.length) (hne : h ≠ o) : errI b (okPair b h o) = 0 := by
  unfold errI okPair
  rw [if_pos ho, decide_eq_true (show (0 ≤ (h : Int) ∧ (h : Int) < b.horses.length) ∧ (0 ≤ (o : Int) ∧ (o : Int) < b.horses.length) ∧ (h : Int) ≠ o by omega)]
  rfl
theorem Turns_ok (k : SK) {b : DBook} (ho : okBook b) {h o : Nat} (hh : h < b.horses.length) (hoo : o < b.horses.length) (hne : h ≠ o) : Sem1 18 [.agg (bookC k b), pi h, pi o] (.tup [pis (natL (turnsI b h o)), pi 0]) :=
  (Turns_sem k b h o).mono fun _ e => e.trans (by rw [if_pos (pair_ok ho hh hoo hne), Int.toNat_natCast, Int.toNat_natCast])
theorem Same_ok (k : SK) {b : DBook} (ho : okBook b) {h o : Nat} (hh : h < b.horses.length) (hoo : o < b.horses.length) (hne : h ≠ o) : Sem1 23 [.agg (bookC k b), pi h, pi o] (.tup [pi (sameI b h o), pi 0]) :=
  (Same_sem k b h o).mono fun _ e => e.trans (by rw [if_pos (pair_ok ho hh hoo hne), Int.toNat_natCast, Int.toNat_natCast])
theorem hs_get {b : DBook} (ho : okBook b) {h p : Nat} (hh : h < b.horses.length) (hp : p < nR b) : ∃ hl : p < b.horses[h].length, b.horses[h][p] = hsI b h p := by
  have hH := ho.2.2 _ (List.getElem_mem hh)
  have hq : p < b.horses[h].length := by have := hH.1; have := (okR ho).2.2; omega
  exact ⟨hq, by simp [hsI, List.getD_eq_getElem?_getD, List.getElem?_eq_getElem hh, List.getElem?_eq_getElem hq]⟩
theorem Knowing_law (k : SK) (b : DBook) (n m : Int) : Sem1 9 [.agg (bookC k b), .agg [pi n, pi m]] (pb true) := by
  refine semC_of_exec' mixed Try.func9 (by kernel_rfl) (by kernel_rfl) ac9_ok 2 rfl (by decide) [(.tmp 4)] (by kernel_rfl) ?_
  intro hr C hC hI
  unfold ac9
  simp only [go_sem, Nat.reduceBEq, Nat.reduceAdd]
  refine call_pure2 hC (sound_sem k b) rfl (PVleL_refl _) ?_
  rintro r rfl
  simp only [go_sem, Nat.reduceBEq, Nat.reduceAdd, List.length_map]
  refine ⟨fun ho => ⟨fun h2 => ?_, fun h2 => ?_⟩, fun ho => ?_⟩
  · refine call_pure2 hC (pressed_sem) rfl (PVleL_refl _) ?_
    rintro r rfl
    simp only [go_sem, Nat.reduceBEq]
    exact retQ_one rfl rfl
  rotate_left
  · refine call_pure2 hC (pressed_sem) rfl (PVleL_refl _) ?_
    rintro r rfl
    simp only [go_sem, Nat.reduceBEq]
    exact retQ_one rfl rfl
  obtain ⟨h1, h8, hn⟩ := okR ho
  have h6 := ho.2.1
  obtain ⟨h, o, e1, e2, hh, hoo, hne⟩ := two_range (b := b) (by omega) n m
  refine call_pure2 hC (two_sem k ho (by omega) n m) rfl (PVleL_refl _) ?_
  rintro r rfl
  simp only [go_sem, Nat.reduceBEq, Nat.reduceAdd, e1, e2]
  refine call_pure2 hC (Same_ok k ho hh hoo hne) rfl (PVleL_refl _) ?_
  rintro r rfl
  simp only [go_sem, Nat.reduceBEq, Nat.reduceAdd]
  refine call_pure2 hC (Turns_ok k ho hh hoo hne) rfl (PVleL_refl _) ?_
  rintro r rfl
  simp only [go_sem, Nat.reduceBEq, List.length_map]
  have hT : turnsI b h o ≠ [] ↔ 0 < (natL (turnsI b h o)).length := by
    unfold natL; rw [List.length_map, List.length_pos_iff]
  have h2s := same_two ho hh hoo
  obtain ⟨T, hTe⟩ : ∃ T, natL (turnsI b h o) = T := ⟨_, rfl⟩
  obtain ⟨K, hK⟩ : ∃ K, sameI b h o = K := ⟨_, rfl⟩
  rw [hTe] at hT ⊢
  rw [hK] at h2s ⊢
  let S : Nat → Bool := fun j => decide (0 < T.length) && (List.range j).all fun p => !openB (hsI b h p) && !openB (hsI b o p)
  have hSn : ∀ j, S (j + 1) = (S j && (!openB (hsI b h j) && !openB (hsI b o j))) := by
    intro j
    show (_ && (List.range (j + 1)).all _) = ((_ && (List.range j).all _) && _)
    rw [List.range_succ, List.all_append, List.all_cons, List.all_nil, Bool.and_true, Bool.and_assoc]
  have hSe : S (nR b) = decide (K = 2) := by
    rw [Bool.eq_iff_iff, decide_eq_true_eq, h2s, hT]
    show (decide (0 < T.length) && (List.range (nR b)).all _) = true ↔ _
    rw [Bool.and_eq_true, decide_eq_true_eq, List.all_eq_true]
    refine and_congr Iff.rfl ⟨fun H => ⟨fun p hp => ?_, fun p hp => ?_⟩, fun ⟨k1, k2⟩ p hp => ?_⟩
    · have := H p (List.mem_range.2 hp); simp at this; exact this.1
    · have := H p (List.mem_range.2 hp); simp at this; exact this.2
    · rw [k1 p (List.mem_range.1 hp), k2 p (List.mem_range.1 hp)]; rfl
  have hS0 : decide (0 < (T.length : Int)) = S 0 := by
    show _ = (decide (0 < T.length) && true)
    rw [Bool.and_true]
    exact decide_eq_decide.2 (by omega)
  clear_value S
  have ehh := iadr_map (f := fun h => [pis h]) (kd := k) (sz := 1) hh
  have eoo := iadr_map (f := fun h => [pis h]) (kd := k) (sz := 1) hoo
  refine loop_k (nR b) (fun _ => True) [2, 5, 6, 7, 8, 10] (fun j => [(11, .p (pb (S j))), (12, .p (pi j))]) trivial rfl ⟨rfl, by simp, by simp⟩ (by rw [← hS0]; exact by simp [wkT, look, AV.lo]) ?_
  rintro j ⟨hj, -⟩
  have hSj := hSn j
  simp only [go_sem, Nat.reduceBEq]
  refine ⟨fun h5 => ?_, fun h5 => ?_⟩
  · have hj2 : j < nR b := by omega
    obtain ⟨hl1, hv1⟩ := hs_get ho hh hj2
    obtain ⟨hl2, hv2⟩ := hs_get ho hoo hj2
    have hk1 := known_one ho hh hj2
    have hk2 := known_one ho hoo hj2
    cases hs : S j
    · rw [hs, Bool.false_and] at hSj
      simp only [go_sem, Nat.reduceBEq, wrap_succ (k := j) (by omega)]
      refine ⟨⟨j + 1, hj2, trivial⟩, by simp only; omega, ?_⟩
      simp only [hSj]
      exact by simp [Wk, wkT, wkL, look, AV.lo, AV.lo.loL, ABlk.toZ]
    · rw [hs, Bool.true_and] at hSj
      simp only [go_sem, Nat.reduceBEq, ehh, iadr_pis hl1, hv1]
      refine call_pure2 hC (List_sem (hsI b h j) 4 (by omega)) rfl (PVleL_refl _) ?_
      rintro r rfl
      simp only [go_sem, Nat.reduceBEq, List.length_map]
      refine ⟨fun h9 => ?_, fun h9 => ?_⟩
      · rw [decide_eq_true h9] at hk1
        simp only [go_sem, Nat.reduceBEq, eoo, iadr_pis hl2, hv2]
        refine call_pure2 hC (List_sem (hsI b o j) 4 (by omega)) rfl (PVleL_refl _) ?_
        rintro r rfl
        simp only [go_sem, Nat.reduceBEq, List.length_map, wrap_succ (k := j) (by omega)]
        refine ⟨⟨j + 1, hj2, trivial⟩, by simp only; omega, ?_⟩
        rw [← hk1, Bool.true_and, ← hk2] at hSj
        simp only [hSj]
        exact by simp [Wk, wkT, wkL, look, AV.lo, AV.lo.loL, ABlk.toZ]
      · rw [decide_eq_false h9] at hk1
        simp only [go_sem, wrap_succ (k := j) (by omega)]
        refine ⟨⟨j + 1, hj2, trivial⟩, by simp only; omega, ?_⟩
        rw [← hk1, Bool.false_and] at hSj
        simp only [hSj]
        exact by simp [Wk, wkT, wkL, look, AV.lo, AV.lo.loL, ABlk.toZ]
  · have hjn : j = nR b := by omega
    subst hjn
    rw [hSe]
    simp only [go_sem]
    refine ⟨fun _ => ⟨fun _ => ⟨fun _ => ?_, fun h => h.elim⟩, fun h => h.elim⟩, fun h => h.elim⟩
    refine call_pure2 hC (pressed_sem) rfl (PVleL_refl _) ?_
    rintro r rfl
    simp only [go_sem, Nat.reduceBEq]
    exact retQ_one rfl rfl
set_option maxRecDepth 100000 in
theorem Knowing_row {l0 l1 : List PV} (T0 : Ty Try.prog 10 24 l0) (T1 : Ty Try.prog 10 25 l1) : SemC Try.prog 9 [argPV Try.prog 24 l0, argPV Try.prog 25 l1] (fun r => r = pb true) := by
  obtain ⟨b, rfl⟩ := ty_book T0
  obtain ⟨n0, n1, rfl⟩ := ty_two T1
  rw [argStruct Try.underlying24, argArray Try.underlying25]
  exact Knowing_law .sh b n0 n1
end Go.Proofs.Ythibnlfbdbidjaa
namespace Go.Proofs.Ythibnlfbdbidjaa
open Go.RowKit
/-- A list that grew: nothing yet, or its own. -/
def slG (e : TypeId) (o : Option Nat) (rows : List (List PV)) : PV :=
  match o with
  | none => .sl .full 1 []
  | some t => .sl (.own t e 1) 1 rows
def dropT (o : Option Nat) (L : List Nat) : List Nat := match o with | none => L | some t => L.erase t
theorem app_slG {C : Con} {Q : AEx → AS → Prop} {s : AS} {rd : List Nat} {d : Option Nat} {ops : List AOp} {e : TypeId} {o : Option Nat} {rows : List (List PV)} {k2 : SK} {v : PV} (h0 : o = none → rows = []) (hl : rows.length ≤ 999999) (hlv : ∀ t ∈ o.toList, t ∈ s.live)
    (K : ∀ t, t ∉ s.live → contOps C ops Q rd (({ s with live := t :: dropT o s.live } : AS).put d (.p (slG e (some t) (rows ++ [[v]]))))) : appK false (.p (slG e o rows)) (.p (.sl k2 1 [[v]])) e 1 C rd d ops Q s := by
  cases o with
  | none =>
    have := h0 rfl
    subst this
    exact ⟨.inl rfl, .inl rfl, by simp, trivial, K⟩
  | some t =>
    exact ⟨.inl rfl, .inl rfl, by simp; omega, ⟨hlv t (by simp), rfl, rfl⟩, K⟩
theorem retQ_slG {P : Program} {t : Nat} {R : PV → Prop} {s : AS} {e : TypeId} {o : Option Nat} {rows : List (List PV)} (h0 : o = none → rows = []) (h : look s.t t = .p (slG e o rows)) (hR : R (.sl .sh 1 rows)) : retQ P [.tmp t] R s := by
  cases o with
  | none =>
    have := h0 rfl
    subst this
    exact retQ_le h (PVle.sh _ _ _) hR
  | some t => exact retQ_le h (PVle.sh _ _ _) hR
theorem slG_le {e : TypeId} {o : Option Nat} {rows : List (List PV)} (h0 : o = none → rows = []) : PVle (slG e o rows) (.sl .sh 1 rows) := by
  cases o with
  | none =>
    have := h0 rfl
    subst this
    exact PVle.sh _ _ _
  | some t => exact PVle.sh _ _ _
theorem slG_none (e : TypeId) : slG e none [] = .sl .full 1 [] := rfl
end Go.Proofs.Ythibnlfbdbidjaa
