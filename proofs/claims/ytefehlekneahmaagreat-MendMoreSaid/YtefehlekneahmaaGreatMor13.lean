/- MendMore returns true for everything that it is asked; no condition. MendMore. Slices that are built, and appended to, within a tree. -/
import Derived.Test.YtefehlekneahmaaGreatMor07
import Derived.Test.YtefehlekneahmaaGreatMor12
import Derived.Test.YtefehlekneahmaaGreatMor01
import Derived.Test.YtefehlekneahmaaGreatGa18
namespace Go.Proofs.YtefehlekneahmaaGreat
open Go.RowKit
section
variable {C : Con} {rd : List Nat} {d : Option Nat} {i : Nat} {tk lst : Bool} {s : AS} {K : List Nat → AS → Prop}
def bslG2 (v : Option (List PV)) (sz n : Nat) (d : Option Nat) (s : AS) (K : AS → Prop) : Prop :=
  match v with
  | some l => K (s.put d (.p (.sl .full sz (rows sz n l))))
  | none => False
def bslG (v : Option (List AV)) (sz n : Nat) (d : Option Nat) (s : AS) (K : AS → Prop) : Prop :=
  match v with
  | some cs => bslG2 (pures cs) sz n d s K
  | none => False
theorem gs_bsl {e : TypeId} {sz n : Nat} {z : List PV} {ps : List (Nat × Nat × AX)} : gstep C rd ⟨d, .bslice false e sz n z ps, none, i, tk, lst⟩ s K = bslG (fillA s ps ((repl n z).map .p)) sz n d s (K (bif lst then [] else rd)) := by
  rw [gs_eff rfl]
  simp only [effQ, bslG]
  cases fillA s ps ((repl n z).map .p) with
  | none => rfl
  | some cs =>
    simp only [bslG2]
    cases pures cs <;> rfl
theorem bslG_some {sz n : Nat} {cs : List AV} {K : AS → Prop} : bslG (some cs) sz n d s K = bslG2 (pures cs) sz n d s K := rfl
theorem bslG2_some {sz n : Nat} {l : List PV} {K : AS → Prop} : bslG2 (some l) sz n d s K = K (s.put d (.p (.sl .full sz (rows sz n l)))) := rfl
def appG (v u : AV) (e : TypeId) (sz : Nat) (d : Option Nat) (s : AS) (K : AS → Prop) : Prop :=
  match v, u with
  | .p (.sl k sz1 es), .p (.sl _ sz2 news) => (sz1 = sz ∨ es = []) ∧ (sz2 = sz ∨ news = []) ∧ es.length + news.length ≤ 1000000 ∧ canApp s.live e sz k ∧ ∀ t, t ∉ s.live → K (({ s with live := t :: liveApp s.live k } : AS).put d (.p (.sl (.own t e sz) sz (es ++ news))))
  | _, _ => False
theorem gs_app {e : TypeId} {sz q : Nat} {z : List PV} {x y : AX} : gstep C rd ⟨d, .app false e sz q z x y, none, i, tk, lst⟩ s K = appG (x.ev s) (y.ev s) e sz d s (K (bif lst then [] else rd)) := by
  rw [gs_eff rfl]
  simp only [effQ, appG]
  cases x.ev s with
  | p v =>
    cases v with
    | sl k sz1 es =>
      cases y.ev s with
      | p u => cases u <;> rfl
      | _ => rfl
    | _ => rfl
  | _ => rfl
theorem appG_sl {k k2 : SK} {sz1 sz2 : Nat} {es news : List (List PV)} {e : TypeId} {sz : Nat} {K : AS → Prop} : appG (.p (.sl k sz1 es)) (.p (.sl k2 sz2 news)) e sz d s K = ((sz1 = sz ∨ es = []) ∧ (sz2 = sz ∨ news = []) ∧ es.length + news.length ≤ 1000000 ∧ canApp s.live e sz k ∧ ∀ t, t ∉ s.live → K (({ s with live := t :: liveApp s.live k } : AS).put d (.p (.sl (.own t e sz) sz (es ++ news))))) := rfl
end
end Go.Proofs.YtefehlekneahmaaGreat
namespace Go.Proofs.YtefehlekneahmaaGreat.Mk.Me
open Go.RowKit Ls
def ac11 : AC := (AC.seq (AC.ops [(AOp.mk (some 3) (AK.box 8 (AX.t 0)) none 0 false true), (AOp.mk (some 4) (AK.box 2 (AX.t 1)) none 1 false true), (AOp.mk (some 5) (AK.box 2 (AX.t 2)) none 2 false true), (AOp.mk (some 6) (AK.mv (AX.c (PV.val (Value.bool false)))) none 3 false true)]) (AC.seq (AC.seq (AC.ops [(AOp.mk (some 24) (AK.ld (some 8) (AX.t 3)) none 0 false true), (AOp.mk (some 25) (AK.call 39 [(AX.t 24)]) none 1 false true), (AOp.mk (some 26) (AK.un UnOp.not (AX.t 25)) none 2 false true), (AOp.mk (some 27) (AK.mv (AX.t 26)) none 3 false true), (AOp.mk (some 28) (AK.fadr 0 (AX.t 3)) (some (27, false)) 4 false true), (AOp.mk (some 29) (AK.fadr 1 (AX.t 28)) (some (27, false)) 5 false true), (AOp.mk (some 30) (AK.ld none (AX.t 29)) (some (27, false)) 6 false true), (AOp.mk (some 31) (AK.len (AX.t 30)) (some (27, false)) 7 false true), (AOp.mk (some 32) (AK.bin false BinOp.eql (AX.t 31) (AX.c (PV.val (Value.int IntKind.i64 8)))) (some (27, false)) 8 false true), (AOp.mk (some 33) (AK.pick (AX.t 27) (AX.c (PV.val (Value.bool true))) (AX.t 32)) none 9 false true)]) (AC.cond (AX.t 33) (AC.seq (AC.ops [(AOp.mk (some 34) (AK.call 29 []) none 0 false true), (AOp.mk (some 6) (AK.mv (AX.t 34)) none 1 false true)]) AC.ret) AC.skip)) (AC.seq (AC.ops [(AOp.mk (some 35) (AK.ld (some 8) (AX.t 3)) none 0 false true), (AOp.mk (some 7) (AK.new (PV.agg [(PV.sl SK.full 0 []), (PV.sl SK.full 0 []), (PV.val (Value.int IntKind.i64 0)), (PV.val (Value.int IntKind.i64 0)), (PV.sl SK.full 0 []), (PV.val (Value.int IntKind.i64 0)), (PV.sl SK.full 0 []), (PV.sl SK.full 0 [])])) none 1 false true), (AOp.mk none (AK.st 8 (AX.t 7) (AX.t 35)) none 2 false true)]) (AC.seq (AC.tree (AT.op (AOp.mk (some 36) (AK.iadrA 1 2 (AX.t 4) (AX.c (PV.val (Value.int IntKind.i64 0)))) none 0 true false) (AT.op (AOp.mk (some 37) (AK.ld none (AX.t 36)) none 1 true false) (AT.op (AOp.mk (some 38) (AK.fadr 0 (AX.t 3)) none 2 true false) (AT.op (AOp.mk (some 39) (AK.fadr 0 (AX.t 38)) none 3 true false) (AT.op (AOp.mk (some 40) (AK.ld none (AX.t 39)) none 4 true false) (AT.op (AOp.mk (some 41) (AK.iadrS 1 (AX.t 40) (AX.c (PV.val (Value.int IntKind.i64 0)))) none 5 true false) (AT.op (AOp.mk (some 42) (AK.ld none (AX.t 41)) none 6 true false) (AT.op (AOp.mk (some 43) (AK.len (AX.t 42)) none 7 true false) (AT.op (AOp.mk (some 45) (AK.iadrA 1 2 (AX.t 4) (AX.c (PV.val (Value.int IntKind.i64 1)))) none 9 true false) (AT.op (AOp.mk (some 46) (AK.ld none (AX.t 45)) none 10 true false) (AT.fk (AOp.mk (some 44) (AK.call 48 [(AX.t 37), (AX.t 43)]) none 8 false false) (AOp.mk (some 8) (AK.new (PV.agg [(PV.val (Value.int IntKind.i64 0)), (PV.val (Value.int IntKind.i64 0))])) none 14 false false) (AT.fk (AOp.mk (some 47) (AK.call 48 [(AX.t 46), (AX.c (PV.val (Value.int IntKind.i64 31)))]) none 11 false false) (AOp.mk (some 8) (AK.new (PV.agg [(PV.val (Value.int IntKind.i64 0)), (PV.val (Value.int IntKind.i64 0))])) none 14 false false) (AT.op (AOp.mk (some 48) (AK.bin false BinOp.add (AX.c (PV.val (Value.int IntKind.i64 1))) (AX.t 47)) none 12 true false) (AT.op (AOp.mk (some 49) (AK.build [(PV.val (Value.int IntKind.i64 0)), (PV.val (Value.int IntKind.i64 0))] [(0, (1, (AX.t 44))), (1, (1, (AX.t 48)))]) none 13 true false) (AT.op (AOp.mk (some 8) (AK.new (PV.agg [(PV.val (Value.int IntKind.i64 0)), (PV.val (Value.int IntKind.i64 0))])) none 14 false false) (AT.op (AOp.mk none (AK.st 2 (AX.t 8) (AX.t 49)) none 15 false true) AT.fin)))) (AT.op (AOp.mk (some 47) (AK.call 48 [(AX.t 46), (AX.c (PV.val (Value.int IntKind.i64 31)))]) none 11 false false) (AT.op (AOp.mk (some 48) (AK.bin false BinOp.add (AX.c (PV.val (Value.int IntKind.i64 1))) (AX.t 47)) none 12 true false) (AT.op (AOp.mk (some 49) (AK.build [(PV.val (Value.int IntKind.i64 0)), (PV.val (Value.int IntKind.i64 0))] [(0, (1, (AX.t 44))), (1, (1, (AX.t 48)))]) none 13 true false) (AT.op (AOp.mk none (AK.st 2 (AX.t 8) (AX.t 49)) none 15 false true) AT.fin))))) (AT.op (AOp.mk (some 44) (AK.call 48 [(AX.t 37), (AX.t 43)]) none 8 false false) (AT.op (AOp.mk (some 47) (AK.call 48 [(AX.t 46), (AX.c (PV.val (Value.int IntKind.i64 31)))]) none 11 false false) (AT.op (AOp.mk (some 48) (AK.bin false BinOp.add (AX.c (PV.val (Value.int IntKind.i64 1))) (AX.t 47)) none 12 true false) (AT.op (AOp.mk (some 49) (AK.build [(PV.val (Value.int IntKind.i64 0)), (PV.val (Value.int IntKind.i64 0))] [(0, (1, (AX.t 44))), (1, (1, (AX.t 48)))]) none 13 true false) (AT.op (AOp.mk none (AK.st 2 (AX.t 8) (AX.t 49)) none 15 false true) AT.fin))))))))))))))))) (AC.seq (AC.tree (AT.op (AOp.mk (some 51) (AK.fadr 0 (AX.t 3)) none 1 true false) (AT.op (AOp.mk (some 52) (AK.fadr 1 (AX.t 51)) none 2 true false) (AT.op (AOp.mk (some 53) (AK.ld none (AX.t 52)) none 3 true false) (AT.op (AOp.mk (some 55) (AK.ld (some 2) (AX.t 8)) none 5 true false) (AT.fk (AOp.mk (some 50) (AK.bslice false 68 2 0 [(PV.val (Value.int IntKind.i64 0)), (PV.val (Value.int IntKind.i64 0))] []) none 0 false false) (AOp.mk (some 56) (AK.bslice false 68 2 1 [(PV.val (Value.int IntKind.i64 0)), (PV.val (Value.int IntKind.i64 0))] [(0, (2, (AX.t 55)))]) none 6 false false) (AT.fk (AOp.mk (some 54) (AK.app false 68 2 16 [(PV.val (Value.int IntKind.i64 0)), (PV.val (Value.int IntKind.i64 0))] (AX.t 50) (AX.t 53)) none 4 false false) (AOp.mk (some 56) (AK.bslice false 68 2 1 [(PV.val (Value.int IntKind.i64 0)), (PV.val (Value.int IntKind.i64 0))] [(0, (2, (AX.t 55)))]) none 6 false false) (AT.op (AOp.mk (some 56) (AK.bslice false 68 2 1 [(PV.val (Value.int IntKind.i64 0)), (PV.val (Value.int IntKind.i64 0))] [(0, (2, (AX.t 55)))]) none 6 false false) (AT.op (AOp.mk (some 57) (AK.app false 68 2 16 [(PV.val (Value.int IntKind.i64 0)), (PV.val (Value.int IntKind.i64 0))] (AX.t 54) (AX.t 56)) none 7 false true) (AT.op (AOp.mk (some 58) (AK.fadr 0 (AX.t 7)) none 8 true false) (AT.op (AOp.mk (some 59) (AK.fadr 1 (AX.t 58)) none 9 true false) (AT.op (AOp.mk none (AK.st 1 (AX.t 59) (AX.t 57)) none 10 false true) AT.fin))))) (AT.op (AOp.mk (some 54) (AK.app false 68 2 16 [(PV.val (Value.int IntKind.i64 0)), (PV.val (Value.int IntKind.i64 0))] (AX.t 50) (AX.t 53)) none 4 false false) (AT.op (AOp.mk (some 57) (AK.app false 68 2 16 [(PV.val (Value.int IntKind.i64 0)), (PV.val (Value.int IntKind.i64 0))] (AX.t 54) (AX.t 56)) none 7 false true) (AT.op (AOp.mk (some 58) (AK.fadr 0 (AX.t 7)) none 8 true false) (AT.op (AOp.mk (some 59) (AK.fadr 1 (AX.t 58)) none 9 true false) (AT.op (AOp.mk none (AK.st 1 (AX.t 59) (AX.t 57)) none 10 false true) AT.fin)))))) (AT.op (AOp.mk (some 50) (AK.bslice false 68 2 0 [(PV.val (Value.int IntKind.i64 0)), (PV.val (Value.int IntKind.i64 0))] []) none 0 false false) (AT.op (AOp.mk (some 54) (AK.app false 68 2 16 [(PV.val (Value.int IntKind.i64 0)), (PV.val (Value.int IntKind.i64 0))] (AX.t 50) (AX.t 53)) none 4 false false) (AT.op (AOp.mk (some 57) (AK.app false 68 2 16 [(PV.val (Value.int IntKind.i64 0)), (PV.val (Value.int IntKind.i64 0))] (AX.t 54) (AX.t 56)) none 7 false true) (AT.op (AOp.mk (some 58) (AK.fadr 0 (AX.t 7)) none 8 true false) (AT.op (AOp.mk (some 59) (AK.fadr 1 (AX.t 58)) none 9 true false) (AT.op (AOp.mk none (AK.st 1 (AX.t 59) (AX.t 57)) none 10 false true) AT.fin)))))))))))) (AC.seq (AC.ops [(AOp.mk (some 61) (AK.ld (some 8) (AX.t 3)) none 0 false true), (AOp.mk (some 62) (AK.call 30 [(AX.t 61)]) none 1 false true), (AOp.mk (some 60) (AK.mv (AX.t 62)) none 2 false true), (AOp.mk (some 63) (AK.ext (AX.t 60) 0) none 3 false true), (AOp.mk (some 64) (AK.ext (AX.t 60) 1) none 4 false true), (AOp.mk (some 9) (AK.new (PV.agg [(PV.val (Value.int IntKind.i64 0)), (PV.val (Value.int IntKind.i64 0))])) none 5 false true), (AOp.mk none (AK.st 2 (AX.t 9) (AX.t 63)) none 6 false true), (AOp.mk (some 10) (AK.mv (AX.t 64)) none 7 false true)]) (AC.seq (AC.ops [(AOp.mk (some 66) (AK.ld (some 8) (AX.t 7)) none 0 false true), (AOp.mk (some 67) (AK.call 30 [(AX.t 66)]) none 1 false true), (AOp.mk (some 65) (AK.mv (AX.t 67)) none 2 false true), (AOp.mk (some 68) (AK.ext (AX.t 65) 0) none 3 false true), (AOp.mk (some 69) (AK.ext (AX.t 65) 1) none 4 false true), (AOp.mk (some 11) (AK.new (PV.agg [(PV.val (Value.int IntKind.i64 0)), (PV.val (Value.int IntKind.i64 0))])) none 5 false true), (AOp.mk none (AK.st 2 (AX.t 11) (AX.t 68)) none 6 false true), (AOp.mk (some 12) (AK.mv (AX.t 69)) none 7 false true)]) (AC.seq (AC.seq (AC.ops [(AOp.mk (some 70) (AK.mv (AX.t 12)) none 0 false true), (AOp.mk (some 71) (AK.bin false BinOp.neq (AX.t 70) (AX.c (PV.val (Value.int IntKind.i64 0)))) none 1 false true)]) (AC.cond (AX.t 71) (AC.seq (AC.ops [(AOp.mk (some 72) (AK.mv (AX.t 12)) none 0 false true), (AOp.mk (some 73) (AK.bin false BinOp.eql (AX.t 72) (AX.c (PV.val (Value.int IntKind.i64 82)))) none 1 false true), (AOp.mk (some 74) (AK.mv (AX.t 73)) none 2 false true), (AOp.mk (some 75) (AK.mv (AX.t 10)) (some (74, true)) 3 false true), (AOp.mk (some 76) (AK.bin false BinOp.eql (AX.t 75) (AX.c (PV.val (Value.int IntKind.i64 0)))) (some (74, true)) 4 false true), (AOp.mk (some 77) (AK.mv (AX.t 76)) (some (74, true)) 5 false true), (AOp.mk (some 78) (AK.mv (AX.t 10)) (some (77, false)) 6 false true), (AOp.mk (some 79) (AK.mv (AX.t 12)) (some (77, false)) 7 false true), (AOp.mk (some 80) (AK.bin false BinOp.eql (AX.t 78) (AX.t 79)) (some (77, false)) 8 false true), (AOp.mk (some 81) (AK.pick (AX.t 77) (AX.c (PV.val (Value.bool true))) (AX.t 80)) (some (74, true)) 9 false true), (AOp.mk (some 82) (AK.pick (AX.t 74) (AX.t 81) (AX.c (PV.val (Value.bool false)))) none 10 false true), (AOp.mk (some 83) (AK.mv (AX.t 82)) none 11 false true), (AOp.mk (some 84) (AK.call 29 []) (some (83, true)) 12 false true), (AOp.mk (some 85) (AK.pick (AX.t 83) (AX.t 84) (AX.c (PV.val (Value.bool false)))) none 13 false true), (AOp.mk (some 6) (AK.mv (AX.t 85)) none 14 false true)]) AC.ret) AC.skip)) (AC.seq (AC.ops [(AOp.mk (some 86) (AK.iadrA 1 2 (AX.t 5) (AX.c (PV.val (Value.int IntKind.i64 0)))) none 0 false true), (AOp.mk (some 87) (AK.ld none (AX.t 86)) none 1 false true), (AOp.mk (some 88) (AK.fadr 4 (AX.t 3)) none 2 false true), (AOp.mk (some 89) (AK.ld none (AX.t 88)) none 3 false true), (AOp.mk (some 90) (AK.len (AX.t 89)) none 4 false true), (AOp.mk (some 91) (AK.call 48 [(AX.t 87), (AX.t 90)]) none 5 false true), (AOp.mk (some 13) (AK.mv (AX.t 91)) none 6 false true)]) (AC.seq (AC.ops [(AOp.mk (some 93) (AK.ld (some 8) (AX.t 3)) none 0 false true), (AOp.mk (some 94) (AK.mv (AX.t 13)) none 1 false true), (AOp.mk (some 95) (AK.call 19 [(AX.t 93), (AX.t 94)]) none 2 false true), (AOp.mk (some 92) (AK.mv (AX.t 95)) none 3 false true), (AOp.mk (some 96) (AK.ext (AX.t 92) 0) none 4 false true), (AOp.mk (some 97) (AK.ext (AX.t 92) 1) none 5 false true), (AOp.mk (some 14) (AK.new (PV.agg [(PV.val (Value.int IntKind.i64 0)), (PV.val (Value.int IntKind.i64 0))])) none 6 false true), (AOp.mk none (AK.st 2 (AX.t 14) (AX.t 96)) none 7 false true), (AOp.mk (some 15) (AK.mv (AX.t 97)) none 8 false true)]) (AC.seq (AC.ops [(AOp.mk (some 99) (AK.ld (some 8) (AX.t 7)) none 0 false true), (AOp.mk (some 100) (AK.mv (AX.t 13)) none 1 false true), (AOp.mk (some 101) (AK.call 19 [(AX.t 99), (AX.t 100)]) none 2 false true), (AOp.mk (some 98) (AK.mv (AX.t 101)) none 3 false true), (AOp.mk (some 102) (AK.ext (AX.t 98) 0) none 4 false true), (AOp.mk (some 103) (AK.ext (AX.t 98) 1) none 5 false true), (AOp.mk (some 16) (AK.new (PV.agg [(PV.val (Value.int IntKind.i64 0)), (PV.val (Value.int IntKind.i64 0))])) none 6 false true), (AOp.mk none (AK.st 2 (AX.t 16) (AX.t 102)) none 7 false true), (AOp.mk (some 17) (AK.mv (AX.t 103)) none 8 false true)]) (AC.seq (AC.seq (AC.ops [(AOp.mk (some 104) (AK.mv (AX.t 10)) none 0 false true), (AOp.mk (some 105) (AK.bin false BinOp.neq (AX.t 104) (AX.c (PV.val (Value.int IntKind.i64 0)))) none 1 false true), (AOp.mk (some 106) (AK.mv (AX.t 105)) none 2 false true), (AOp.mk (some 107) (AK.mv (AX.t 15)) (some (106, false)) 3 false true), (AOp.mk (some 108) (AK.bin false BinOp.neq (AX.t 107) (AX.c (PV.val (Value.int IntKind.i64 0)))) (some (106, false)) 4 false true), (AOp.mk (some 109) (AK.pick (AX.t 106) (AX.c (PV.val (Value.bool true))) (AX.t 108)) none 5 false true), (AOp.mk (some 110) (AK.mv (AX.t 109)) none 6 false true), (AOp.mk (some 111) (AK.mv (AX.t 17)) (some (110, false)) 7 false true), (AOp.mk (some 112) (AK.bin false BinOp.neq (AX.t 111) (AX.c (PV.val (Value.int IntKind.i64 0)))) (some (110, false)) 8 false true), (AOp.mk (some 113) (AK.pick (AX.t 110) (AX.c (PV.val (Value.bool true))) (AX.t 112)) none 9 false true), (AOp.mk (some 114) (AK.mv (AX.t 113)) none 10 false true), (AOp.mk (some 115) (AK.ld (some 2) (AX.t 9)) (some (114, false)) 11 false true), (AOp.mk (some 116) (AK.ld (some 2) (AX.t 11)) (some (114, false)) 12 false true), (AOp.mk (some 117) (AK.call 53 [(AX.t 115), (AX.t 116)]) (some (114, false)) 13 false true), (AOp.mk (some 118) (AK.un UnOp.not (AX.t 117)) (some (114, false)) 14 false true), (AOp.mk (some 119) (AK.pick (AX.t 114) (AX.c (PV.val (Value.bool true))) (AX.t 118)) none 15 false true), (AOp.mk (some 120) (AK.mv (AX.t 119)) none 16 false true), (AOp.mk (some 121) (AK.ld (some 2) (AX.t 14)) (some (120, false)) 17 false true), (AOp.mk (some 122) (AK.ld (some 2) (AX.t 16)) (some (120, false)) 18 false true), (AOp.mk (some 123) (AK.call 53 [(AX.t 121), (AX.t 122)]) (some (120, false)) 19 false true), (AOp.mk (some 124) (AK.un UnOp.not (AX.t 123)) (some (120, false)) 20 false true), (AOp.mk (some 125) (AK.pick (AX.t 120) (AX.c (PV.val (Value.bool true))) (AX.t 124)) none 21 false true), (AOp.mk (some 126) (AK.mv (AX.t 125)) none 22 false true), (AOp.mk (some 127) (AK.fadr 0 (AX.t 11)) (some (126, false)) 23 false true), (AOp.mk (some 128) (AK.ld none (AX.t 127)) (some (126, false)) 24 false true), (AOp.mk (some 129) (AK.fadr 1 (AX.t 11)) (some (126, false)) 25 false true), (AOp.mk (some 130) (AK.ld none (AX.t 129)) (some (126, false)) 26 false true), (AOp.mk (some 131) (AK.bin false BinOp.gtr (AX.t 128) (AX.t 130)) (some (126, false)) 27 false true), (AOp.mk (some 132) (AK.pick (AX.t 126) (AX.c (PV.val (Value.bool true))) (AX.t 131)) none 28 false true)]) (AC.cond (AX.t 132) (AC.seq (AC.ops [(AOp.mk (some 6) (AK.mv (AX.c (PV.val (Value.bool false)))) none 0 false true)]) AC.ret) AC.skip)) (AC.seq (AC.ops [(AOp.mk (some 133) (AK.ld (some 2) (AX.t 11)) none 0 false true), (AOp.mk (some 134) (AK.iadrA 1 2 (AX.t 5) (AX.c (PV.val (Value.int IntKind.i64 1)))) none 1 false true), (AOp.mk (some 135) (AK.ld none (AX.t 134)) none 2 false true), (AOp.mk (some 136) (AK.call 43 [(AX.t 133), (AX.t 135)]) none 3 false true), (AOp.mk (some 18) (AK.mv (AX.t 136)) none 4 false true)]) (AC.seq (AC.ops [(AOp.mk (some 138) (AK.ld (some 8) (AX.t 3)) none 0 false true), (AOp.mk (some 139) (AK.mv (AX.t 18)) none 1 false true), (AOp.mk (some 140) (AK.call 34 [(AX.t 138), (AX.t 139)]) none 2 false true), (AOp.mk (some 137) (AK.mv (AX.t 140)) none 3 false true), (AOp.mk (some 141) (AK.ext (AX.t 137) 0) none 4 false true), (AOp.mk (some 142) (AK.ext (AX.t 137) 1) none 5 false true), (AOp.mk (some 19) (AK.mv (AX.t 141)) none 6 false true), (AOp.mk (some 20) (AK.mv (AX.t 142)) none 7 false true)]) (AC.seq (AC.ops [(AOp.mk (some 144) (AK.ld (some 8) (AX.t 7)) none 0 false true), (AOp.mk (some 145) (AK.mv (AX.t 18)) none 1 false true), (AOp.mk (some 146) (AK.call 34 [(AX.t 144), (AX.t 145)]) none 2 false true), (AOp.mk (some 143) (AK.mv (AX.t 146)) none 3 false true), (AOp.mk (some 147) (AK.ext (AX.t 143) 0) none 4 false true), (AOp.mk (some 148) (AK.ext (AX.t 143) 1) none 5 false true), (AOp.mk (some 21) (AK.mv (AX.t 147)) none 6 false true), (AOp.mk (some 22) (AK.mv (AX.t 148)) none 7 false true)]) (AC.seq (AC.seq (AC.ops [(AOp.mk (some 23) (AK.mv (AX.c (PV.val (Value.int IntKind.i64 0)))) none 0 false true)]) (AC.block 0 (AC.loop (AC.seq (AC.seq (AC.ops [(AOp.mk (some 149) (AK.mv (AX.t 23)) none 0 false true), (AOp.mk (some 150) (AK.mv (AX.t 21)) none 1 false true), (AOp.mk (some 151) (AK.len (AX.t 150)) none 2 false true), (AOp.mk (some 152) (AK.bin false BinOp.lss (AX.t 149) (AX.t 151)) none 3 false true)]) (AC.cond (AX.t 152) AC.skip (AC.exit 0))) (AC.seq (AC.block 1 (AC.seq (AC.ops [(AOp.mk (some 155) (AK.mv (AX.t 19)) none 0 false true), (AOp.mk (some 156) (AK.mv (AX.t 21)) none 1 false true), (AOp.mk (some 157) (AK.mv (AX.t 23)) none 2 false true), (AOp.mk (some 158) (AK.iadrS 1 (AX.t 156) (AX.t 157)) none 3 false true), (AOp.mk (some 159) (AK.ld none (AX.t 158)) none 4 false true), (AOp.mk (some 160) (AK.call 47 [(AX.t 155), (AX.t 159)]) none 5 false true), (AOp.mk (some 161) (AK.bin false BinOp.lss (AX.t 160) (AX.c (PV.val (Value.int IntKind.i64 0)))) none 6 false true)]) (AC.cond (AX.t 161) (AC.seq (AC.ops [(AOp.mk (some 6) (AK.mv (AX.c (PV.val (Value.bool false)))) none 0 false true)]) AC.ret) AC.skip))) (AC.ops [(AOp.mk (some 153) (AK.mv (AX.t 23)) none 0 false true), (AOp.mk (some 154) (AK.bin false BinOp.add (AX.t 153) (AX.c (PV.val (Value.int IntKind.i64 1)))) none 1 false true), (AOp.mk (some 23) (AK.mv (AX.t 154)) none 2 false true)])))))) (AC.seq (AC.ops [(AOp.mk (some 162) (AK.mv (AX.t 20)) none 0 false true), (AOp.mk (some 163) (AK.bin false BinOp.eql (AX.t 162) (AX.c (PV.val (Value.int IntKind.i64 0)))) none 1 false true), (AOp.mk (some 164) (AK.mv (AX.t 163)) none 2 false true), (AOp.mk (some 165) (AK.mv (AX.t 22)) (some (164, true)) 3 false true), (AOp.mk (some 166) (AK.bin false BinOp.eql (AX.t 165) (AX.c (PV.val (Value.int IntKind.i64 0)))) (some (164, true)) 4 false true), (AOp.mk (some 167) (AK.pick (AX.t 164) (AX.t 166) (AX.c (PV.val (Value.bool false)))) none 5 false true), (AOp.mk (some 168) (AK.mv (AX.t 167)) none 6 false true), (AOp.mk (some 169) (AK.call 29 []) (some (168, true)) 7 false true), (AOp.mk (some 170) (AK.pick (AX.t 168) (AX.t 169) (AX.c (PV.val (Value.bool false)))) none 8 false true), (AOp.mk (some 6) (AK.mv (AX.t 170)) none 9 false true)]) AC.ret)))))))))))))))))
theorem ac11_ok : cCode Tryz.prog (fun _ => false) Tryz.f11.ntmps (Tryz.f11.body.getD .skip) = some ac11 := by kernel_rfl
theorem filt_lt {p q : Nat → Bool} {k : Nat} : ∀ {n : Nat}, (∀ i, i < n → p i = true → q i = true) → k < n → p k = false → q k = true → ((List.range n).filter p).length < ((List.range n).filter q).length
  | 0, _, h, _, _ => absurd h (by omega)
  | n + 1, h, hk, hp, hq => by
    rw [List.range_succ, List.filter_append, List.filter_append, List.length_append, List.length_append]
    by_cases e : k = n
    · subst e
      have h1 : ((List.range k).filter p).length ≤ ((List.range k).filter q).length := filt_le fun i hi hpi => h i (by omega) hpi
      simp only [List.filter_cons, List.filter_nil, hp, hq]
      simp
      omega
    · have h1 := filt_lt (n := n) (fun i hi => h i (by omega)) (by omega) hp hq
      have h2 : ([n].filter p).length ≤ ([n].filter q).length := by
        simp only [List.filter_cons, List.filter_nil]
        cases hpn : p n
        · simp
        · rw [h n (by omega) hpn]
          simp
      omega
theorem subZero {x b : MBook} (h : Sub x b) {m k : Nat} (hz : zeroB b m k = true) : zeroB x m k = true := by
  unfold zeroB at *
  rw [decide_eq_true_eq] at *
  refine Classical.byContradiction fun hn => ?_
  obtain ⟨i, hi⟩ := ne_bit.1 hn
  refine ne_bit.2 ⟨i, ?_⟩ hz
  unfold ownN at *
  rw [Nat.testBit_and, Bool.and_eq_true] at *
  exact ⟨by rw [← h.mark]; exact hi.1, h.seen k i hi.2⟩
theorem subCset {x b : MBook} (h : Sub x b) {m s : Nat} (hp : possB x m = true) (hs : CSet x m s) : CSet b m s := by
  have hk := h.kinds
  obtain ⟨-, hf, hz⟩ := poss_eq.1 hp
  have hr := h.repairs
  refine ⟨fun q hq hzq => hs.must q (by rw [hk]; exact hq) (subZero h hzq), fun q hq => ?_, by have := hs.cnt; rw [hk] at this; omega⟩
  obtain ⟨h1, h2⟩ := hs.can q hq
  rw [hk] at h1
  refine ⟨h1, ?_⟩
  have hle : zeros b m ≤ zeros x m := by
    unfold zeros
    rw [hk]
    exact filt_le fun i _ hi => subZero h hi
  have hfx : fixN x = fixN b := by unfold fixN; rw [h.fixed]
  unfold canQ at *
  cases hb : zeroB b m q
  · rw [Bool.false_or, Bool.and_eq_true, decide_eq_true_eq]
    cases hx : zeroB x m q
    · rw [hx, Bool.false_or, Bool.and_eq_true, decide_eq_true_eq, hfx] at h2
      exact ⟨h2.1, by omega⟩
    · have hlt : zeros b m < zeros x m := by
        unfold zeros
        rw [hk]
        exact filt_lt (fun i _ hi => subZero h hi) h1 hb hx
      unfold freeB at hf
      rw [List.all_eq_true] at hf
      have h3 := hf q (List.mem_range.2 (by rw [hk]; exact h1))
      rw [hx, Bool.true_and, hfx] at h3
      exact ⟨h3, by omega⟩
  · rfl
def moreE (b : EBook) (mk : Int × Int) : EBook := { b with mb := { b.mb with seen := b.mb.seen ++ [mk] } }
theorem more_sub (b : EBook) (mk : Int × Int) : Sub (moreE b mk).mb b.mb := sub_more b.mb [mk]
theorem okE.more {b : EBook} (h : okE b) (h8 : ¬ b.mb.seen.length = 8) {mk : Int × Int} (h1 : 0 ≤ mk.1 ∧ mk.1 < (nK b.mb : Int)) (h2 : 1 ≤ mk.2 ∧ mk.2 ≤ 31) : okE (moreE b mk) := by
  obtain ⟨⟨⟨g1, g2, g3, g4, g5⟩, g6⟩, h⟩ := h
  refine ⟨⟨⟨g1, g2, g3, fun m hm => ?_, g5⟩, ?_⟩, h⟩
  · rcases List.mem_append.1 hm with hm | hm
    · exact g4 m hm
    · rw [List.mem_singleton.1 hm]
      exact ⟨h1, h2⟩
  · show (b.mb.seen ++ [mk]).length ≤ 8
    rw [List.length_append, List.length_singleton]
    omega
theorem more_known {b : EBook} (ho : okE b) {mk : Int × Int} {t : Nat × Nat} (h : t ∈ known (moreE b mk)) : t ∈ known b := by
  have h6 := ho.1.1.2.1.2
  obtain ⟨m, s⟩ := t
  obtain ⟨c, h1, h2, h3⟩ := (mem_known (b := moreE b mk) h6).1 h
  exact (mem_known h6).2 ⟨c, (more_sub b mk).who h1, subCset (more_sub b mk) (mem_who.1 h1).2 h2, h3⟩
theorem more_out {b : EBook} (ho : okE b) {mk : Int × Int} (hne : known (moreE b mk) ≠ []) (w : Nat) (js : List Job) : outI true b w js ≤ outI true (moreE b mk) w js ∧ outI false (moreE b mk) w js ≤ outI false b w js := by
  have hneb : known b ≠ [] := fun e => by
    obtain ⟨t, l, h⟩ := List.exists_cons_of_ne_nil hne
    have := more_known ho (mk := mk) (t := t) (by rw [h]; exact List.mem_cons_self ..)
    rw [e] at this
    cases this
  obtain ⟨⟨t, ht, h1⟩, -⟩ := low_facts hne w js
  obtain ⟨⟨u, hu, h2⟩, -⟩ := high_facts hne w js
  have h3 := (low_facts hneb w js).2 t (more_known ho ht)
  have h4 := (high_facts hneb w js).2 u (more_known ho hu)
  have e1 : jobsI true (moreE b mk) w js t = jobsI true b w js t := rfl
  have e2 : jobsI false (moreE b mk) w js u = jobsI false b w js u := rfl
  omega
theorem more_can (b : EBook) (mk : Int × Int) (t : Nat × Nat) (p : Int) : ∀ (js : List Job) (lo hi : Int), canF (moreE b mk) t p js lo hi = canF b t p js lo hi
  | [], _, _ => rfl
  | j :: js, lo, hi => by
    unfold canF
    refine congrArg _ (funext fun q => ?_)
    rw [more_can b mk t p js]
    rfl
theorem more_whose {b : EBook} (ho : okE b) {mk : Int × Int} {p : Int} {m : Nat} (h : m ∈ whoseL (moreE b mk) p) : m ∈ whoseL b p := by
  obtain ⟨s, h1, h2⟩ := mem_whose.1 h
  refine mem_whose.2 ⟨s, more_known ho h1, ?_⟩
  unfold canP at *
  rw [← more_can b mk]
  exact h2
set_option maxRecDepth 50000 in
set_option maxHeartbeats 4000000 in
theorem More_law (κ : KS) (b : EBook) (m0 m1 n0 n1 : Int) : Sem1 11 [.agg (ebC κ b), .agg [pi m0, pi m1], .agg [pi n0, pi n1]] (pb true) := by
  by_cases ho : okE b
  rotate_left
  · refine semC_of_exec' mixed Tryz.func11 (by kernel_rfl) (by kernel_rfl) ac11_ok 3 rfl (by decide) [(.tmp 6)] (by kernel_rfl) ?_
    intro hr C hC hI
    unfold ac11
    simp only [go_sem, Nat.reduceBEq, Nat.reduceAdd]
    refine call_pure2 hC (sound_sem κ b) rfl (PVleL_refl _) ?_
    rintro r rfl
    simp only [go_sem, Nat.reduceBEq, decide_eq_false ho]
    refine call_pure2 hC (exs_sem) rfl (PVleL_refl _) ?_
    rintro r rfl
    simp only [go_sem, Nat.reduceBEq]
    exact retQ_one rfl rfl
  by_cases h8 : b.mb.seen.length = 8
  · refine semC_of_exec' mixed Tryz.func11 (by kernel_rfl) (by kernel_rfl) ac11_ok 3 rfl (by decide) [(.tmp 6)] (by kernel_rfl) ?_
    intro hr C hC hI
    unfold ac11
    simp only [go_sem, Nat.reduceBEq, Nat.reduceAdd]
    have h9 : (b.mb.seen.length : Int) = 8 := by omega
    refine call_pure2 hC (sound_sem κ b) rfl (PVleL_refl _) ?_
    rintro r rfl
    simp only [go_sem, Nat.reduceBEq, decide_eq_true ho, List.length_map, eq_true h9, decide_true]
    refine call_pure2 hC (exs_sem) rfl (PVleL_refl _) ?_
    rintro r rfl
    simp only [go_sem, Nat.reduceBEq]
    exact retQ_one rfl rfl
  have h9 : ¬ (b.mb.seen.length : Int) = 8 := by omega
  have h6 := ho.1.1.2.1
  have hr0 := rndI_range (n := m0) (m := (nK b.mb : Int)) (by omega)
  have hr1 := rndI_range (n := m1) (m := 31) (by omega)
  obtain ⟨hz, hfl⟩ := okC.first ho.1.1
  have e0 : iadrS' 1 (.p (.sl κ.a 1 (rowsC b.mb.makers))) (.p (.val (.int .i64 0))) = some (.p (.ptr [pis b.mb.makers[0]] 0)) := iadr_map (f := fun h => [pis h]) (kd := κ.a) (sz := 1) (k := 0) hz
  have hsl : (seenC b.mb.seen).length ≤ 8 := by simpa using ho.1.2
  obtain ⟨r0, e0r⟩ : ∃ r, rndI m0 (nK b.mb : Int) = r := ⟨_, rfl⟩
  obtain ⟨r1, e1r⟩ : ∃ r, 1 + rndI m1 31 = r := ⟨_, rfl⟩
  have w31 : IntKind.i64.wrap (1 + rndI m1 31) = r1 := by rw [wrap_id (by omega) (by omega)]; exact e1r
  have hox : okE (moreE b (r0, r1)) := ho.more h8 (by simp only; omega) (by simp only; omega)
  obtain ⟨k, ek, hk⟩ := rnd_job ho n0
  have hl4 := ho.2.1.2
  have hle : ∀ t, PVle (.agg [.sl κ.a 1 (rowsC b.mb.makers), .sl (.own t 68 2) 2 (seenC b.mb.seen ++ [[pi r0, pi r1]]), pi b.mb.repairs, pi b.mb.fixed, .sl κ.c 6 (jobsC b.jobs), pi b.rate, .sl κ.d 1 (b.extra.map fun x => [pi x]), .sl κ.e 1 (b.coins.map fun x => [pi x])]) (.agg (ebC { κ with b := .sh } (moreE b (r0, r1)))) := fun t => by
    have e : seenC b.mb.seen ++ [[pi r0, pi r1]] = seenC (moreE b (r0, r1)).mb.seen := by simp [moreE]
    rw [e]
    exact PVle.agg (show PVleL [_, _, _, _, _, _, _, _] [_, _, _, _, _, _, _, _] from ⟨PVle.refl _, PVle.sh _ _ _, PVle.refl _, PVle.refl _, PVle.refl _, PVle.refl _, PVle.refl _, PVle.refl _, trivial⟩)
  have hcase : (∃ s1 s2 e : Int, (e = 0 ∨ e = 82) ∧ Sem1 30 [.agg (ebC κ b)] (.tup [psp s1 s2, pi e]) ∧ Sem1 30 [.agg (ebC { κ with b := .sh } (moreE b (r0, r1)))] (.tup [psp 0 0, pi 82])) ∨
      (∃ s1 s2 t1 t2 u1 u2 v1 v2 : Int, (s1 ≤ t1 ∧ t2 ≤ s2) ∧ (u1 ≤ v1 ∧ v2 ≤ u2) ∧ (0 ≤ t1 ∧ t1 ≤ t2 ∧ t2 ≤ 3000) ∧ Sem1 30 [.agg (ebC κ b)] (.tup [psp s1 s2, pi 0]) ∧ Sem1 30 [.agg (ebC { κ with b := .sh } (moreE b (r0, r1)))] (.tup [psp t1 t2, pi 0]) ∧
        Sem1 19 [.agg (ebC κ b), pi k] (.tup [psp u1 u2, pi 0]) ∧ Sem1 19 [.agg (ebC { κ with b := .sh } (moreE b (r0, r1))), pi k] (.tup [psp v1 v2, pi 0]) ∧
        ∀ p, ∃ L W : List Int, (∀ x ∈ W, x ∈ L) ∧ W.length ≤ 320 ∧ Sem1 34 [.agg (ebC κ b), pi p] (.tup [pis L, pi 0]) ∧ Sem1 34 [.agg (ebC { κ with b := .sh } (moreE b (r0, r1))), pi p] (.tup [pis W, pi 0])) := by
    by_cases hwx : whoL (moreE b (r0, r1)).mb = []
    · left
      by_cases hw : whoL b.mb = []
      · exact ⟨0, 0, 82, .inr rfl, Bill_no κ (errF_no ho hw), Bill_no _ (errF_no hox hwx)⟩
      · exact ⟨_, _, 0, .inl rfl, Bill_ok κ (errF_of ho hw), Bill_no _ (errF_no hox hwx)⟩
    · right
      have hw : whoL b.mb ≠ [] := fun e => by
        obtain ⟨m, l, h⟩ := List.exists_cons_of_ne_nil hwx
        have := (more_sub b (r0, r1)).who (m := m) (by rw [h]; exact List.mem_cons_self ..)
        rw [e] at this
        cases this
      have hF := errF_of ho hw
      have hFx := errF_of hox hwx
      have hne := known_ne hwx
      have b1 : 0 ≤ outI true (moreE b (r0, r1)) 1 b.jobs := (out_bound hox hne hox.2.2.2.1 true 1).1
      have b2 : outI false (moreE b (r0, r1)) 1 b.jobs ≤ (b.jobs.length : Int) * 549 := (out_bound hox hne hox.2.2.2.1 false 1).2
      have b4 : outI true (moreE b (r0, r1)) 1 b.jobs ≤ outI false (moreE b (r0, r1)) 1 b.jobs := ends_le hox.rate0 hne (js := b.jobs) (fun j hj => hox.span hj) 1
      refine ⟨_, _, _, _, _, _, _, _, more_out ho hne 1 b.jobs, more_out ho hne 0 [jobN b k], ⟨b1, b4, by omega⟩, Bill_ok κ hF, Bill_ok _ hFx, Job_ok κ hF hk, Job_ok _ hFx hk, fun p => ⟨_, _, fun x hx => ?_, ?_, Whose_ok κ hF p, Whose_ok _ hFx p⟩⟩
      · obtain ⟨m, hm, rfl⟩ := List.mem_map.1 hx
        exact List.mem_map.2 ⟨m, more_whose ho hm, rfl⟩
      · rw [natL_len]
        exact Nat.le_trans (whose_len _ p) (known_len hox.1.1)
  refine semC_of_exec' mixed Tryz.func11 (by kernel_rfl) (by kernel_rfl) ac11_ok 3 rfl (by decide) [(.tmp 6)] (by kernel_rfl) ?_
  intro hr C hC hI
  unfold ac11
  simp only [go_sem, Nat.reduceBEq, Nat.reduceAdd]
  refine call_pure2 hC (sound_sem κ b) rfl (PVleL_refl _) ?_
  rintro r rfl
  simp only [go_sem, Nat.reduceBEq, Nat.reduceAdd, decide_eq_true ho, List.length_map, eq_false h9, putCells, e0, hfl, decide_false, Bool.false_eq_true, not_false_eq_true, gs_newA, gs_stA, gs_bsl, bslG_some, bslG2_some, gs_app, List.map_cons, List.map_nil, true_or, true_and]
  repeat' (first
    | refine And.intro ?_ ?_
    | (refine fun t ht => ?_)
    | omega
    | (refine call_pure2 hC (Round_sem m0 (nK b.mb : Int)) rfl (PVleL_refl _) ?_
       rintro _ rfl
       simp only [go_sem, Nat.reduceBEq, Nat.reduceAdd, e0r])
    | (refine call_pure2 hC (Round_sem m1 31) rfl (PVleL_refl _) ?_
       rintro _ rfl
       simp only [go_sem, Nat.reduceBEq, Nat.reduceAdd, Nat.reduceLeDiff, putCells, w31, stG_loc, stGB_cells, bslG_some, bslG2_some, appG_sl, List.map_cons, List.map_nil, true_or, true_and]))
  all_goals (
    obtain ⟨s1, s2, e, he, c1, c2⟩ | ⟨s1, s2, t1, t2, u1, u2, v1, v2, hst, huv, htt, c1, c2, c3, c4, c5⟩ := hcase
    · rcases he with rfl | rfl
      · refine call_pure2 hC (c1) rfl (PVleL_refl _) ?_
        rintro r rfl
        simp only [go_sem, Nat.reduceBEq, Nat.reduceAdd, putCells]
        refine call_pure2 hC c2 rfl ⟨hle _, trivial⟩ ?_
        rintro _ rfl
        simp only [go_sem, Nat.reduceBEq, Nat.reduceAdd, putCells, decide_true, not_false_eq_true, Int.reduceEq]
        refine call_pure2 hC (exs_sem) rfl (PVleL_refl _) ?_
        rintro r rfl
        simp only [go_sem, Nat.reduceBEq]
        exact retQ_one rfl rfl
      · refine call_pure2 hC (c1) rfl (PVleL_refl _) ?_
        rintro r rfl
        simp only [go_sem, Nat.reduceBEq, Nat.reduceAdd, putCells]
        refine call_pure2 hC c2 rfl ⟨hle _, trivial⟩ ?_
        rintro _ rfl
        simp only [go_sem, Nat.reduceBEq, Nat.reduceAdd, putCells, decide_true, decide_false, not_false_eq_true, Int.reduceEq]
        refine call_pure2 hC (exs_sem) rfl (PVleL_refl _) ?_
        rintro r rfl
        simp only [go_sem, Nat.reduceBEq]
        exact retQ_one rfl rfl
    · obtain ⟨p, hp⟩ : ∃ p, t1 + rndI n1 (t2 - t1 + 1) = p := ⟨_, rfl⟩
      have hAny := Any_sem (a := t1) (b := t2) n1 (by omega) (by omega) htt.2.1
      rw [hp] at hAny
      obtain ⟨L, W, hsub, hW, c6, c7⟩ := c5 p
      have ht0 : ¬ t2 < t1 := by omega
      refine call_pure2 hC (c1) rfl (PVleL_refl _) ?_
      rintro r rfl
      simp only [go_sem, Nat.reduceBEq, Nat.reduceAdd, putCells]
      refine call_pure2 hC c2 rfl ⟨hle _, trivial⟩ ?_
      rintro _ rfl
      simp only [go_sem, Nat.reduceBEq, Nat.reduceAdd, putCells, List.length_map, decide_false, not_true_eq_false, not_false_eq_true]
      refine call_pure2 hC (Round_sem n0 (b.jobs.length : Int)) rfl (PVleL_refl _) ?_
      rintro r rfl
      simp only [go_sem, Nat.reduceBEq, Nat.reduceAdd, ek]
      refine call_pure2 hC (c3) rfl (PVleL_refl _) ?_
      rintro r rfl
      simp only [go_sem, Nat.reduceBEq, Nat.reduceAdd, putCells]
      refine call_pure2 hC c4 rfl ⟨hle _, PVle.refl _, trivial⟩ ?_
      rintro _ rfl
      simp only [go_sem, Nat.reduceBEq, Nat.reduceAdd, putCells, decide_false, not_true_eq_false, not_false_eq_true]
      refine call_pure2 hC (Wraps_sem s1 s2 t1 t2) rfl (PVleL_refl _) ?_
      rintro r rfl
      simp only [go_sem, Nat.reduceBEq, Nat.reduceAdd, decide_eq_true hst]
      refine call_pure2 hC (Wraps_sem u1 u2 v1 v2) rfl (PVleL_refl _) ?_
      rintro r rfl
      simp only [go_sem, Nat.reduceBEq, Nat.reduceAdd, decide_eq_true huv, eq_false ht0, decide_false]
      refine call_pure2 hC hAny rfl (PVleL_refl _) ?_
      rintro _ rfl
      simp only [go_sem, Nat.reduceBEq, Nat.reduceAdd]
      refine call_pure2 hC (c6) rfl (PVleL_refl _) ?_
      rintro r rfl
      simp only [go_sem, Nat.reduceBEq, Nat.reduceAdd]
      refine call_pure2 hC c7 rfl ⟨hle _, PVle.refl _, trivial⟩ ?_
      rintro _ rfl
      simp only [go_sem, Nat.reduceBEq]
      refine loop_k W.length (fun _ => True) [19, 20, 21, 22] (fun c => [(23, .p (pi c))]) trivial rfl ⟨rfl, by simp, by simp⟩ (by simp [wkT, look, AV.lo]) ?_
      rintro c ⟨hc, -⟩
      simp only [go_sem, Nat.reduceBEq, List.length_map]
      refine ⟨fun d6 => ?_, fun d6 => ?_⟩
      · have hc2 : c < W.length := by omega
        simp only [go_sem, Nat.reduceBEq, iadr_pis hc2]
        refine call_pure2 hC (Find_sem L W[c]) rfl (PVleL_refl _) ?_
        rintro r ⟨q, rfl, hq⟩
        have hq0 : ¬ q < 0 := fun h => hq.1 h (hsub _ (List.getElem_mem hc2))
        simp only [go_sem, Nat.reduceBEq, eq_false hq0, wrap_succ (k := c) (by omega), decide_false]
        refine ⟨⟨c + 1, hc2, trivial⟩, by simp only; omega, ?_⟩
        simp [Wk, wkT, wkL, look, AV.lo, AV.lo.loL, ABlk.toZ]
      · simp only [go_sem, decide_true, false_implies, true_implies]
        refine call_pure2 hC (exs_sem) rfl (PVleL_refl _) ?_
        rintro r rfl
        simp only [go_sem, Nat.reduceBEq]
        exact retQ_one rfl rfl)
set_option maxRecDepth 100000 in
theorem More_row {l0 l1 l2 : List PV} (T0 : Ty Tryz.prog 10 29 l0) (T1 : Ty Tryz.prog 10 47 l1) (T2 : Ty Tryz.prog 10 47 l2) : SemC Tryz.prog 11 [argPV Tryz.prog 29 l0, argPV Tryz.prog 47 l1, argPV Tryz.prog 47 l2] (fun r => r = pb true) := by
  obtain ⟨b, rfl⟩ := ty_ebook T0
  obtain ⟨m0, m1, rfl⟩ := ty_two T1
  obtain ⟨n0, n1, rfl⟩ := ty_two T2
  rw [argStruct Tryz.underlying29, argArray Tryz.underlying47, argArray Tryz.underlying47]
  exact More_law shK b m0 m1 n0 n1
end Go.Proofs.YtefehlekneahmaaGreat.Mk.Me
namespace Go.Proofs.YtefehlekneahmaaGreat
open Go.Proofs.YtefehlekneahmaaGreat Go.ChangeShapes Go.WideShapes Go.ChangeAt Go.RowKit Go.Deep

set_option maxRecDepth 100000 in
theorem mendMore_lifted (os : Os) (started : os.Started) (H : Type) (enc : TypeId × Value → H) :
    ReturnsInHanded {} Tryz.checked os 11 .any (Rows.mendMoreSpec.pre6 enc Tryz.prog Tryz.f11 Rows.mendMoreRow.domain false) (Rows.mendMoreSpec.post enc Tryz.prog Tryz.f11 false true false false) := by
  refine returnsInHanded_of_change_sized (C := Tryz.checked) ownKnobs started (by kernel_rfl) Tryz.func11
    (ChangeSpec.witness6 (enc := enc) (C := Tryz.checked) false ⟨#[], #[.agg #[.slice none 0 0, .slice none 0 0, .int .i64 0, .int .i64 0, .slice none 0 0, .int .i64 0, .slice none 0 0, .slice none 0 0], .agg #[.int .i64 0, .int .i64 0], .agg #[.int .i64 0, .int .i64 0]], []⟩ 8 (by kernel_rfl) (by kernel_rfl) (by kernel_rfl) (by kernel_rfl)) ?_
  intro W base args ds gs before hval0 hW hcnd hsz0 _
  have hval : ∀ (j : Nat) t v, Tryz.f11.params[j]? = some t → args[j]? = some v → Value.okWide Tryz.prog W .any base t v := hval0
  have hsz : (DataW.weightsEach Tryz.prog (Tryz.f11.params.toList ++ Rows.mendMoreSpec.plain.varTypes Tryz.prog) (ds ++ gs)).all (· ≤ reachBytes) = true := hsz0
  have hW' := hW
  obtain ⟨p, q, hA0, hV, rfl, hfz, hnd⟩ := hW
  have hA : DataW.TrodAll enc Tryz.prog W 0 (fun _ => true) true Tryz.f11.params.toList args.toList ds p := hA0
  rw [Tryz.params11] at hA hval hsz
  obtain ⟨v0, vs0, d0, ds0, p0, q0, hargs, rfl, rfl, h0, r0⟩ := trodAll_cons hA
  obtain ⟨v1, vs1, d1, ds1, p1, q1, rfl, rfl, rfl, h1, r1⟩ := trodAll_cons r0
  obtain ⟨v2, vs2, d2, ds2, p2, q2, rfl, rfl, rfl, h2, r2⟩ := trodAll_cons r1
  obtain ⟨rfl, rfl, rfl⟩ := trodAll_nil r2
  obtain rfl : args = #[v0, v1, v2] := by cases args; simp_all
  obtain ⟨rfl, rfl⟩ := trodVars_none hV
  have lt0 : ∀ x ∈ p0, x.block < W.heap.size := by obtain ⟨m, hm⟩ := h0; exact DataW.trod_lt m _ _ _ hm
  have lt1 : ∀ x ∈ p1, x.block < W.heap.size := by obtain ⟨m, hm⟩ := h1; exact DataW.trod_lt m _ _ _ hm
  have lt2 : ∀ x ∈ p2, x.block < W.heap.size := by obtain ⟨m, hm⟩ := h2; exact DataW.trod_lt m _ _ _ hm
  have z0 : SizedP Tryz.prog 29 d0 := sizedP_each hsz (j := 0) rfl rfl
  obtain ⟨l0, T0, R0⟩ := rd_arg 10 (by kernel_rfl) (hval 0 29 v0 rfl rfl) h0 z0
  have z1 : SizedP Tryz.prog 47 d1 := sizedP_each hsz (j := 1) rfl rfl
  obtain ⟨l1, T1, R1⟩ := rd_arg 10 (by kernel_rfl) (hval 1 47 v1 rfl rfl) h1 z1
  have z2 : SizedP Tryz.prog 47 d2 := sizedP_each hsz (j := 2) rfl rfl
  obtain ⟨l2, T2, R2⟩ := rd_arg 10 (by kernel_rfl) (hval 2 47 v2 rfl rfl) h2 z2
  clear hA0 hval0 hsz0
  refine (law_calls (Mk.Me.More_row T0 T1 T2) (argsP_cons R0 (argsP_cons R1 (argsP_cons R2 argsP_nil)))).mono fun e W' ⟨he, bel⟩ => ?_
  subst he
  exact ⟨_, rfl, _, _, _, [], _, [], hW', trodAll_mk1 (shut_bool Tryz.underlying4 _), (trodAll_cons_mk (Below.trod laidOut (by kernel_rfl) (of_decide_eq_true (by kernel_rfl)) h0 bel lt0) (trodAll_cons_mk (Below.trod laidOut (by kernel_rfl) (of_decide_eq_true (by kernel_rfl)) h1 bel lt1) (trodAll_cons_mk (Below.trod laidOut (by kernel_rfl) (of_decide_eq_true (by kernel_rfl)) h2 bel lt2) trodAll_mk0))), rfl, bel.frame _, fun h => by cases h⟩

theorem mendMore_joined : joinedFacts Tryz.prog 11 Tryz.f11 Rows.mendMoreSpec Rows.mendMoreRow = true := by
  simp only [joinedFacts, Bool.and_eq_true]
  repeat' apply And.intro
  all_goals first | with_reducible exact laidOut | with_reducible exact mapsR | with_reducible exact stopsH | with_reducible exact mayE | (rw [lift0]; kernel_rfl) | (rw [make0]; kernel_rfl) | kernel_rfl

theorem mendMore_holds : Rows.MendMoreSaid :=
  OpenClaim.holds_of_wide 11 Tryz.f11 rfl rfl rfl rfl rfl rfl rfl ⟨rfl, rfl, rfl, rfl, rfl⟩ rfl rfl rfl rfl rfl (by kernel_rfl) Tryz.func11 mendMore_joined
    (of_decide_eq_true (by kernel_rfl)) (by unfold Func.isWrapper; first | (rw [if_pos (by decide +kernel)]; kernel_rfl) | (rw [if_neg (by decide +kernel)]; exact ⟨rfl, rfl⟩))
    (fun os started H enc _ => mendMore_lifted os started H enc)
end Go.Proofs.YtefehlekneahmaaGreat
