/- Lists that grow in a loop. Lists that grow from nothing in a loop. Contracts of maker: sets, lists, what a book in the calculation has. Contracts of maker: a book in the calculation. -/
import Derived.Test.YtlcpplkbmlmmbaaGreatGa15
import Derived.Test.YtlcpplkbmlmmbaaGreatGa17
namespace Go.Proofs.YtlcpplkbmlmmbaaGreat
open Go.RowKit
def slG (e : TypeId) (o : Option Nat) (rows : List (List PV)) : PV :=
  match o with
  | none => .sl .full 1 []
  | some t => .sl (.own t e 1) 1 rows
def dropT (o : Option Nat) (L : List Nat) : List Nat := match o with | none => L | some t => L.erase t
end Go.Proofs.YtlcpplkbmlmmbaaGreat
namespace Go.Proofs.YtlcpplkbmlmmbaaGreat
open Go.RowKit
def slZ (e : TypeId) (sz : Nat) (o : Option Nat) (rows : List (List PV)) : PV :=
  match o with
  | none => .sl .full 0 []
  | some t => .sl (.own t e sz) sz rows
theorem app_slZ {C : Con} {Q : AEx → AS → Prop} {s : AS} {rd : List Nat} {d : Option Nat} {ops : List AOp} {e : TypeId} {sz : Nat} {o : Option Nat} {rows : List (List PV)} {k2 : SK} {v : List PV} (h0 : o = none → rows = []) (hl : rows.length ≤ 999999) (hlv : ∀ t ∈ o.toList, t ∈ s.live)
    (K : ∀ t, t ∉ s.live → contOps C ops Q rd (({ s with live := t :: dropT o s.live } : AS).put d (.p (slZ e sz (some t) (rows ++ [v]))))) : appK false (.p (slZ e sz o rows)) (.p (.sl k2 sz [v])) e sz C rd d ops Q s := by
  cases o with
  | none =>
    have := h0 rfl
    subst this
    exact ⟨.inr rfl, .inl rfl, by simp, trivial, K⟩
  | some t =>
    exact ⟨.inl rfl, .inl rfl, by simp; omega, ⟨hlv t (by simp), rfl, rfl⟩, K⟩
theorem slZ_le {e : TypeId} {sz : Nat} {o : Option Nat} {rows : List (List PV)} (h0 : o = none → rows = []) : PVle (slZ e sz o rows) (.sl .sh sz rows) := by
  cases o with
  | none =>
    have := h0 rfl
    subst this
    exact PVle.nil _ _ _
  | some t => exact PVle.sh _ _ _
end Go.Proofs.YtlcpplkbmlmmbaaGreat
namespace Go.Proofs.YtlcpplkbmlmmbaaGreat.Mk
open Go.RowKit Ls
def ac145 : AC := (AC.seq (AC.ops [(AOp.mk (some 4) (AK.mv (AX.c (PV.val (Value.bool false)))) none 0 false true)]) (AC.seq (AC.ops [(AOp.mk (some 5) (AK.mv (AX.t 0)) none 0 false true), (AOp.mk (some 6) (AK.mv (AX.t 1)) none 1 false true), (AOp.mk (some 7) (AK.bin false BinOp.shr (AX.t 5) (AX.t 6)) none 2 false true), (AOp.mk (some 8) (AK.bin false BinOp.and (AX.t 7) (AX.c (PV.val (Value.int IntKind.i64 1)))) none 3 false true), (AOp.mk (some 9) (AK.bin false BinOp.eql (AX.t 8) (AX.c (PV.val (Value.int IntKind.i64 1)))) none 4 false true), (AOp.mk (some 4) (AK.mv (AX.t 9)) none 5 false true)]) AC.ret))
theorem ac145_ok : cCode Tryz.prog (fun _ => false) Tryz.f145.ntmps (Tryz.f145.body.getD .skip) = some ac145 := by kernel_rfl
def ac148 : AC := (AC.seq (AC.ops [(AOp.mk (some 0) (AK.new (PV.agg [(PV.val (Value.int IntKind.i64 0)), (PV.val (Value.int IntKind.i64 0)), (PV.val (Value.int IntKind.i64 0)), (PV.val (Value.int IntKind.i64 0)), (PV.val (Value.int IntKind.i64 0)), (PV.val (Value.int IntKind.i64 0))])) none 0 false true)]) (AC.seq (AC.ops [(AOp.mk (some 1) (AK.new (PV.agg [(PV.val (Value.int IntKind.i64 0)), (PV.val (Value.int IntKind.i64 0)), (PV.val (Value.int IntKind.i64 0)), (PV.val (Value.int IntKind.i64 0)), (PV.val (Value.int IntKind.i64 0)), (PV.val (Value.int IntKind.i64 0))])) none 0 false true)]) (AC.seq (AC.seq (AC.ops [(AOp.mk (some 3) (AK.mv (AX.c (PV.val (Value.int IntKind.i64 0)))) none 0 false true)]) (AC.block 0 (AC.loop (AC.seq (AC.ops [(AOp.mk (some 4) (AK.bin false BinOp.lss (AX.t 3) (AX.c (PV.val (Value.int IntKind.i64 6)))) none 0 false true)]) (AC.seq (AC.cond (AX.t 4) AC.skip (AC.exit 0)) (AC.seq (AC.block 1 (AC.seq (AC.ops [(AOp.mk (some 5) (AK.mv (AX.t 3)) none 0 false true), (AOp.mk (some 2) (AK.mv (AX.t 5)) none 1 false true)]) (AC.ops [(AOp.mk (some 6) (AK.mv (AX.t 2)) none 0 false true), (AOp.mk (some 7) (AK.iadrA 1 6 (AX.t 1) (AX.t 6)) none 1 false true), (AOp.mk none (AK.st 1 (AX.t 7) (AX.c (PV.val (Value.int IntKind.i64 31)))) none 2 false true)]))) (AC.ops [(AOp.mk (some 8) (AK.bin false BinOp.add (AX.t 3) (AX.c (PV.val (Value.int IntKind.i64 1)))) none 0 false true), (AOp.mk (some 3) (AK.mv (AX.t 8)) none 1 false true)]))))))) (AC.seq (AC.ops [(AOp.mk (some 9) (AK.ld (some 6) (AX.t 1)) none 0 false true), (AOp.mk none (AK.st 6 (AX.t 0) (AX.t 9)) none 1 false true)]) AC.ret))))
theorem ac148_ok : cCode Tryz.prog (fun _ => false) Tryz.f148.ntmps (Tryz.f148.body.getD .skip) = some ac148 := by kernel_rfl
def ac168 : AC := (AC.seq (AC.ops [(AOp.mk (some 4) (AK.mv (AX.c (PV.val (Value.int IntKind.i64 0)))) none 0 false true)]) (AC.seq (AC.seq (AC.ops [(AOp.mk (some 6) (AK.mv (AX.t 0)) none 0 false true), (AOp.mk (some 7) (AK.len (AX.t 6)) none 1 false true), (AOp.mk (some 8) (AK.mv (AX.c (PV.val (Value.int IntKind.i64 0)))) none 2 false true)]) (AC.block 0 (AC.loop (AC.seq (AC.ops [(AOp.mk (some 9) (AK.bin false BinOp.lss (AX.t 8) (AX.t 7)) none 0 false true)]) (AC.seq (AC.cond (AX.t 9) AC.skip (AC.exit 0)) (AC.seq (AC.block 1 (AC.seq (AC.ops [(AOp.mk (some 10) (AK.mv (AX.t 8)) none 0 false true), (AOp.mk (some 5) (AK.mv (AX.t 10)) none 1 false true)]) (AC.seq (AC.ops [(AOp.mk (some 11) (AK.mv (AX.t 1)) none 0 false true), (AOp.mk (some 12) (AK.mv (AX.t 0)) none 1 false true), (AOp.mk (some 13) (AK.mv (AX.t 5)) none 2 false true), (AOp.mk (some 14) (AK.iadrS 1 (AX.t 12) (AX.t 13)) none 3 false true), (AOp.mk (some 15) (AK.ld none (AX.t 14)) none 4 false true), (AOp.mk (some 16) (AK.bin false BinOp.eql (AX.t 11) (AX.t 15)) none 5 false true)]) (AC.cond (AX.t 16) (AC.seq (AC.ops [(AOp.mk (some 17) (AK.mv (AX.t 5)) none 0 false true), (AOp.mk (some 4) (AK.mv (AX.t 17)) none 1 false true)]) AC.ret) AC.skip)))) (AC.ops [(AOp.mk (some 18) (AK.bin false BinOp.add (AX.t 8) (AX.c (PV.val (Value.int IntKind.i64 1)))) none 0 false true), (AOp.mk (some 8) (AK.mv (AX.t 18)) none 1 false true)]))))))) (AC.seq (AC.ops [(AOp.mk (some 4) (AK.mv (AX.c (PV.val (Value.int IntKind.i64 (-1))))) none 0 false true)]) AC.ret)))
theorem ac168_ok : cCode Tryz.prog (fun _ => false) Tryz.f168.ntmps (Tryz.f168.body.getD .skip) = some ac168 := by kernel_rfl
def ac146 : AC := (AC.seq (AC.ops [(AOp.mk (some 4) (AK.mv (AX.c (PV.val (Value.bool false)))) none 0 false true)]) (AC.seq (AC.ops [(AOp.mk (some 5) (AK.mv (AX.t 0)) none 0 false true), (AOp.mk (some 6) (AK.mv (AX.t 1)) none 1 false true), (AOp.mk (some 7) (AK.call 168 [(AX.t 5), (AX.t 6)]) none 2 false true), (AOp.mk (some 8) (AK.bin false BinOp.geq (AX.t 7) (AX.c (PV.val (Value.int IntKind.i64 0)))) none 3 false true), (AOp.mk (some 4) (AK.mv (AX.t 8)) none 4 false true)]) AC.ret))
theorem ac146_ok : cCode Tryz.prog (fun _ => false) Tryz.f146.ntmps (Tryz.f146.body.getD .skip) = some ac146 := by kernel_rfl
def ac112 : AC := (AC.seq (AC.ops [(AOp.mk (some 1) (AK.box 6 (AX.t 0)) none 0 false true), (AOp.mk (some 2) (AK.mv (AX.c (PV.val (Value.bool false)))) none 1 false true)]) (AC.seq (AC.ops [(AOp.mk (some 3) (AK.slcA 1 6 (AX.t 1) none none) none 0 false true), (AOp.mk (some 4) (AK.call 146 [(AX.t 3), (AX.c (PV.val (Value.int IntKind.i64 0)))]) none 1 false true), (AOp.mk (some 2) (AK.mv (AX.t 4)) none 2 false true)]) AC.ret))
theorem ac112_ok : cCode Tryz.prog (fun _ => false) Tryz.f112.ntmps (Tryz.f112.body.getD .skip) = some ac112 := by kernel_rfl
def ac119 : AC := (AC.seq (AC.ops [(AOp.mk (some 2) (AK.box 6 (AX.t 0)) none 0 false true), (AOp.mk (some 3) (AK.box 6 (AX.t 1)) none 1 false true), (AOp.mk (some 4) (AK.new (PV.agg [(PV.val (Value.int IntKind.i64 0)), (PV.val (Value.int IntKind.i64 0)), (PV.val (Value.int IntKind.i64 0)), (PV.val (Value.int IntKind.i64 0)), (PV.val (Value.int IntKind.i64 0)), (PV.val (Value.int IntKind.i64 0))])) none 2 false true)]) (AC.seq (AC.seq (AC.ops [(AOp.mk (some 6) (AK.mv (AX.c (PV.val (Value.int IntKind.i64 0)))) none 0 false true)]) (AC.block 0 (AC.loop (AC.seq (AC.ops [(AOp.mk (some 7) (AK.bin false BinOp.lss (AX.t 6) (AX.c (PV.val (Value.int IntKind.i64 6)))) none 0 false true)]) (AC.seq (AC.cond (AX.t 7) AC.skip (AC.exit 0)) (AC.seq (AC.block 1 (AC.seq (AC.ops [(AOp.mk (some 8) (AK.mv (AX.t 6)) none 0 false true), (AOp.mk (some 5) (AK.mv (AX.t 8)) none 1 false true)]) (AC.ops [(AOp.mk (some 9) (AK.mv (AX.t 5)) none 0 true false), (AOp.mk (some 10) (AK.iadrA 1 6 (AX.t 2) (AX.t 9)) none 1 true false), (AOp.mk (some 11) (AK.ld none (AX.t 10)) none 2 true false), (AOp.mk (some 12) (AK.mv (AX.t 5)) none 3 true false), (AOp.mk (some 13) (AK.iadrA 1 6 (AX.t 3) (AX.t 12)) none 4 true false), (AOp.mk (some 14) (AK.ld none (AX.t 13)) none 5 true false), (AOp.mk (some 15) (AK.bin false BinOp.and (AX.t 11) (AX.t 14)) none 6 true true), (AOp.mk (some 16) (AK.iadrA 1 6 (AX.t 2) (AX.t 9)) none 7 true true), (AOp.mk none (AK.st 1 (AX.t 16) (AX.t 15)) none 8 false true)]))) (AC.ops [(AOp.mk (some 17) (AK.bin false BinOp.add (AX.t 6) (AX.c (PV.val (Value.int IntKind.i64 1)))) none 0 false true), (AOp.mk (some 6) (AK.mv (AX.t 17)) none 1 false true)]))))))) (AC.seq (AC.ops [(AOp.mk (some 18) (AK.ld (some 6) (AX.t 2)) none 0 false true), (AOp.mk none (AK.st 6 (AX.t 4) (AX.t 18)) none 1 false true)]) AC.ret)))
def ac147 : AC := (AC.seq (AC.ops [(AOp.mk (some 2) (AK.mv (AX.c (PV.sl SK.full 0 []))) none 0 false true)]) (AC.seq (AC.ops [(AOp.mk (some 4) (AK.mv (AX.t 0)) none 0 false true), (AOp.mk (some 5) (AK.len (AX.t 4)) none 1 false true), (AOp.mk (some 3) (AK.mv (AX.t 5)) none 2 false true)]) (AC.seq (AC.ops [(AOp.mk (some 6) (AK.mv (AX.t 0)) none 0 false true), (AOp.mk (some 7) (AK.mv (AX.t 3)) none 1 false true), (AOp.mk (some 8) (AK.mv (AX.t 3)) none 2 false true), (AOp.mk (some 9) (AK.slc 1 (AX.t 6) none (some (AX.t 7)) (some (AX.t 8))) none 3 false true), (AOp.mk (some 2) (AK.mv (AX.t 9)) none 4 false true)]) AC.ret)))
theorem ac147_ok : cCode Tryz.prog (fun _ => false) Tryz.f147.ntmps (Tryz.f147.body.getD .skip) = some ac147 := by kernel_rfl
def ac113 : AC := (AC.seq (AC.ops [(AOp.mk (some 4) (AK.mv (AX.c (PV.sl SK.full 0 []))) none 0 false true)]) (AC.seq (AC.ops [(AOp.mk (some 5) (AK.mv (AX.c (PV.sl SK.full 0 []))) none 0 false true)]) (AC.seq (AC.seq (AC.ops [(AOp.mk (some 7) (AK.mv (AX.t 0)) none 0 false true), (AOp.mk (some 8) (AK.mv (AX.c (PV.val (Value.int IntKind.i64 0)))) none 1 false true)]) (AC.block 0 (AC.loop (AC.seq (AC.ops [(AOp.mk (some 9) (AK.bin false BinOp.lss (AX.t 8) (AX.t 7)) none 0 false true)]) (AC.seq (AC.cond (AX.t 9) AC.skip (AC.exit 0)) (AC.seq (AC.block 1 (AC.seq (AC.ops [(AOp.mk (some 10) (AK.mv (AX.t 8)) none 0 false true), (AOp.mk (some 6) (AK.mv (AX.t 10)) none 1 false true)]) (AC.seq (AC.ops [(AOp.mk (some 11) (AK.mv (AX.t 1)) none 0 false true), (AOp.mk (some 12) (AK.mv (AX.t 6)) none 1 false true), (AOp.mk (some 13) (AK.callv (AX.t 11) [(AX.t 12)]) none 2 false true)]) (AC.cond (AX.t 13) (AC.ops [(AOp.mk (some 14) (AK.mv (AX.t 5)) none 0 false true), (AOp.mk (some 15) (AK.mv (AX.t 6)) none 1 false true), (AOp.mk (some 16) (AK.bslice false 3 1 1 [(PV.val (Value.int IntKind.i64 0))] [(0, (1, (AX.t 15)))]) none 2 false true), (AOp.mk (some 17) (AK.app false 3 1 8 [(PV.val (Value.int IntKind.i64 0))] (AX.t 14) (AX.t 16)) none 3 false true), (AOp.mk (some 5) (AK.mv (AX.t 17)) none 4 false true)]) AC.skip)))) (AC.ops [(AOp.mk (some 18) (AK.bin false BinOp.add (AX.t 8) (AX.c (PV.val (Value.int IntKind.i64 1)))) none 0 false true), (AOp.mk (some 8) (AK.mv (AX.t 18)) none 1 false true)]))))))) (AC.seq (AC.ops [(AOp.mk (some 19) (AK.mv (AX.t 5)) none 0 false true), (AOp.mk (some 20) (AK.call 147 [(AX.t 19)]) none 1 false true), (AOp.mk (some 4) (AK.mv (AX.t 20)) none 2 false true)]) AC.ret))))
theorem ac113_ok : cCode Tryz.prog (fun _ => false) Tryz.f113.ntmps (Tryz.f113.body.getD .skip) = some ac113 := by kernel_rfl
def ac150 : AC := (AC.seq (AC.ops [(AOp.mk (some 2) (AK.mv (AX.c (PV.val (Value.int IntKind.i64 0)))) none 0 false true)]) (AC.seq (AC.ops [(AOp.mk (some 3) (AK.mv (AX.t 0)) none 0 false true), (AOp.mk (some 4) (AK.nilc (AX.t 3)) none 1 false true), (AOp.mk (some 5) (AK.fadr 0 (AX.t 4)) none 2 false true), (AOp.mk (some 6) (AK.ld (some 4) (AX.t 5)) none 3 false true), (AOp.mk (some 7) (AK.call 141 [(AX.t 6)]) none 4 false true), (AOp.mk (some 2) (AK.mv (AX.t 7)) none 5 false true)]) AC.ret))
theorem ac150_ok : cCode Tryz.prog (fun _ => false) Tryz.f150.ntmps (Tryz.f150.body.getD .skip) = some ac150 := by kernel_rfl
def ac151 : AC := (AC.seq (AC.ops [(AOp.mk (some 2) (AK.mv (AX.c (PV.val (Value.int IntKind.i64 0)))) none 0 false true)]) (AC.seq (AC.ops [(AOp.mk (some 3) (AK.mv (AX.t 0)) none 0 false true), (AOp.mk (some 4) (AK.nilc (AX.t 3)) none 1 false true), (AOp.mk (some 5) (AK.fadr 0 (AX.t 4)) none 2 false true), (AOp.mk (some 6) (AK.fadr 3 (AX.t 5)) none 3 false true), (AOp.mk (some 7) (AK.ld none (AX.t 6)) none 4 false true), (AOp.mk (some 2) (AK.mv (AX.t 7)) none 5 false true)]) AC.ret))
theorem ac151_ok : cCode Tryz.prog (fun _ => false) Tryz.f151.ntmps (Tryz.f151.body.getD .skip) = some ac151 := by kernel_rfl
theorem has_sem (s k : Nat) (hk : k ≤ 64) : Sem1 145 [pi s, pi k] (pb (s.testBit k)) := by
  refine semC_of_exec' mixed Tryz.func145 (by kernel_rfl) (by kernel_rfl) ac145_ok 2 rfl (by decide) [(.tmp 4)] (by kernel_rfl) ?_
  intro hr C hC hI
  unfold ac145
  simp only [go_sem, Nat.reduceBEq, bin_shr (show ¬ (k : Int) < 0 by omega), bin_and]
  refine retQ_one rfl ?_
  rw [← of_bit hk]
  exact congrArg (fun x : Int => pb (decide (x = 1))) (and1 ((s : Int).fdiv (2 ^ min (k : Int).toNat 64)))
theorem and_nat {x y : Nat} (hx : x < 9223372036854775808) (hy : y < 9223372036854775808) : IntKind.i64.wrap ((BitVec.ofInt 64 (x : Int) &&& BitVec.ofInt 64 (y : Int)).toNat : Int) = ((x &&& y : Nat) : Int) := by
  have e : (BitVec.ofInt 64 (x : Int) &&& BitVec.ofInt 64 (y : Int)).toNat = x &&& y := by
    rw [BitVec.ofInt_natCast, BitVec.ofInt_natCast, BitVec.toNat_and, BitVec.toNat_ofNat, BitVec.toNat_ofNat, Nat.mod_eq_of_lt (by omega), Nat.mod_eq_of_lt (by omega)]
  rw [e]
  have : x &&& y ≤ x := Nat.and_le_left
  exact wrap_id (by omega) (by omega)
theorem bin_andN {x y : Nat} (hx : x < 9223372036854775808) (hy : y < 9223372036854775808) : binS false .and (.p (pi x)) (.p (pi y)) = some (.p (pi ((x &&& y : Nat) : Int))) := by
  rw [bin_and]
  exact congrArg (fun n => some (AV.p (pi n))) (and_nat hx hy)
abbrev arr6 (f : Nat → Nat) : List PV := [pi (f 0), pi (f 1), pi (f 2), pi (f 3), pi (f 4), pi (f 5)]
theorem lt6 {i : Nat} (h : i < 6) : i = 0 ∨ i = 1 ∨ i = 2 ∨ i = 3 ∨ i = 4 ∨ i = 5 := by omega
theorem ia6 {id o i : Nat} (h : i < 6) : iadrAS 1 6 (.loc id o) (.p (pi i)) = some (.loc id (o + i)) := by
  rw [iadrA_loc' h]; simp
theorem ia6_0 {id o : Nat} : iadrAS 1 6 (.loc id o) (.p (PV.val (Value.int IntKind.i64 0))) = some (.loc id (o + 0)) := ia6 (i := 0) (by decide)
theorem ia6_1 {id o : Nat} : iadrAS 1 6 (.loc id o) (.p (PV.val (Value.int IntKind.i64 1))) = some (.loc id (o + 1)) := ia6 (i := 1) (by decide)
theorem ia6_2 {id o : Nat} : iadrAS 1 6 (.loc id o) (.p (PV.val (Value.int IntKind.i64 2))) = some (.loc id (o + 2)) := ia6 (i := 2) (by decide)
theorem ia6_3 {id o : Nat} : iadrAS 1 6 (.loc id o) (.p (PV.val (Value.int IntKind.i64 3))) = some (.loc id (o + 3)) := ia6 (i := 3) (by decide)
theorem ia6_4 {id o : Nat} : iadrAS 1 6 (.loc id o) (.p (PV.val (Value.int IntKind.i64 4))) = some (.loc id (o + 4)) := ia6 (i := 4) (by decide)
theorem ia6_5 {id o : Nat} : iadrAS 1 6 (.loc id o) (.p (PV.val (Value.int IntKind.i64 5))) = some (.loc id (o + 5)) := ia6 (i := 5) (by decide)
theorem wl1 : IntKind.i64.wrap 1 = 1 := rfl
theorem wl2 : IntKind.i64.wrap 2 = 2 := rfl
theorem wl3 : IntKind.i64.wrap 3 = 3 := rfl
theorem wl4 : IntKind.i64.wrap 4 = 4 := rfl
theorem wl5 : IntKind.i64.wrap 5 = 5 := rfl
theorem wl6 : IntKind.i64.wrap 6 = 6 := rfl
theorem allValues_sem : Sem1 148 [] (.agg (arr6 fun _ => 31)) := by
  refine semC_of_exec' mixed Tryz.func148 (by kernel_rfl) (by kernel_rfl) ac148_ok 0 rfl (by decide) [(.cell 0 145)] (by kernel_rfl) ?_
  intro hr C hC hI
  unfold ac148
  simp only [go_sem]
  refine loop_kl 6 (fun _ => True) [0, 1] (fun i => [(3, .p (pi i))]) (fun i => [.cells [.p (pi 0), .p (pi 0), .p (pi 0), .p (pi 0), .p (pi 0), .p (pi 0)], .cells [.p (pi (if 0 < i then 31 else 0)), .p (pi (if 1 < i then 31 else 0)), .p (pi (if 2 < i then 31 else 0)), .p (pi (if 3 < i then 31 else 0)), .p (pi (if 4 < i then 31 else 0)), .p (pi (if 5 < i then 31 else 0))]]) trivial (by simp [Wk, wkT, wkL, look, AV.lo, AV.lo.loL, upS_eq, keepS_nil, keepS_cons]) ?_
  rintro i ⟨hi, -⟩
  have h7 : i = 0 ∨ i = 1 ∨ i = 2 ∨ i = 3 ∨ i = 4 ∨ i = 5 ∨ i = 6 := by omega
  rcases h7 with rfl | rfl | rfl | rfl | rfl | rfl | rfl
  · simp only [go_sem, Nat.reduceBEq, Nat.reduceAdd, Nat.reduceLeDiff, Int.cast_ofNat_Int, Nat.reduceLT, if_false, decide_true, not_false_eq_true, Int.reduceLT, ia6_0, putCells]
    exact ⟨⟨1, by omega, trivial⟩, by simp only; omega, by simp [Wk, wkT, wkL, look, AV.lo, AV.lo.loL, ABlk.toZ, wl1]⟩
  · simp only [go_sem, Nat.reduceBEq, Nat.reduceAdd, Nat.reduceLeDiff, Int.cast_ofNat_Int, Nat.reduceLT, if_true, if_false, decide_true, not_false_eq_true, Int.reduceLT, ia6_1, putCells]
    exact ⟨⟨2, by omega, trivial⟩, by simp only; omega, by simp [Wk, wkT, wkL, look, AV.lo, AV.lo.loL, ABlk.toZ, wl2]⟩
  · simp only [go_sem, Nat.reduceBEq, Nat.reduceAdd, Nat.reduceLeDiff, Int.cast_ofNat_Int, Nat.reduceLT, if_true, if_false, decide_true, not_false_eq_true, Int.reduceLT, ia6_2, putCells]
    exact ⟨⟨3, by omega, trivial⟩, by simp only; omega, by simp [Wk, wkT, wkL, look, AV.lo, AV.lo.loL, ABlk.toZ, wl3]⟩
  · simp only [go_sem, Nat.reduceBEq, Nat.reduceAdd, Nat.reduceLeDiff, Int.cast_ofNat_Int, Nat.reduceLT, if_true, if_false, decide_true, not_false_eq_true, Int.reduceLT, ia6_3, putCells]
    exact ⟨⟨4, by omega, trivial⟩, by simp only; omega, by simp [Wk, wkT, wkL, look, AV.lo, AV.lo.loL, ABlk.toZ, wl4]⟩
  · simp only [go_sem, Nat.reduceBEq, Nat.reduceAdd, Nat.reduceLeDiff, Int.cast_ofNat_Int, Nat.reduceLT, if_true, if_false, decide_true, not_false_eq_true, Int.reduceLT, ia6_4, putCells]
    exact ⟨⟨5, by omega, trivial⟩, by simp only; omega, by simp [Wk, wkT, wkL, look, AV.lo, AV.lo.loL, ABlk.toZ, wl5]⟩
  · simp only [go_sem, Nat.reduceBEq, Nat.reduceAdd, Int.cast_ofNat_Int, Nat.reduceLT, if_true, if_false, decide_true, not_false_eq_true, Int.reduceLT, ia6_5, putCells]
    exact ⟨⟨6, by omega, trivial⟩, by simp only; omega, by simp [Wk, wkT, wkL, look, AV.lo, AV.lo.loL, ABlk.toZ, wl6]⟩
  · simp only [go_sem, Nat.reduceBEq, Nat.reduceAdd, Int.cast_ofNat_Int, Nat.reduceLT, if_true, decide_false, not_false_eq_true, Int.reduceLT, putCells]
    refine retQ_cell (n := some 6) (by kernel_rfl) rfl rfl
def idxI {α : Type} (l : List α) (p : α → Bool) : Int := match l.findIdx? p with | some i => i | none => -1
theorem idxI_neg {α : Type} {l : List α} {p : α → Bool} : 0 ≤ idxI l p ↔ l.any p = true := by
  unfold idxI
  cases h : l.findIdx? p with
  | none =>
    rw [List.findIdx?_eq_none_iff] at h
    simp only [List.any_eq_true]
    constructor
    · intro h0; omega
    · rintro ⟨x, hx, hp⟩; rw [h x hx] at hp; cases hp
  | some i =>
    rw [List.findIdx?_eq_some_iff_getElem] at h
    obtain ⟨h1, h2, -⟩ := h
    simp only [List.any_eq_true]
    exact ⟨fun _ => ⟨_, List.getElem_mem h1, h2⟩, fun _ => by omega⟩
theorem idxI_dec {α : Type} {l : List α} {p : α → Bool} : decide (0 ≤ idxI l p) = l.any p := by
  have := idxI_neg (l := l) (p := p)
  cases h : l.any p
  · rw [h] at this
    exact decide_eq_false fun h0 => by have := this.1 h0; cases this
  · exact decide_eq_true (this.2 h)
theorem idxI_some {α : Type} {l : List α} {p : α → Bool} {j : Nat} (h : j < l.length) (hp : p l[j] = true) (hn : ∀ x ∈ l.take j, p x = false) : idxI l p = j := by
  unfold idxI
  have : l.findIdx? p = some j := by
    rw [List.findIdx?_eq_some_iff_getElem]
    refine ⟨h, hp, fun i hi => ?_⟩
    have := hn l[i] (List.mem_iff_getElem.2 ⟨i, by rw [List.length_take]; omega, by simp⟩)
    simp [this]
  rw [this]
theorem idxI_none {α : Type} {l : List α} {p : α → Bool} (hn : ∀ x ∈ l, p x = false) : idxI l p = -1 := by
  unfold idxI
  rw [List.findIdx?_eq_none_iff.2 hn]
theorem take_next {α : Type} {l : List α} {j : Nat} (h : j < l.length) {P : α → Prop} (h1 : ∀ x ∈ l.take j, P x) (h2 : P l[j]) : ∀ x ∈ l.take (j + 1), P x := by
  intro x hx
  rw [List.take_succ_eq_append_getElem h, List.mem_append, List.mem_singleton] at hx
  rcases hx with hx | rfl
  · exact h1 x hx
  · exact h2
theorem IndexS_sem (l : List Int) (x : Int) : Sem1 168 [pis l, pi x] (pi (idxI l fun y => decide (x = y))) := by
  refine semC_of_exec' mixed Tryz.func168 (by kernel_rfl) (by kernel_rfl) ac168_ok 2 rfl (by decide) [(.tmp 4)] (by kernel_rfl) ?_
  intro hr C hC hI
  unfold ac168
  simp only [go_sem, Nat.reduceBEq, List.length_map]
  have hl := real_len (i := 0) hr rfl
  rw [List.length_map] at hl
  refine loop_k l.length (fun j => ∀ y ∈ l.take j, decide (x = y) = false) [0, 1, 7] (fun j => [(8, .p (pi j))]) (by simp) rfl ⟨rfl, by simp, by simp⟩ (by simp [wkT, look, AV.lo]) ?_
  rintro j ⟨hj, hok⟩
  simp only [go_sem, Nat.reduceBEq]
  refine ⟨fun h5 => ?_, fun h5 => ?_⟩
  · have hj2 : j < l.length := by omega
    simp only [go_sem, Nat.reduceBEq, iadr_pis hj2]
    refine ⟨fun h6 => ?_, fun h6 => ?_⟩
    · exact retQ_one rfl (by rw [idxI_some hj2 (p := fun y => decide (x = y)) (decide_eq_true h6) hok])
    · simp only [go_sem, wrap_succ (k := j) (by omega)]
      refine ⟨⟨j + 1, hj2, take_next hj2 hok (decide_eq_false h6)⟩, by simp only; omega, by simp [Wk, wkT, wkL, look, AV.lo]⟩
  · have hjn : j = l.length := by omega
    subst hjn
    rw [List.take_length] at hok
    exact retQ_one rfl (by rw [idxI_none hok])
theorem ContainsS_sem (l : List Int) (x : Int) : Sem1 146 [pis l, pi x] (pb (decide (x ∈ l))) := by
  refine semC_of_exec' mixed Tryz.func146 (by kernel_rfl) (by kernel_rfl) ac146_ok 2 rfl (by decide) [(.tmp 4)] (by kernel_rfl) ?_
  intro hr C hC hI
  unfold ac146
  simp only [go_sem, Nat.reduceBEq]
  refine call_pure2 hC (IndexS_sem l x) rfl (PVleL_refl _) ?_
  rintro r rfl
  simp only [go_sem, Nat.reduceBEq]
  refine retQ_one rfl (congrArg pb ?_)
  rw [idxI_dec, Bool.eq_iff_iff]
  simp
theorem pur_arr6 (f : Nat → Nat) : pur 100 [ABlk.cells [AV.p (pi (f 0)), AV.p (pi (f 1)), AV.p (pi (f 2)), AV.p (pi (f 3)), AV.p (pi (f 4)), AV.p (pi (f 5))]] (AV.loc 0 0) = some (.ptr (arr6 f) 0, [.frz (arr6 f)]) := rfl
abbrev int6 (f : Nat → Nat) : List Int := [(f 0 : Int), (f 1 : Int), (f 2 : Int), (f 3 : Int), (f 4 : Int), (f 5 : Int)]
def lackB (f : Nat → Nat) : Bool := decide ((0 : Int) ∈ int6 f)
theorem lack_iff {f : Nat → Nat} : lackB f = true ↔ ∃ k, k < 6 ∧ f k = 0 := by
  unfold lackB
  rw [decide_eq_true_eq]
  simp only [List.mem_cons, List.not_mem_nil, or_false]
  constructor
  · rintro (h | h | h | h | h | h)
    · exact ⟨0, by omega, by omega⟩
    · exact ⟨1, by omega, by omega⟩
    · exact ⟨2, by omega, by omega⟩
    · exact ⟨3, by omega, by omega⟩
    · exact ⟨4, by omega, by omega⟩
    · exact ⟨5, by omega, by omega⟩
  · rintro ⟨k, hk, h⟩
    rcases lt6 hk with rfl | rfl | rfl | rfl | rfl | rfl <;> simp [h]
theorem lacksSome_sem (f : Nat → Nat) : Sem1 112 [.agg (arr6 f)] (pb (lackB f)) := by
  refine semC_of_exec' mixed Tryz.func112 (by kernel_rfl) (by kernel_rfl) ac112_ok 1 rfl (by decide) [(.tmp 2)] (by kernel_rfl) ?_
  intro hr C hC hI
  unfold ac112
  simp only [go_sem, Nat.reduceBEq, Nat.reduceAdd, Nat.reduceMul, pur_arr6]
  refine ⟨by decide, by decide, by simp, ?_⟩
  refine call_pure2 hC (ContainsS_sem (int6 f) 0) rfl ⟨PVle.sh _ _ _, PVle.refl _, trivial⟩ ?_
  rintro r rfl
  simp only [go_sem, Nat.reduceBEq]
  refine retQ_one rfl (congrArg pb ?_)
  unfold lackB
  exact decide_eq_decide.2 (by simp)
theorem handedOn_sem (k : SK) (sz : Nat) (l : List Int) (hsz : sz = 1 ∨ l = []) : Sem1 147 [.sl k sz (l.map fun x => [pi x])] (.sl .full 1 (l.map fun x => [pi x])) := by
  refine semC_of_exec' mixed Tryz.func147 (by kernel_rfl) (by kernel_rfl) ac147_ok 1 rfl (by decide) [(.tmp 2)] (by kernel_rfl) ?_
  intro hr C hC hI
  unfold ac147
  simp only [go_sem, Nat.reduceBEq, slcS_all (sz := sz) (sz' := 1) (k := k) (es := l.map fun x => [pi x]) (hsz.imp id fun h => by rw [h]; rfl)]
  exact retQ_one rfl rfl
def natL (l : List Nat) : List Int := l.map fun (t : Nat) => (t : Int)
theorem natL_len (l : List Nat) : (natL l).length = l.length := by unfold natL; rw [List.length_map]
theorem mem_natL {l : List Nat} {t : Nat} : (t : Int) ∈ natL l ↔ t ∈ l := by
  unfold natL
  rw [List.mem_map]
  constructor
  · rintro ⟨x, hx, e⟩
    have : x = t := by omega
    rwa [← this]
  · intro h
    exact ⟨t, h, rfl⟩
theorem filt_rows (e : Nat) (P : Nat → Bool) : ((natL ((List.range (e + 1)).filter P)).map fun x => [pi x]) = ((natL ((List.range e).filter P)).map fun x => [pi x]) ++ if P e then [[pi e]] else [] := by
  unfold natL
  rw [List.range_succ, List.filter_append, List.map_append, List.map_append]
  congr 1
  simp only [List.filter_cons, List.filter_nil]
  split <;> rfl
theorem filt_le' (e : Nat) (P : Nat → Bool) : ((List.range e).filter P).length ≤ e := Nat.le_trans (List.length_filter_le ..) (by simp)
abbrev fnV (f : FuncId) : PV := .val (.func (.func f) #[] #[])
theorem those_sem {f : FuncId} {fi cap : List PV} {e : Nat} {P : Nat → Bool} (he : e ≤ 1000) (hf : ∀ n : Nat, n < e → Sem1 f (fi ++ [pi n] ++ cap) (pb (P n))) : Sem1 113 [pi e, .clo f fi cap] (.sl .full 1 ((natL ((List.range e).filter P)).map fun x => [pi x])) := by
  refine semC_of_exec' mixed Tryz.func113 (by kernel_rfl) (by kernel_rfl) ac113_ok 2 rfl (by decide) [(.tmp 4)] (by kernel_rfl) ?_
  intro hr C hC hI
  unfold ac113
  simp only [go_sem, Nat.reduceBEq]
  refine loop_g (α := Nat × Option Nat) (fun a => a.1 ≤ e ∧ (a.2 = none → ((natL ((List.range a.1).filter P)).map fun x => [pi x]) = [])) (fun a => e - a.1) [1, 7] (fun a => [(5, .p (slZ 3 1 a.2 ((natL ((List.range a.1).filter P)).map fun x => [pi x]))), (8, .p (pi a.1))]) (fun _ => []) (fun a => a.2.toList) (0, none) ⟨by omega, fun _ => rfl⟩ (by simp [Wk, wkT, wkL, look, AV.lo, upS_eq, keepS_nil, keepS_cons, slZ]) ?_
  rintro ⟨j, o⟩ ⟨hj, h0⟩
  replace hj : j ≤ e := hj
  replace h0 : o = none → ((natL ((List.range j).filter P)).map fun x => [pi x]) = [] := h0
  have hnx := filt_rows j P
  have hfl := filt_le' j P
  simp only [go_sem, Nat.reduceBEq]
  refine ⟨fun h5 => ?_, fun h5 => ?_⟩
  · have hj2 : j < e := by omega
    rw [show List.map AV.p fi ++ [AV.p (pi j)] ++ List.map AV.p cap = (fi ++ [pi j] ++ cap).map AV.p by simp]
    refine call_pure hC (hf j hj2) (PVleL_refl _) ?_
    rintro r rfl
    cases hp : P j
    · rw [hp, if_neg (by decide), List.append_nil] at hnx
      simp only [go_sem, Nat.reduceBEq, wrap_succ (k := j) (by omega)]
      refine ⟨⟨(j + 1, o), hj2, fun h => hnx.trans (h0 h)⟩, by simp only; omega, ?_⟩
      simp only [hnx]
      cases o <;> simp [Wk, wkT, wkL, look, AV.lo]
    · rw [hp, if_pos rfl] at hnx
      simp only [go_sem, Nat.reduceBEq]
      refine app_slZ h0 (by rw [List.length_map, natL_len]; omega) (by simp) fun tk htk => ?_
      simp only [go_sem, Nat.reduceBEq, wrap_succ (k := j) (by omega)]
      refine ⟨⟨(j + 1, some tk), hj2, (fun h => by cases h)⟩, by simp only; omega, ?_⟩
      simp only [hnx]
      refine ⟨by simp [wkT, look, AV.lo], trivial, by simp, by simp, rfl, rfl, by simp⟩
  · have hjn : j = e := by omega
    subst hjn
    cases o with
    | none =>
      rw [h0 rfl]
      refine call_pure2 hC (handedOn_sem .full 0 [] (.inr rfl)) rfl (PVleL_refl _) ?_
      rintro r rfl
      simp only [go_sem, Nat.reduceBEq]
      exact retQ_one rfl rfl
    | some t =>
      refine call_pure2 hC (handedOn_sem (.own t 3 1) 1 (natL ((List.range j).filter P)) (.inl rfl)) rfl (PVleL_refl _) ?_
      rintro r rfl
      simp only [go_sem, Nat.reduceBEq]
      exact retQ_one rfl rfl
def worksL (b : MBook) : List (Nat × Nat) := (List.range (b.makers.length * nK b)).map fun k => (k / nK b, k % nK b)
def ownE (b : MBook) : List (PV × PV) := (worksL b).map fun v => (.agg [pi v.1, pi v.2], pi (ownN b v.1 v.2))
abbrev bookX (k k2 : SK) (b : MBook) (m : PV) : PV := .ptr [.sl k 1 (rowsC b.makers), .sl k2 2 (seenC b.seen), pi b.repairs, pi b.fixed, pi (seenN b 0), pi (seenN b 1), pi (seenN b 2), pi (seenN b 3), pi (seenN b 4), pi (seenN b 5), m] 0
abbrev bookP (k k2 : SK) (b : MBook) : PV := bookX k k2 b (.mpf (ownE b))
theorem kinds_sem (k k2 : SK) (b : MBook) (m : PV) : Sem1 150 [bookX k k2 b m] (pi (nK b)) := by
  refine semC_of_exec' mixed Tryz.func150 (by kernel_rfl) (by kernel_rfl) ac150_ok 1 rfl (by decide) [(.tmp 2)] (by kernel_rfl) ?_
  intro hr C hC hI
  unfold ac150
  simp only [go_sem, Nat.reduceBEq, Nat.reduceAdd, Nat.reduceLeDiff]
  refine call_pure2 hC (kindsOf_sem k k2 b) rfl (PVleL_refl _) ?_
  rintro r rfl
  simp only [go_sem, Nat.reduceBEq]
  exact retQ_one rfl rfl
theorem fixed_sem (k k2 : SK) (b : MBook) (m : PV) : Sem1 151 [bookX k k2 b m] (pi b.fixed) := by
  refine semC_of_exec' mixed Tryz.func151 (by kernel_rfl) (by kernel_rfl) ac151_ok 1 rfl (by decide) [(.tmp 2)] (by kernel_rfl) ?_
  intro hr C hC hI
  unfold ac151
  simp only [go_sem, Nat.reduceBEq]
  exact retQ_one rfl rfl
end Go.Proofs.YtlcpplkbmlmmbaaGreat.Mk
namespace Go.Proofs.YtlcpplkbmlmmbaaGreat.Mk
open Go.RowKit Ls
def ac115 : AC := (AC.seq (AC.ops [(AOp.mk (some 1) (AK.box 4 (AX.t 0)) none 0 false true), (AOp.mk (some 2) (AK.mv (AX.c PV.nilp)) none 1 false true)]) (AC.seq (AC.tree (AT.op (AOp.mk (some 10) (AK.ld (some 4) (AX.t 1)) none 0 true false) (AT.fk (AOp.mk (some 11) (AK.call 148 []) none 1 false false) (AOp.mk (some 12) AK.mkm none 2 false false) (AT.op (AOp.mk (some 12) AK.mkm none 2 false false) (AT.op (AOp.mk (some 13) (AK.build [(PV.sl SK.full 0 []), (PV.sl SK.full 0 []), (PV.val (Value.int IntKind.i64 0)), (PV.val (Value.int IntKind.i64 0)), (PV.val (Value.int IntKind.i64 0)), (PV.val (Value.int IntKind.i64 0)), (PV.val (Value.int IntKind.i64 0)), (PV.val (Value.int IntKind.i64 0)), (PV.val (Value.int IntKind.i64 0)), (PV.val (Value.int IntKind.i64 0)), PV.any] [(0, (4, (AX.t 10))), (4, (6, (AX.t 11))), (10, (1, (AX.t 12)))]) none 3 true false) (AT.op (AOp.mk (some 14) (AK.box 11 (AX.t 13)) none 4 false true) (AT.op (AOp.mk (some 3) (AK.mv (AX.t 14)) none 5 true false) AT.fin)))) (AT.op (AOp.mk (some 11) (AK.call 148 []) none 1 false false) (AT.op (AOp.mk (some 13) (AK.build [(PV.sl SK.full 0 []), (PV.sl SK.full 0 []), (PV.val (Value.int IntKind.i64 0)), (PV.val (Value.int IntKind.i64 0)), (PV.val (Value.int IntKind.i64 0)), (PV.val (Value.int IntKind.i64 0)), (PV.val (Value.int IntKind.i64 0)), (PV.val (Value.int IntKind.i64 0)), (PV.val (Value.int IntKind.i64 0)), (PV.val (Value.int IntKind.i64 0)), PV.any] [(0, (4, (AX.t 10))), (4, (6, (AX.t 11))), (10, (1, (AX.t 12)))]) none 3 true false) (AT.op (AOp.mk (some 14) (AK.box 11 (AX.t 13)) none 4 false true) (AT.op (AOp.mk (some 3) (AK.mv (AX.t 14)) none 5 true false) AT.fin))))))) (AC.seq (AC.seq (AC.ops [(AOp.mk (some 15) (AK.mv (AX.t 3)) none 0 false true), (AOp.mk (some 16) (AK.nilc (AX.t 15)) none 1 false true), (AOp.mk (some 17) (AK.fadr 0 (AX.t 16)) none 2 false true), (AOp.mk (some 18) (AK.fadr 1 (AX.t 17)) none 3 false true), (AOp.mk (some 19) (AK.ld none (AX.t 18)) none 4 false true), (AOp.mk (some 20) (AK.len (AX.t 19)) none 5 false true), (AOp.mk (some 21) (AK.mv (AX.c (PV.val (Value.int IntKind.i64 0)))) none 6 false true)]) (AC.block 0 (AC.loop (AC.seq (AC.ops [(AOp.mk (some 22) (AK.bin false BinOp.lss (AX.t 21) (AX.t 20)) none 0 false true)]) (AC.seq (AC.cond (AX.t 22) AC.skip (AC.exit 0)) (AC.seq (AC.block 1 (AC.seq (AC.ops [(AOp.mk (some 23) (AK.iadrS 2 (AX.t 19) (AX.t 21)) none 0 false true), (AOp.mk (some 24) (AK.ld (some 2) (AX.t 23)) none 1 false true), (AOp.mk (some 5) (AK.new (PV.agg [(PV.val (Value.int IntKind.i64 0)), (PV.val (Value.int IntKind.i64 0))])) none 2 false true), (AOp.mk none (AK.st 2 (AX.t 5) (AX.t 24)) none 3 false true)]) (AC.ops [(AOp.mk (some 25) (AK.mv (AX.t 3)) none 0 true false), (AOp.mk (some 26) (AK.fadr 0 (AX.t 5)) none 1 true false), (AOp.mk (some 27) (AK.ld none (AX.t 26)) none 2 true false), (AOp.mk (some 28) (AK.nilc (AX.t 25)) none 3 true false), (AOp.mk (some 29) (AK.fadr 4 (AX.t 28)) none 4 true false), (AOp.mk (some 30) (AK.iadrA 1 6 (AX.t 29) (AX.t 27)) none 5 true false), (AOp.mk (some 31) (AK.ld none (AX.t 30)) none 6 true false), (AOp.mk (some 32) (AK.fadr 1 (AX.t 5)) none 7 true false), (AOp.mk (some 33) (AK.ld none (AX.t 32)) none 8 true false), (AOp.mk (some 34) (AK.bin false BinOp.and (AX.t 31) (AX.t 33)) none 9 true false), (AOp.mk (some 35) (AK.nilc (AX.t 25)) none 10 true false), (AOp.mk (some 36) (AK.fadr 4 (AX.t 35)) none 11 true false), (AOp.mk (some 37) (AK.iadrA 1 6 (AX.t 36) (AX.t 27)) none 12 true true), (AOp.mk none (AK.st 1 (AX.t 37) (AX.t 34)) none 13 false true)]))) (AC.ops [(AOp.mk (some 38) (AK.bin false BinOp.add (AX.t 21) (AX.c (PV.val (Value.int IntKind.i64 1)))) none 0 false true), (AOp.mk (some 21) (AK.mv (AX.t 38)) none 1 false true)]))))))) (AC.seq (AC.seq (AC.ops [(AOp.mk (some 39) (AK.mv (AX.t 3)) none 0 false true), (AOp.mk (some 40) (AK.nilc (AX.t 39)) none 1 false true), (AOp.mk (some 41) (AK.fadr 0 (AX.t 40)) none 2 false true), (AOp.mk (some 42) (AK.fadr 0 (AX.t 41)) none 3 false true), (AOp.mk (some 43) (AK.ld none (AX.t 42)) none 4 false true), (AOp.mk (some 44) (AK.len (AX.t 43)) none 5 false true), (AOp.mk (some 45) (AK.mv (AX.c (PV.val (Value.int IntKind.i64 0)))) none 6 false true)]) (AC.block 2 (AC.loop (AC.seq (AC.ops [(AOp.mk (some 46) (AK.bin false BinOp.lss (AX.t 45) (AX.t 44)) none 0 false true)]) (AC.seq (AC.cond (AX.t 46) AC.skip (AC.exit 2)) (AC.seq (AC.block 3 (AC.seq (AC.ops [(AOp.mk (some 47) (AK.mv (AX.t 45)) none 0 false true), (AOp.mk (some 48) (AK.iadrS 1 (AX.t 43) (AX.t 45)) none 1 false true), (AOp.mk (some 49) (AK.ld none (AX.t 48)) none 2 false true), (AOp.mk (some 6) (AK.mv (AX.t 47)) none 3 false true), (AOp.mk (some 7) (AK.mv (AX.t 49)) none 4 false true)]) (AC.seq (AC.ops [(AOp.mk (some 50) (AK.mv (AX.t 7)) none 0 false true), (AOp.mk (some 51) (AK.len (AX.t 50)) none 1 false true), (AOp.mk (some 52) (AK.mv (AX.c (PV.val (Value.int IntKind.i64 0)))) none 2 false true)]) (AC.block 4 (AC.loop (AC.seq (AC.ops [(AOp.mk (some 53) (AK.bin false BinOp.lss (AX.t 52) (AX.t 51)) none 0 false true)]) (AC.seq (AC.cond (AX.t 53) AC.skip (AC.exit 4)) (AC.seq (AC.block 5 (AC.seq (AC.ops [(AOp.mk (some 54) (AK.mv (AX.t 52)) none 0 false true), (AOp.mk (some 55) (AK.iadrS 1 (AX.t 50) (AX.t 52)) none 1 false true), (AOp.mk (some 56) (AK.ld none (AX.t 55)) none 2 false true), (AOp.mk (some 8) (AK.mv (AX.t 54)) none 3 false true), (AOp.mk (some 9) (AK.mv (AX.t 56)) none 4 false true)]) (AC.ops [(AOp.mk (some 57) (AK.mv (AX.t 3)) none 0 true false), (AOp.mk (some 58) (AK.nilc (AX.t 57)) none 1 true false), (AOp.mk (some 59) (AK.fadr 10 (AX.t 58)) none 2 true false), (AOp.mk (some 60) (AK.ld none (AX.t 59)) none 3 true false), (AOp.mk (some 61) (AK.mv (AX.t 6)) none 4 true false), (AOp.mk (some 62) (AK.mv (AX.t 8)) none 5 true false), (AOp.mk (some 63) (AK.build [(PV.val (Value.int IntKind.i64 0)), (PV.val (Value.int IntKind.i64 0))] [(0, (1, (AX.t 61))), (1, (1, (AX.t 62)))]) none 6 true false), (AOp.mk (some 64) (AK.mv (AX.t 9)) none 7 true false), (AOp.mk (some 65) (AK.mv (AX.t 3)) none 8 true false), (AOp.mk (some 66) (AK.mv (AX.t 8)) none 9 true false), (AOp.mk (some 67) (AK.nilc (AX.t 65)) none 10 true false), (AOp.mk (some 68) (AK.fadr 4 (AX.t 67)) none 11 true false), (AOp.mk (some 69) (AK.iadrA 1 6 (AX.t 68) (AX.t 66)) none 12 true false), (AOp.mk (some 70) (AK.ld none (AX.t 69)) none 13 true false), (AOp.mk (some 71) (AK.bin false BinOp.and (AX.t 64) (AX.t 70)) none 14 true false), (AOp.mk none (AK.mup [CK.i, CK.i] true (AX.t 60) (AX.t 63) (AX.t 71)) none 15 false true)]))) (AC.ops [(AOp.mk (some 72) (AK.bin false BinOp.add (AX.t 52) (AX.c (PV.val (Value.int IntKind.i64 1)))) none 0 false true), (AOp.mk (some 52) (AK.mv (AX.t 72)) none 1 false true)]))))))))) (AC.ops [(AOp.mk (some 73) (AK.bin false BinOp.add (AX.t 45) (AX.c (PV.val (Value.int IntKind.i64 1)))) none 0 false true), (AOp.mk (some 45) (AK.mv (AX.t 73)) none 1 false true)]))))))) (AC.seq (AC.ops [(AOp.mk (some 74) (AK.mv (AX.t 3)) none 0 false true), (AOp.mk (some 2) (AK.mv (AX.t 74)) none 1 false true)]) AC.ret)))))
theorem ac115_ok : cCode Tryz.prog (fun _ => false) Tryz.f115.ntmps (Tryz.f115.body.getD .skip) = some ac115 := by kernel_rfl
def ac117 : AC := (AC.seq (AC.ops [(AOp.mk (some 4) (AK.mv (AX.c PV.nilp)) none 0 false true)]) (AC.seq (AC.ops [(AOp.mk (some 6) (AK.mv (AX.t 0)) none 0 false true), (AOp.mk (some 7) (AK.nilc (AX.t 6)) none 1 false true), (AOp.mk (some 8) (AK.fadr 0 (AX.t 7)) none 2 false true), (AOp.mk (some 9) (AK.ld (some 4) (AX.t 8)) none 3 false true), (AOp.mk (some 5) (AK.new (PV.agg [(PV.sl SK.full 0 []), (PV.sl SK.full 0 []), (PV.val (Value.int IntKind.i64 0)), (PV.val (Value.int IntKind.i64 0))])) none 4 false true), (AOp.mk none (AK.st 4 (AX.t 5) (AX.t 9)) none 5 false true)]) (AC.seq (AC.ops [(AOp.mk (some 10) (AK.mv (AX.t 1)) none 0 false true), (AOp.mk (some 11) (AK.fadr 1 (AX.t 5)) none 1 false true), (AOp.mk none (AK.st 1 (AX.t 11) (AX.t 10)) none 2 false true)]) (AC.seq (AC.ops [(AOp.mk (some 12) (AK.ld (some 4) (AX.t 5)) none 0 false true), (AOp.mk (some 13) (AK.call 115 [(AX.t 12)]) none 1 false true), (AOp.mk (some 4) (AK.mv (AX.t 13)) none 2 false true)]) AC.ret))))
theorem view_key {b : MBook} {h t : Nat} : ∀ v ∈ worksL b, keyEq [.i, .i] true (.agg [pi h, pi t]) (.agg [pi v.1, pi v.2]) = some (decide (v = (h, t))) := by
  intro v _
  have : decide (v = (h, t)) = (decide ((h : Int) = v.1) && (decide ((t : Int) = v.2) && true)) := by
    rw [Bool.and_true, dec_and]
    refine decide_eq_decide.2 ⟨?_, ?_⟩
    · rintro rfl; exact ⟨rfl, rfl⟩
    · rintro ⟨h1, h2⟩
      exact Prod.ext (by omega) (by omega)
  rw [this]
  simp only [keyEq, eqCs_i, eqCs_nil, Option.map_some]
theorem view_self {h t : Int} : (keyEq [.i, .i] true (.agg [pi h, pi t]) (.agg [pi h, pi t])).isSome = true := by
  simp only [keyEq, eqCs_i, eqCs_nil, Option.map_some, Option.isSome_some]
theorem mem_works {b : MBook} {h t : Nat} (hh : h < b.makers.length) (ht : t < nK b) : (h, t) ∈ worksL b := by
  unfold worksL
  rw [List.mem_map]
  refine ⟨h * nK b + t, List.mem_range.2 ?_, ?_⟩
  · have : (h + 1) * nK b ≤ b.makers.length * nK b := Nat.mul_le_mul_right _ hh
    rw [Nat.add_mul] at this
    omega
  · rw [Nat.mul_comm, Nat.mul_add_div (by omega), Nat.div_eq_of_lt ht, Nat.add_zero, Nat.mul_add_mod, Nat.mod_eq_of_lt ht]
theorem look_own {b : MBook} {h t : Nat} (hh : h < b.makers.length) (ht : t < nK b) (z : PV) : lkpV [.i, .i] true z false (ownE b) (.agg [pi h, pi t]) = some (pi (ownN b h t)) := by
  unfold ownE
  rw [lkpV_map (p := fun v => decide (v = (h, t))) view_self view_key]
  have hf : (worksL b).find? (fun v => decide (v = (h, t))) = some (h, t) := by
    cases e : (worksL b).find? (fun v => decide (v = (h, t))) with
    | none =>
      have := List.find?_eq_none.1 e _ (mem_works hh ht)
      simp at this
    | some v =>
      have := List.find?_some e
      simp only [decide_eq_true_eq] at this
      rw [this]
  rw [hf]
  rfl
theorem works_nodup (b : MBook) : (worksL b).Nodup := by
  unfold worksL
  rw [List.Nodup, List.pairwise_map]
  refine List.Pairwise.imp ?_ (List.pairwise_lt_range (n := b.makers.length * nK b))
  intro x y hlt he
  simp only [Prod.mk.injEq] at he
  have h1 := Nat.div_add_mod x (nK b)
  have h2 := Nat.div_add_mod y (nK b)
  rw [he.1, he.2] at h1
  omega
theorem works_len (b : MBook) : (worksL b).length = b.makers.length * nK b := by simp [worksL]
theorem own_put {b : MBook} {i h t : Nat} (hi : i < (worksL b).length) (hv : (worksL b)[i] = (h, t)) : mput [.i, .i] true (.agg [pi h, pi t]) (pi (ownN b h t)) ((ownE b).take i) = some ((ownE b).take (i + 1)) := by
  have hE : ∀ j, (ownE b).take j = ((worksL b).take j).map fun v => (.agg [pi v.1, pi v.2], pi (ownN b v.1 v.2)) := fun j => by unfold ownE; rw [List.map_take]
  have hsub : ∀ v ∈ (worksL b).take i, v ∈ worksL b := fun v hv => List.mem_of_mem_take hv
  rw [hE, hE, mput_new (p := fun v => decide (v = (h, t))) view_self (fun v hv => view_key v (hsub v hv)), List.take_succ_eq_append_getElem hi, List.map_append, hv]
  · rfl
  · intro v hv2
    refine decide_eq_false fun he => ?_
    subst he
    obtain ⟨j, hj, e⟩ := List.mem_iff_getElem.1 hv2
    rw [List.length_take] at hj
    rw [List.getElem_take] at e
    have := (List.getElem_inj (h₀ := by omega) (h₁ := hi) (works_nodup b)).1 (e.trans hv.symm)
    omega
theorem seen_step {b : MBook} {j : Nat} (hj : j < b.seen.length) (k : Nat) : seenL (b.seen.take (j + 1)) k = if b.seen[j].1 = (k : Int) then seenL (b.seen.take j) k &&& b.seen[j].2.toNat else seenL (b.seen.take j) k := by
  unfold seenL
  rw [List.take_succ_eq_append_getElem hj, List.foldl_append]
  rfl
theorem seenL_le (l : List (Int × Int)) (k : Nat) : seenL l k ≤ 31 := seen_le ⟨[], l, 0, 0⟩ k
theorem bookOf_sem (k k2 : SK) {b : MBook} (ho : okC b) (hl : b.seen.length ≤ 1000) : Sem1 115 [.agg (bookC k k2 b)] (bookP k k2 b) := by
  obtain ⟨h1, h2, h3, h4, h5⟩ := ho
  have hwl := works_len b
  have hEl : (ownE b).length = (worksL b).length := by simp [ownE]
  have hMn : b.makers.length * nK b ≤ 30 := Nat.mul_le_mul h1.2 h2.2
  refine semC_of_exec' mixed Tryz.func115 (by kernel_rfl) (by kernel_rfl) ac115_ok 1 rfl (by decide) [(.tmp 2)] (by kernel_rfl) ?_
  intro hr C hC hI
  unfold ac115
  simp only [go_sem, Nat.reduceBEq, Nat.reduceAdd]
  refine ⟨?_, ?_⟩
  all_goals (
    refine call_pure2 hC (allValues_sem) rfl (PVleL_refl _) ?_
    rintro r rfl
    simp only [go_sem, Nat.reduceBEq, Nat.reduceAdd, Nat.reduceLeDiff, List.length_map]
    refine loop_kl b.seen.length (fun _ => True) [3, 19, 20] (fun j => [(21, .p (pi j))]) (fun j => [.cells ((bookC k k2 b).map .p), .mp [], .cells [.p (.sl k 1 (rowsC b.makers)), .p (.sl k2 2 (seenC b.seen)), .p (pi b.repairs), .p (pi b.fixed), .p (pi (seenL (b.seen.take j) 0)), .p (pi (seenL (b.seen.take j) 1)), .p (pi (seenL (b.seen.take j) 2)), .p (pi (seenL (b.seen.take j) 3)), .p (pi (seenL (b.seen.take j) 4)), .p (pi (seenL (b.seen.take j) 5)), .mpl 1]]) trivial (by simp [Wk, wkT, wkL, look, AV.lo, AV.lo.loL, ABlk.toZ, upS_eq, keepS_nil, keepS_cons, seenL]) ?_
    rintro j ⟨hj, -⟩
    simp only [go_sem, Nat.reduceBEq]
    refine ⟨fun c5 => ?_, fun c5 => ?_⟩
    · have hj2 : j < b.seen.length := by omega
      obtain ⟨⟨q1, q2⟩, q3, q4⟩ := h4 _ (List.getElem_mem hj2)
      obtain ⟨c, v, ec, hc⟩ : ∃ c v : Nat, b.seen[j] = ((c : Int), (v : Int)) ∧ c < 6 := ⟨b.seen[j].1.toNat, b.seen[j].2.toNat, Prod.ext (by simp only; omega) (by simp only; omega), by omega⟩
      have hv31 : v ≤ 31 := by rw [ec] at q4; simp only at q4; omega
      have hst := seen_step hj2
      rw [ec] at hst
      simp only [Int.toNat_natCast] at hst
      have hand : ∀ q, binS false .and (.p (pi (seenL (b.seen.take j) q))) (.p (pi (v : Nat))) = some (.p (pi ((seenL (b.seen.take j) q &&& v : Nat) : Int))) := fun q => bin_andN (by have := seenL_le (b.seen.take j) q; omega) (by omega)
      have hiad := iadr_map (f := fun m : Int × Int => [pi m.1, pi m.2]) (kd := k2) (sz := 2) hj2
      rw [ec] at hiad
      rcases lt6 hc with rfl | rfl | rfl | rfl | rfl | rfl
      · have g0 : seenL (b.seen.take (j + 1)) 0 = seenL (b.seen.take j) 0 &&& v := by rw [hst]; exact if_pos rfl
        have g1 : seenL (b.seen.take (j + 1)) 1 = seenL (b.seen.take j) 1 := by rw [hst]; exact if_neg (by decide)
        have g2 : seenL (b.seen.take (j + 1)) 2 = seenL (b.seen.take j) 2 := by rw [hst]; exact if_neg (by decide)
        have g3 : seenL (b.seen.take (j + 1)) 3 = seenL (b.seen.take j) 3 := by rw [hst]; exact if_neg (by decide)
        have g4 : seenL (b.seen.take (j + 1)) 4 = seenL (b.seen.take j) 4 := by rw [hst]; exact if_neg (by decide)
        have g5 : seenL (b.seen.take (j + 1)) 5 = seenL (b.seen.take j) 5 := by rw [hst]; exact if_neg (by decide)
        simp only [go_sem, Nat.reduceBEq, Nat.reduceAdd, Nat.reduceLeDiff, hiad, putCells, Int.cast_ofNat_Int, ia6_0, hand, wrap_succ (k := j) (by omega)]
        exact ⟨⟨j + 1, hj2, trivial⟩, by simp only; omega, by simp [Wk, wkT, wkL, look, AV.lo, AV.lo.loL, ABlk.toZ, g0, g1, g2, g3, g4, g5]⟩
      · have g0 : seenL (b.seen.take (j + 1)) 0 = seenL (b.seen.take j) 0 := by rw [hst]; exact if_neg (by decide)
        have g1 : seenL (b.seen.take (j + 1)) 1 = seenL (b.seen.take j) 1 &&& v := by rw [hst]; exact if_pos rfl
        have g2 : seenL (b.seen.take (j + 1)) 2 = seenL (b.seen.take j) 2 := by rw [hst]; exact if_neg (by decide)
        have g3 : seenL (b.seen.take (j + 1)) 3 = seenL (b.seen.take j) 3 := by rw [hst]; exact if_neg (by decide)
        have g4 : seenL (b.seen.take (j + 1)) 4 = seenL (b.seen.take j) 4 := by rw [hst]; exact if_neg (by decide)
        have g5 : seenL (b.seen.take (j + 1)) 5 = seenL (b.seen.take j) 5 := by rw [hst]; exact if_neg (by decide)
        simp only [go_sem, Nat.reduceBEq, Nat.reduceAdd, Nat.reduceLeDiff, hiad, putCells, Int.cast_ofNat_Int, ia6_1, hand, wrap_succ (k := j) (by omega)]
        exact ⟨⟨j + 1, hj2, trivial⟩, by simp only; omega, by simp [Wk, wkT, wkL, look, AV.lo, AV.lo.loL, ABlk.toZ, g0, g1, g2, g3, g4, g5]⟩
      · have g0 : seenL (b.seen.take (j + 1)) 0 = seenL (b.seen.take j) 0 := by rw [hst]; exact if_neg (by decide)
        have g1 : seenL (b.seen.take (j + 1)) 1 = seenL (b.seen.take j) 1 := by rw [hst]; exact if_neg (by decide)
        have g2 : seenL (b.seen.take (j + 1)) 2 = seenL (b.seen.take j) 2 &&& v := by rw [hst]; exact if_pos rfl
        have g3 : seenL (b.seen.take (j + 1)) 3 = seenL (b.seen.take j) 3 := by rw [hst]; exact if_neg (by decide)
        have g4 : seenL (b.seen.take (j + 1)) 4 = seenL (b.seen.take j) 4 := by rw [hst]; exact if_neg (by decide)
        have g5 : seenL (b.seen.take (j + 1)) 5 = seenL (b.seen.take j) 5 := by rw [hst]; exact if_neg (by decide)
        simp only [go_sem, Nat.reduceBEq, Nat.reduceAdd, Nat.reduceLeDiff, hiad, putCells, Int.cast_ofNat_Int, ia6_2, hand, wrap_succ (k := j) (by omega)]
        exact ⟨⟨j + 1, hj2, trivial⟩, by simp only; omega, by simp [Wk, wkT, wkL, look, AV.lo, AV.lo.loL, ABlk.toZ, g0, g1, g2, g3, g4, g5]⟩
      · have g0 : seenL (b.seen.take (j + 1)) 0 = seenL (b.seen.take j) 0 := by rw [hst]; exact if_neg (by decide)
        have g1 : seenL (b.seen.take (j + 1)) 1 = seenL (b.seen.take j) 1 := by rw [hst]; exact if_neg (by decide)
        have g2 : seenL (b.seen.take (j + 1)) 2 = seenL (b.seen.take j) 2 := by rw [hst]; exact if_neg (by decide)
        have g3 : seenL (b.seen.take (j + 1)) 3 = seenL (b.seen.take j) 3 &&& v := by rw [hst]; exact if_pos rfl
        have g4 : seenL (b.seen.take (j + 1)) 4 = seenL (b.seen.take j) 4 := by rw [hst]; exact if_neg (by decide)
        have g5 : seenL (b.seen.take (j + 1)) 5 = seenL (b.seen.take j) 5 := by rw [hst]; exact if_neg (by decide)
        simp only [go_sem, Nat.reduceBEq, Nat.reduceAdd, Nat.reduceLeDiff, hiad, putCells, Int.cast_ofNat_Int, ia6_3, hand, wrap_succ (k := j) (by omega)]
        exact ⟨⟨j + 1, hj2, trivial⟩, by simp only; omega, by simp [Wk, wkT, wkL, look, AV.lo, AV.lo.loL, ABlk.toZ, g0, g1, g2, g3, g4, g5]⟩
      · have g0 : seenL (b.seen.take (j + 1)) 0 = seenL (b.seen.take j) 0 := by rw [hst]; exact if_neg (by decide)
        have g1 : seenL (b.seen.take (j + 1)) 1 = seenL (b.seen.take j) 1 := by rw [hst]; exact if_neg (by decide)
        have g2 : seenL (b.seen.take (j + 1)) 2 = seenL (b.seen.take j) 2 := by rw [hst]; exact if_neg (by decide)
        have g3 : seenL (b.seen.take (j + 1)) 3 = seenL (b.seen.take j) 3 := by rw [hst]; exact if_neg (by decide)
        have g4 : seenL (b.seen.take (j + 1)) 4 = seenL (b.seen.take j) 4 &&& v := by rw [hst]; exact if_pos rfl
        have g5 : seenL (b.seen.take (j + 1)) 5 = seenL (b.seen.take j) 5 := by rw [hst]; exact if_neg (by decide)
        simp only [go_sem, Nat.reduceBEq, Nat.reduceAdd, Nat.reduceLeDiff, hiad, putCells, Int.cast_ofNat_Int, ia6_4, hand, wrap_succ (k := j) (by omega)]
        exact ⟨⟨j + 1, hj2, trivial⟩, by simp only; omega, by simp [Wk, wkT, wkL, look, AV.lo, AV.lo.loL, ABlk.toZ, g0, g1, g2, g3, g4, g5]⟩
      · have g0 : seenL (b.seen.take (j + 1)) 0 = seenL (b.seen.take j) 0 := by rw [hst]; exact if_neg (by decide)
        have g1 : seenL (b.seen.take (j + 1)) 1 = seenL (b.seen.take j) 1 := by rw [hst]; exact if_neg (by decide)
        have g2 : seenL (b.seen.take (j + 1)) 2 = seenL (b.seen.take j) 2 := by rw [hst]; exact if_neg (by decide)
        have g3 : seenL (b.seen.take (j + 1)) 3 = seenL (b.seen.take j) 3 := by rw [hst]; exact if_neg (by decide)
        have g4 : seenL (b.seen.take (j + 1)) 4 = seenL (b.seen.take j) 4 := by rw [hst]; exact if_neg (by decide)
        have g5 : seenL (b.seen.take (j + 1)) 5 = seenL (b.seen.take j) 5 &&& v := by rw [hst]; exact if_pos rfl
        simp only [go_sem, Nat.reduceBEq, Nat.reduceAdd, Nat.reduceLeDiff, hiad, putCells, Int.cast_ofNat_Int, ia6_5, hand, wrap_succ (k := j) (by omega)]
        exact ⟨⟨j + 1, hj2, trivial⟩, by simp only; omega, by simp [Wk, wkT, wkL, look, AV.lo, AV.lo.loL, ABlk.toZ, g0, g1, g2, g3, g4, g5]⟩
    · have hjn : j = b.seen.length := by omega
      subst hjn
      rw [List.take_length]
      simp only [go_sem, List.length_map]
      refine loop_kl b.makers.length (fun _ => True) [3, 43, 44] (fun m => [(45, .p (pi m))]) (fun m => [.cells ((bookC k k2 b).map .p), if m < b.makers.length then .mp ((ownE b).take (m * nK b)) else .mpz (ownE b), .cells [.p (.sl k 1 (rowsC b.makers)), .p (.sl k2 2 (seenC b.seen)), .p (pi b.repairs), .p (pi b.fixed), .p (pi (seenN b 0)), .p (pi (seenN b 1)), .p (pi (seenN b 2)), .p (pi (seenN b 3)), .p (pi (seenN b 4)), .p (pi (seenN b 5)), .mpl 1]]) trivial (by rw [if_pos (show 0 < b.makers.length by omega)]; simp [Wk, wkT, wkL, look, AV.lo, AV.lo.loL, ABlk.toZ, upS_eq, keepS_nil, keepS_cons, seenN]) ?_
      rintro m ⟨hm, -⟩
      simp only [go_sem, Nat.reduceBEq]
      refine ⟨fun d5 => ?_, fun d5 => ?_⟩
      · have hm2 : m < b.makers.length := by omega
        have hrow : b.makers[m].length = nK b := (h3 _ (List.getElem_mem hm2)).1
        rw [if_pos hm2]
        simp only [go_sem, Nat.reduceBEq, iadr_map (f := fun h => [pis h]) (kd := k) (sz := 1) hm2, List.length_map, hrow]
        refine loop_kl (nK b) (fun _ => True) [3, 6, 43, 44, 45, 50, 51] (fun q => [(52, .p (pi q))]) (fun q => [.cells ((bookC k k2 b).map .p), .mp ((ownE b).take (m * nK b + q)), .cells [.p (.sl k 1 (rowsC b.makers)), .p (.sl k2 2 (seenC b.seen)), .p (pi b.repairs), .p (pi b.fixed), .p (pi (seenN b 0)), .p (pi (seenN b 1)), .p (pi (seenN b 2)), .p (pi (seenN b 3)), .p (pi (seenN b 4)), .p (pi (seenN b 5)), .mpl 1]]) trivial (by simp [Wk, wkT, wkL, look, AV.lo, AV.lo.loL, ABlk.toZ, upS_eq, keepS_nil, keepS_cons]) ?_
        rintro q ⟨hq, -⟩
        simp only [go_sem, Nat.reduceBEq]
        refine ⟨fun e5 => ?_, fun e5 => ?_⟩
        · have hq2 : q < nK b := by omega
          have hql : q < b.makers[m].length := by omega
          have hiw : m * nK b + q < (worksL b).length := by
            rw [hwl]
            have : (m + 1) * nK b ≤ b.makers.length * nK b := Nat.mul_le_mul_right _ hm2
            rw [Nat.add_mul] at this
            omega
          have hv : (worksL b)[m * nK b + q] = (m, q) := by
            simp only [worksL, List.getElem_map, List.getElem_range]
            rw [Nat.mul_comm, Nat.mul_add_div (by omega), Nat.div_eq_of_lt hq2, Nat.add_zero, Nat.mul_add_mod, Nat.mod_eq_of_lt hq2]
          have hput := own_put hiw hv
          obtain ⟨k1, k2', k3⟩ := okC.mk ⟨h1, h2, h3, h4, h5⟩ hm2 hq2
          have hval := mk_get hm2 hql
          rw [k3] at hval
          have hand : binS false .and (.p (pi (mkN b m q : Nat))) (.p (pi (seenN b q : Nat))) = some (.p (pi (ownN b m q : Nat))) := bin_andN (by omega) (by have := seen_le b q; omega)
          have hiad := iadr_pis (kd := .sh) hql
          rw [hval] at hiad
          rcases lt6 (show q < 6 by omega) with rfl | rfl | rfl | rfl | rfl | rfl
          · simp only [go_sem, Nat.reduceBEq, Nat.reduceAdd, Nat.reduceLeDiff, hiad, putCells, ia6 (i := 0) (by decide), Nat.reduceAdd, hand, wrap_succ (k := 0) (by omega)]
            exact ⟨_, hput, ⟨1, hq2, trivial⟩, by simp only; omega, by simp [Wk, wkT, wkL, look, AV.lo, AV.lo.loL, ABlk.toZ]⟩
          · simp only [go_sem, Nat.reduceBEq, Nat.reduceAdd, Nat.reduceLeDiff, hiad, putCells, ia6 (i := 1) (by decide), Nat.reduceAdd, hand, wrap_succ (k := 1) (by omega)]
            exact ⟨_, hput, ⟨2, hq2, trivial⟩, by simp only; omega, by simp [Wk, wkT, wkL, look, AV.lo, AV.lo.loL, ABlk.toZ, Nat.add_assoc]⟩
          · simp only [go_sem, Nat.reduceBEq, Nat.reduceAdd, Nat.reduceLeDiff, hiad, putCells, ia6 (i := 2) (by decide), Nat.reduceAdd, hand, wrap_succ (k := 2) (by omega)]
            exact ⟨_, hput, ⟨3, hq2, trivial⟩, by simp only; omega, by simp [Wk, wkT, wkL, look, AV.lo, AV.lo.loL, ABlk.toZ, Nat.add_assoc]⟩
          · simp only [go_sem, Nat.reduceBEq, Nat.reduceAdd, Nat.reduceLeDiff, hiad, putCells, ia6 (i := 3) (by decide), Nat.reduceAdd, hand, wrap_succ (k := 3) (by omega)]
            exact ⟨_, hput, ⟨4, hq2, trivial⟩, by simp only; omega, by simp [Wk, wkT, wkL, look, AV.lo, AV.lo.loL, ABlk.toZ, Nat.add_assoc]⟩
          · simp only [go_sem, Nat.reduceBEq, Nat.reduceAdd, Nat.reduceLeDiff, hiad, putCells, ia6 (i := 4) (by decide), Nat.reduceAdd, hand, wrap_succ (k := 4) (by omega)]
            exact ⟨_, hput, ⟨5, hq2, trivial⟩, by simp only; omega, by simp [Wk, wkT, wkL, look, AV.lo, AV.lo.loL, ABlk.toZ, Nat.add_assoc]⟩
          · simp only [go_sem, Nat.reduceBEq, Nat.reduceAdd, Nat.reduceLeDiff, hiad, putCells, ia6 (i := 5) (by decide), Nat.reduceAdd, hand, wrap_succ (k := 5) (by omega)]
            exact ⟨_, hput, ⟨6, hq2, trivial⟩, by simp only; omega, by simp [Wk, wkT, wkL, look, AV.lo, AV.lo.loL, ABlk.toZ, Nat.add_assoc]⟩
        · have hqn : q = nK b := by omega
          simp only [go_sem, wrap_succ (k := m) (by omega)]
          refine ⟨⟨m + 1, hm2, trivial⟩, by simp only; omega, ?_⟩
          have e1 : m * nK b + q = (m + 1) * nK b := by rw [hqn, Nat.add_mul]; omega
          rw [e1]
          by_cases hlast : m + 1 < b.makers.length
          · simp only [if_pos hlast]
            simp [Wk, wkT, wkL, look, AV.lo, AV.lo.loL, ABlk.toZ]
          · simp only [if_neg hlast]
            have e2 : (ownE b).take ((m + 1) * nK b) = ownE b := List.take_of_length_le (by rw [hEl, hwl, show m + 1 = b.makers.length by omega]; exact Nat.le_refl _)
            rw [e2]
            simp [Wk, wkT, wkL, look, AV.lo, AV.lo.loL, ABlk.toZ]
      · have hmn : m = b.makers.length := by omega
        subst hmn
        rw [if_neg (Nat.lt_irrefl _)]
        exact retQ_pur rfl rfl (PVle.refl _) rfl
  )
end Go.Proofs.YtlcpplkbmlmmbaaGreat.Mk
