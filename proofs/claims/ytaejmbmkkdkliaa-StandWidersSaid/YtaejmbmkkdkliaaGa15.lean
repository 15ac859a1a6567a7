/- Contracts of stand: loads and margins. Contracts of stand: books. -/
import Derived.Test.YtaejmbmkkdkliaaGa14
namespace Go.Proofs.Ytaejmbmkkdkliaa
open Go.RowKit
def ac110 : AC := (AC.seq (AC.ops [(AOp.mk (some 4) (AK.box 3 (AX.t 0)) none 0 false true), (AOp.mk (some 8) (AK.new (PV.agg [(PV.val (Value.int IntKind.i64 0)), (PV.val (Value.int IntKind.i64 0)), (PV.val (Value.int IntKind.i64 0))])) none 1 false true)]) (AC.seq (AC.ops [(AOp.mk (some 9) (AK.fadr 0 (AX.t 4)) none 0 false true), (AOp.mk (some 10) (AK.ld none (AX.t 9)) none 1 false true), (AOp.mk (some 11) (AK.mv (AX.t 1)) none 2 false true), (AOp.mk (some 12) (AK.bin false BinOp.add (AX.t 10) (AX.t 11)) none 3 false true), (AOp.mk (some 13) (AK.fadr 1 (AX.t 4)) none 4 false true), (AOp.mk (some 14) (AK.ld none (AX.t 13)) none 5 false true), (AOp.mk (some 15) (AK.mv (AX.t 1)) none 6 false true), (AOp.mk (some 16) (AK.mv (AX.t 2)) none 7 false true), (AOp.mk (some 17) (AK.bin false BinOp.mul (AX.t 15) (AX.t 16)) none 8 false true), (AOp.mk (some 18) (AK.bin false BinOp.add (AX.t 14) (AX.t 17)) none 9 false true), (AOp.mk (some 19) (AK.fadr 2 (AX.t 4)) none 10 false true), (AOp.mk (some 20) (AK.ld none (AX.t 19)) none 11 false true), (AOp.mk (some 21) (AK.mv (AX.t 1)) none 12 false true), (AOp.mk (some 22) (AK.mv (AX.t 3)) none 13 false true), (AOp.mk (some 23) (AK.bin false BinOp.mul (AX.t 21) (AX.t 22)) none 14 false true), (AOp.mk (some 24) (AK.bin false BinOp.add (AX.t 20) (AX.t 23)) none 15 false true), (AOp.mk (some 25) (AK.build [(PV.val (Value.int IntKind.i64 0)), (PV.val (Value.int IntKind.i64 0)), (PV.val (Value.int IntKind.i64 0))] [(0, (1, (AX.t 12))), (1, (1, (AX.t 18))), (2, (1, (AX.t 24)))]) none 16 false true), (AOp.mk none (AK.st 3 (AX.t 8) (AX.t 25)) none 17 false true)]) AC.ret))
theorem ac110_ok : cCode Try.prog (fun _ => false) Try.f110.ntmps (Try.f110.body.getD .skip) = some ac110 := by kernel_rfl
def ac114 : AC := (AC.seq (AC.ops [(AOp.mk (some 3) (AK.box 3 (AX.t 1)) none 0 false true), (AOp.mk (some 4) (AK.mv (AX.c (PV.val (Value.int IntKind.i64 0)))) none 1 false true)]) (AC.seq (AC.ops [(AOp.mk (some 5) (AK.mv (AX.t 0)) none 0 true false), (AOp.mk (some 6) (AK.nilc (AX.t 5)) none 1 true false), (AOp.mk (some 7) (AK.fadr 0 (AX.t 6)) none 2 true false), (AOp.mk (some 8) (AK.fadr 2 (AX.t 7)) none 3 true false), (AOp.mk (some 9) (AK.ld none (AX.t 8)) none 4 true false), (AOp.mk (some 10) (AK.fadr 0 (AX.t 3)) none 5 true false), (AOp.mk (some 11) (AK.ld none (AX.t 10)) none 6 true false), (AOp.mk (some 12) (AK.bin false BinOp.mul (AX.t 9) (AX.t 11)) none 7 true false), (AOp.mk (some 13) (AK.fadr 1 (AX.t 3)) none 8 true false), (AOp.mk (some 14) (AK.ld none (AX.t 13)) none 9 true false), (AOp.mk (some 15) (AK.bin false BinOp.add (AX.t 12) (AX.t 14)) none 10 true false), (AOp.mk (some 4) (AK.mv (AX.t 15)) none 11 true true)]) AC.ret))
theorem ac114_ok : cCode Try.prog (fun _ => false) Try.f114.ntmps (Try.f114.body.getD .skip) = some ac114 := by kernel_rfl
def ac115 : AC := (AC.seq (AC.ops [(AOp.mk (some 3) (AK.box 3 (AX.t 1)) none 0 false true), (AOp.mk (some 4) (AK.mv (AX.c (PV.val (Value.int IntKind.i64 0)))) none 1 false true)]) (AC.seq (AC.ops [(AOp.mk (some 5) (AK.mv (AX.t 0)) none 0 true false), (AOp.mk (some 6) (AK.nilc (AX.t 5)) none 1 true false), (AOp.mk (some 7) (AK.fadr 0 (AX.t 6)) none 2 true false), (AOp.mk (some 8) (AK.fadr 1 (AX.t 7)) none 3 true false), (AOp.mk (some 9) (AK.ld none (AX.t 8)) none 4 true false), (AOp.mk (some 10) (AK.fadr 0 (AX.t 3)) none 5 true false), (AOp.mk (some 11) (AK.ld none (AX.t 10)) none 6 true false), (AOp.mk (some 12) (AK.bin false BinOp.mul (AX.t 9) (AX.t 11)) none 7 true false), (AOp.mk (some 13) (AK.fadr 1 (AX.t 3)) none 8 true false), (AOp.mk (some 14) (AK.ld none (AX.t 13)) none 9 true false), (AOp.mk (some 15) (AK.bin false BinOp.sub (AX.t 12) (AX.t 14)) none 10 true false), (AOp.mk (some 4) (AK.mv (AX.t 15)) none 11 true true)]) AC.ret))
theorem ac115_ok : cCode Try.prog (fun _ => false) Try.f115.ntmps (Try.f115.body.getD .skip) = some ac115 := by kernel_rfl
def ac116 : AC := (AC.seq (AC.ops [(AOp.mk (some 3) (AK.box 3 (AX.t 1)) none 0 false true), (AOp.mk (some 4) (AK.mv (AX.c (PV.val (Value.int IntKind.i64 0)))) none 1 false true)]) (AC.seq (AC.ops [(AOp.mk (some 5) (AK.mv (AX.t 0)) none 0 true false), (AOp.mk (some 6) (AK.nilc (AX.t 5)) none 1 true false), (AOp.mk (some 7) (AK.fadr 0 (AX.t 6)) none 2 true false), (AOp.mk (some 8) (AK.fadr 2 (AX.t 7)) none 3 true false), (AOp.mk (some 9) (AK.ld none (AX.t 8)) none 4 true false), (AOp.mk (some 10) (AK.mv (AX.t 0)) none 5 true false), (AOp.mk (some 11) (AK.ld (some 3) (AX.t 3)) none 6 true false), (AOp.mk (some 14) (AK.mv (AX.t 0)) none 9 true false), (AOp.mk (some 15) (AK.nilc (AX.t 14)) none 10 true false), (AOp.mk (some 16) (AK.fadr 0 (AX.t 15)) none 11 true false), (AOp.mk (some 17) (AK.fadr 3 (AX.t 16)) none 12 true false), (AOp.mk (some 18) (AK.ld none (AX.t 17)) none 13 true false), (AOp.mk (some 19) (AK.fadr 1 (AX.t 3)) none 14 true false), (AOp.mk (some 20) (AK.ld none (AX.t 19)) none 15 true false), (AOp.mk (some 21) (AK.bin false BinOp.mul (AX.t 18) (AX.t 20)) none 16 true false), (AOp.mk (some 12) (AK.call 130 [(AX.t 10), (AX.t 11)]) none 7 false false), (AOp.mk (some 13) (AK.bin false BinOp.mul (AX.t 9) (AX.t 12)) none 8 true false), (AOp.mk (some 22) (AK.bin false BinOp.add (AX.t 13) (AX.t 21)) none 17 true false), (AOp.mk (some 4) (AK.mv (AX.t 22)) none 18 true true)]) AC.ret))
theorem ac116_ok : cCode Try.prog (fun _ => false) Try.f116.ntmps (Try.f116.body.getD .skip) = some ac116 := by kernel_rfl
def ac117 : AC := (AC.seq (AC.ops [(AOp.mk (some 3) (AK.box 3 (AX.t 1)) none 0 false true), (AOp.mk (some 4) (AK.mv (AX.c (PV.val (Value.int IntKind.i64 0)))) none 1 false true)]) (AC.seq (AC.ops [(AOp.mk (some 5) (AK.mv (AX.t 0)) none 0 true false), (AOp.mk (some 6) (AK.nilc (AX.t 5)) none 1 true false), (AOp.mk (some 7) (AK.fadr 0 (AX.t 6)) none 2 true false), (AOp.mk (some 8) (AK.fadr 1 (AX.t 7)) none 3 true false), (AOp.mk (some 9) (AK.ld none (AX.t 8)) none 4 true false), (AOp.mk (some 10) (AK.mv (AX.t 0)) none 5 true false), (AOp.mk (some 11) (AK.ld (some 3) (AX.t 3)) none 6 true false), (AOp.mk (some 14) (AK.mv (AX.t 0)) none 9 true false), (AOp.mk (some 15) (AK.nilc (AX.t 14)) none 10 true false), (AOp.mk (some 16) (AK.fadr 0 (AX.t 15)) none 11 true false), (AOp.mk (some 17) (AK.fadr 3 (AX.t 16)) none 12 true false), (AOp.mk (some 18) (AK.ld none (AX.t 17)) none 13 true false), (AOp.mk (some 19) (AK.fadr 1 (AX.t 3)) none 14 true false), (AOp.mk (some 20) (AK.ld none (AX.t 19)) none 15 true false), (AOp.mk (some 21) (AK.bin false BinOp.mul (AX.t 18) (AX.t 20)) none 16 true false), (AOp.mk (some 12) (AK.call 130 [(AX.t 10), (AX.t 11)]) none 7 false false), (AOp.mk (some 13) (AK.bin false BinOp.mul (AX.t 9) (AX.t 12)) none 8 true false), (AOp.mk (some 22) (AK.bin false BinOp.sub (AX.t 13) (AX.t 21)) none 17 true false), (AOp.mk (some 4) (AK.mv (AX.t 22)) none 18 true true)]) AC.ret))
theorem ac117_ok : cCode Try.prog (fun _ => false) Try.f117.ntmps (Try.f117.body.getD .skip) = some ac117 := by kernel_rfl
def ac130 : AC := (AC.seq (AC.ops [(AOp.mk (some 3) (AK.box 3 (AX.t 1)) none 0 false true), (AOp.mk (some 4) (AK.mv (AX.c (PV.val (Value.int IntKind.i64 0)))) none 1 false true)]) (AC.seq (AC.ops [(AOp.mk (some 5) (AK.mv (AX.t 0)) none 0 true false), (AOp.mk (some 6) (AK.nilc (AX.t 5)) none 1 true false), (AOp.mk (some 7) (AK.fadr 0 (AX.t 6)) none 2 true false), (AOp.mk (some 8) (AK.fadr 3 (AX.t 7)) none 3 true false), (AOp.mk (some 9) (AK.ld none (AX.t 8)) none 4 true false), (AOp.mk (some 10) (AK.fadr 0 (AX.t 3)) none 5 true false), (AOp.mk (some 11) (AK.ld none (AX.t 10)) none 6 true false), (AOp.mk (some 12) (AK.bin false BinOp.mul (AX.t 9) (AX.t 11)) none 7 true false), (AOp.mk (some 13) (AK.fadr 2 (AX.t 3)) none 8 true false), (AOp.mk (some 14) (AK.ld none (AX.t 13)) none 9 true false), (AOp.mk (some 15) (AK.bin false BinOp.sub (AX.t 12) (AX.t 14)) none 10 true false), (AOp.mk (some 4) (AK.mv (AX.t 15)) none 11 true true)]) AC.ret))
theorem ac130_ok : cCode Try.prog (fun _ => false) Try.f130.ntmps (Try.f130.body.getD .skip) = some ac130 := by kernel_rfl
def ac98 : AC := (AC.seq (AC.ops [(AOp.mk (some 0) (AK.mv (AX.c (PV.sl SK.full 0 []))) none 0 false true)]) (AC.seq (AC.ops [(AOp.mk (some 1) (AK.build [(PV.val (Value.int IntKind.i64 0)), (PV.val Value.nilFunc)] [(0, (1, (AX.c (PV.val (Value.int IntKind.i64 0))))), (1, (1, (AX.c (PV.val (Value.func (Fn.func 114) #[] #[])))))]) none 0 false true), (AOp.mk (some 2) (AK.build [(PV.val (Value.int IntKind.i64 0)), (PV.val Value.nilFunc)] [(0, (1, (AX.c (PV.val (Value.int IntKind.i64 0))))), (1, (1, (AX.c (PV.val (Value.func (Fn.func 115) #[] #[])))))]) none 1 false true), (AOp.mk (some 3) (AK.build [(PV.val (Value.int IntKind.i64 0)), (PV.val Value.nilFunc)] [(0, (1, (AX.c (PV.val (Value.int IntKind.i64 1))))), (1, (1, (AX.c (PV.val (Value.func (Fn.func 116) #[] #[])))))]) none 2 false true), (AOp.mk (some 4) (AK.build [(PV.val (Value.int IntKind.i64 0)), (PV.val Value.nilFunc)] [(0, (1, (AX.c (PV.val (Value.int IntKind.i64 1))))), (1, (1, (AX.c (PV.val (Value.func (Fn.func 117) #[] #[])))))]) none 3 false true), (AOp.mk (some 5) (AK.bslice false 121 2 4 [(PV.val (Value.int IntKind.i64 0)), (PV.val Value.nilFunc)] [(0, (2, (AX.t 1))), (2, (2, (AX.t 2))), (4, (2, (AX.t 3))), (6, (2, (AX.t 4)))]) none 4 false true), (AOp.mk (some 0) (AK.mv (AX.t 5)) none 5 false true)]) AC.ret))
theorem ac98_ok : cCode Try.prog (fun _ => false) Try.f98.ntmps (Try.f98.body.getD .skip) = some ac98 := by kernel_rfl
def ac132 : AC := (AC.seq (AC.ops [(AOp.mk (some 4) (AK.mv (AX.c (PV.val (Value.int IntKind.i64 0)))) none 0 false true)]) (AC.seq (AC.seq (AC.ops [(AOp.mk (some 7) (AK.mv (AX.t 1)) none 0 false true), (AOp.mk (some 8) (AK.len (AX.t 7)) none 1 false true), (AOp.mk (some 9) (AK.mv (AX.c (PV.val (Value.int IntKind.i64 0)))) none 2 false true)]) (AC.block 0 (AC.loop (AC.seq (AC.ops [(AOp.mk (some 10) (AK.bin false BinOp.lss (AX.t 9) (AX.t 8)) none 0 false true)]) (AC.seq (AC.cond (AX.t 10) AC.skip (AC.exit 0)) (AC.seq (AC.block 1 (AC.seq (AC.ops [(AOp.mk (some 11) (AK.iadrS 1 (AX.t 7) (AX.t 9)) none 0 false true), (AOp.mk (some 12) (AK.ld none (AX.t 11)) none 1 false true), (AOp.mk (some 6) (AK.mv (AX.t 12)) none 2 false true)]) (AC.ops [(AOp.mk (some 13) (AK.mv (AX.t 0)) none 0 false true), (AOp.mk (some 14) (AK.mv (AX.t 6)) none 1 false true), (AOp.mk (some 15) (AK.mx false [(AX.t 13), (AX.t 14)]) none 2 false true), (AOp.mk (some 0) (AK.mv (AX.t 15)) none 3 false true)]))) (AC.ops [(AOp.mk (some 16) (AK.bin false BinOp.add (AX.t 9) (AX.c (PV.val (Value.int IntKind.i64 1)))) none 0 false true), (AOp.mk (some 9) (AK.mv (AX.t 16)) none 1 false true)]))))))) (AC.seq (AC.ops [(AOp.mk (some 17) (AK.mv (AX.t 0)) none 0 false true), (AOp.mk (some 4) (AK.mv (AX.t 17)) none 1 false true)]) AC.ret)))
theorem ac132_ok : cCode Try.prog (fun _ => false) Try.f132.ntmps (Try.f132.body.getD .skip) = some ac132 := by kernel_rfl
theorem mulb {a b : Int} (A B : Nat) (h1 : -(A : Int) ≤ a ∧ a ≤ A) (h2 : -(B : Int) ≤ b ∧ b ≤ B) : -((A * B : Nat) : Int) ≤ a * b ∧ a * b ≤ ((A * B : Nat) : Int) := by
  have h3 := Nat.mul_le_mul (show a.natAbs ≤ A by omega) (show b.natAbs ≤ B by omega)
  rw [← Int.natAbs_mul] at h3
  omega
theorem wrap_in {n : Int} (A : Nat) (h : -(A : Int) ≤ n ∧ n ≤ A) (hA : A ≤ 1000000000000000000) : IntKind.i64.wrap n = n := wrap_id (by omega) (by omega)
structure SLoad where
  w : Int
  a : Int
  h : Int
abbrev loadC (l : SLoad) : List PV := [pi l.w, pi l.a, pi l.h]
def SLoad.add (l : SLoad) (w a h : Int) : SLoad := ⟨l.w + w, l.a + w * a, l.h + w * h⟩
/-- Loads of this size do not overflow. -/
def SLoad.ok (n : Nat) (l : SLoad) : Prop := (-(n : Int) ≤ l.w ∧ l.w ≤ n) ∧ (-((n * 100 : Nat) : Int) ≤ l.a ∧ l.a ≤ ((n * 100 : Nat) : Int)) ∧ (-((n * 100 : Nat) : Int) ≤ l.h ∧ l.h ≤ ((n * 100 : Nat) : Int))
theorem SLoad.ok_add {n m : Nat} {l : SLoad} {w a h : Int} (hl : l.ok n) (hw : -(m : Int) ≤ w ∧ w ≤ m) (ha : -100 ≤ a ∧ a ≤ 100) (hh : -100 ≤ h ∧ h ≤ 100) : (l.add w a h).ok (n + m) := by
  obtain ⟨h1, h2, h3⟩ := hl
  have k1 := mulb m 100 hw ha
  have k2 := mulb m 100 hw hh
  unfold SLoad.ok SLoad.add
  refine ⟨?_, ?_, ?_⟩ <;> simp only <;> omega
theorem with_sem (l : SLoad) (w a h : Int) (hl : l.ok 1000) (hw : -1000 ≤ w ∧ w ≤ 1000) (ha : -100 ≤ a ∧ a ≤ 100) (hh : -100 ≤ h ∧ h ≤ 100) : Sem1 110 [.agg (loadC l), pi w, pi a, pi h] (.agg (loadC (l.add w a h))) := by
  refine semC_of_exec' mixed Try.func110 (by kernel_rfl) (by kernel_rfl) ac110_ok 4 rfl (by decide) [(.cell 8 131)] (by kernel_rfl) ?_
  intro hr C hC hI
  unfold ac110
  simp only [go_sem, Nat.reduceBEq, Nat.reduceAdd, Nat.reduceLeDiff]
  obtain ⟨h1, h2, h3⟩ := hl
  have k1 := mulb 1000 100 hw ha
  have k2 := mulb 1000 100 hw hh
  rw [wrap_id (n := w * a) (by omega) (by omega), wrap_id (n := w * h) (by omega) (by omega), wrap_id (n := l.w + w) (by omega) (by omega), wrap_id (n := l.a + w * a) (by omega) (by omega), wrap_id (n := l.h + w * h) (by omega) (by omega)]
  exact retQ_cell (n := some 3) (by kernel_rfl) rfl rfl
/-- A side: its kind, and the function of its top. -/
def sidesL (n : Int) : List (List PV) := if n = 0 then [[pi 0, .val (.func (.func 114) #[] #[])], [pi 0, .val (.func (.func 115) #[] #[])]] else [[pi 1, .val (.func (.func 116) #[] #[])], [pi 1, .val (.func (.func 117) #[] #[])]]
abbrev bookP (k k2 ks : SK) (b : SBook) : PV := .ptr [pi b.kind, pi b.front, pi b.back, pi b.radius, .sl k 4 (b.parts.map partC), pi b.along, pi b.high, pi b.lean, pi b.limit, .sl k2 3 (b.trials.map trialC), .sl ks 2 (sidesL b.kind)] 0
/-- A book's numbers are small. -/
def small (b : SBook) : Prop := (0 ≤ b.front ∧ b.front ≤ 100) ∧ (0 ≤ b.back ∧ b.back ≤ 100) ∧ (0 ≤ b.radius ∧ b.radius ≤ 200) ∧ (-60 ≤ b.along ∧ b.along ≤ 60) ∧ (0 ≤ b.high ∧ b.high ≤ 60)
section
variable {k k2 ks : SK} {b : SBook} {l : SLoad}
theorem feetBack_sem (hb : small b) (hl : l.ok 10000) : Sem1 114 [bookP k k2 ks b, .agg (loadC l)] (pi (b.back * l.w + l.a)) := by
  refine semC_of_exec' mixed Try.func114 (by kernel_rfl) (by kernel_rfl) ac114_ok 2 rfl (by decide) [(.tmp 4)] (by kernel_rfl) ?_
  intro hr C hC hI
  unfold ac114
  simp only [go_sem, Nat.reduceBEq, Nat.reduceAdd]
  obtain ⟨h1, h2, h3⟩ := hl
  obtain ⟨b1, b2, b3, b4, b5⟩ := hb
  have k1 := mulb 100 10000 (show -((100 : Nat) : Int) ≤ b.back ∧ b.back ≤ ((100 : Nat) : Int) by omega) h1
  rw [wrap_id (n := b.back * l.w) (by omega) (by omega), wrap_id (n := b.back * l.w + l.a) (by omega) (by omega)]
  exact retQ_one rfl rfl
theorem feetFront_sem (hb : small b) (hl : l.ok 10000) : Sem1 115 [bookP k k2 ks b, .agg (loadC l)] (pi (b.front * l.w - l.a)) := by
  refine semC_of_exec' mixed Try.func115 (by kernel_rfl) (by kernel_rfl) ac115_ok 2 rfl (by decide) [(.tmp 4)] (by kernel_rfl) ?_
  intro hr C hC hI
  unfold ac115
  simp only [go_sem, Nat.reduceBEq, Nat.reduceAdd]
  obtain ⟨h1, h2, h3⟩ := hl
  obtain ⟨b1, b2, b3, b4, b5⟩ := hb
  have k1 := mulb 100 10000 (show -((100 : Nat) : Int) ≤ b.front ∧ b.front ≤ ((100 : Nat) : Int) by omega) h1
  rw [wrap_id (n := b.front * l.w) (by omega) (by omega), wrap_id (n := b.front * l.w - l.a) (by omega) (by omega)]
  exact retQ_one rfl rfl
theorem depth_sem (hb : small b) (hl : l.ok 10000) : Sem1 130 [bookP k k2 ks b, .agg (loadC l)] (pi (b.radius * l.w - l.h)) := by
  refine semC_of_exec' mixed Try.func130 (by kernel_rfl) (by kernel_rfl) ac130_ok 2 rfl (by decide) [(.tmp 4)] (by kernel_rfl) ?_
  intro hr C hC hI
  unfold ac130
  simp only [go_sem, Nat.reduceBEq, Nat.reduceAdd]
  obtain ⟨h1, h2, h3⟩ := hl
  obtain ⟨b1, b2, b3, b4, b5⟩ := hb
  have k1 := mulb 200 10000 (show -((200 : Nat) : Int) ≤ b.radius ∧ b.radius ≤ ((200 : Nat) : Int) by omega) h1
  rw [wrap_id (n := b.radius * l.w) (by omega) (by omega), wrap_id (n := b.radius * l.w - l.h) (by omega) (by omega)]
  exact retQ_one rfl rfl
theorem bow_bd (hb : small b) (hl : l.ok 10000) : (-3000000 ≤ b.radius * l.w - l.h ∧ b.radius * l.w - l.h ≤ 3000000) ∧ (-200000000 ≤ b.radius * l.a ∧ b.radius * l.a ≤ 200000000) ∧ (-300000000 ≤ b.back * (b.radius * l.w - l.h) ∧ b.back * (b.radius * l.w - l.h) ≤ 300000000) ∧ (-300000000 ≤ b.front * (b.radius * l.w - l.h) ∧ b.front * (b.radius * l.w - l.h) ≤ 300000000) := by
  obtain ⟨h1, h2, h3⟩ := hl
  obtain ⟨b1, b2, b3, b4, b5⟩ := hb
  have k1 := mulb 200 10000 (show -((200 : Nat) : Int) ≤ b.radius ∧ b.radius ≤ ((200 : Nat) : Int) by omega) h1
  have k2 := mulb 200 1000000 (show -((200 : Nat) : Int) ≤ b.radius ∧ b.radius ≤ ((200 : Nat) : Int) by omega) h2
  have k3 := mulb 100 3000000 (a := b.back) (b := b.radius * l.w - l.h) (by omega) (by omega)
  have k4 := mulb 100 3000000 (a := b.front) (b := b.radius * l.w - l.h) (by omega) (by omega)
  omega
theorem bowBack_sem (hb : small b) (hl : l.ok 10000) : Sem1 116 [bookP k k2 ks b, .agg (loadC l)] (pi (b.back * (b.radius * l.w - l.h) + b.radius * l.a)) := by
  refine semC_of_exec' mixed Try.func116 (by kernel_rfl) (by kernel_rfl) ac116_ok 2 rfl (by decide) [(.tmp 4)] (by kernel_rfl) ?_
  intro hr C hC hI
  unfold ac116
  simp only [go_sem, Nat.reduceBEq, Nat.reduceAdd]
  refine call_pure2 hC (depth_sem hb hl) rfl (PVleL_refl _) ?_
  rintro r rfl
  simp only [go_sem, Nat.reduceBEq]
  obtain ⟨k1, k2, k3, k4⟩ := bow_bd hb hl
  rw [wrap_id (n := b.radius * l.a) (by omega) (by omega), wrap_id (n := b.back * (b.radius * l.w - l.h)) (by omega) (by omega), wrap_id (n := b.back * (b.radius * l.w - l.h) + b.radius * l.a) (by omega) (by omega)]
  exact retQ_one rfl rfl
theorem bowFront_sem (hb : small b) (hl : l.ok 10000) : Sem1 117 [bookP k k2 ks b, .agg (loadC l)] (pi (b.front * (b.radius * l.w - l.h) - b.radius * l.a)) := by
  refine semC_of_exec' mixed Try.func117 (by kernel_rfl) (by kernel_rfl) ac117_ok 2 rfl (by decide) [(.tmp 4)] (by kernel_rfl) ?_
  intro hr C hC hI
  unfold ac117
  simp only [go_sem, Nat.reduceBEq, Nat.reduceAdd]
  refine call_pure2 hC (depth_sem hb hl) rfl (PVleL_refl _) ?_
  rintro r rfl
  simp only [go_sem, Nat.reduceBEq]
  obtain ⟨k1, k2, k3, k4⟩ := bow_bd hb hl
  rw [wrap_id (n := b.radius * l.a) (by omega) (by omega), wrap_id (n := b.front * (b.radius * l.w - l.h)) (by omega) (by omega), wrap_id (n := b.front * (b.radius * l.w - l.h) - b.radius * l.a) (by omega) (by omega)]
  exact retQ_one rfl rfl
end
theorem sides_sem : SemC Try.prog 98 [] fun r => r = .sl .full 2 (sidesL 0 ++ sidesL 1) := by
  refine semC_of_exec' mixed Try.func98 (by kernel_rfl) (by kernel_rfl) ac98_ok 0 rfl (by decide) [(.tmp 0)] (by kernel_rfl) ?_
  intro hr C hC hI
  unfold ac98
  simp only [go_sem, Nat.reduceBEq, Nat.reduceAdd, Nat.reduceLeDiff]
  exact retQ_one rfl rfl
theorem foldl_take {α β : Type} (f : β → α → β) (x : β) (l : List α) (j : Nat) (h : j < l.length) : (l.take (j + 1)).foldl f x = f ((l.take j).foldl f x) l[j] := by
  rw [List.take_succ_eq_append_getElem h, List.foldl_append]; rfl
theorem least_sem (x : Int) (l : List Int) : Sem1 132 [pi x, pis l] (pi (l.foldl (maxI false) x)) := by
  refine semC_of_exec' mixed Try.func132 (by kernel_rfl) (by kernel_rfl) ac132_ok 2 rfl (by decide) [(.tmp 4)] (by kernel_rfl) ?_
  intro hr C hC hI
  unfold ac132
  simp only [go_sem, Nat.reduceBEq, List.length_map]
  have hlen := real_len (i := 1) hr rfl
  rw [List.length_map] at hlen
  refine loop_nat l.length (fun _ => True) (fun j => ⟨[(9, .p (pi j)), (8, .p (pi l.length)), (7, .p (pis l)), (0, .p (pi ((l.take j).foldl (maxI false) x)))], [], [], some [], 0⟩) trivial (by simp [Wk, wkT, wkL, look, AV.lo]) ?_
  rintro j ⟨hj, -⟩
  simp only [go_sem, Nat.reduceBEq]
  refine ⟨fun h5 => ?_, fun h5 => ?_⟩
  · have hj2 : j < l.length := by omega
    simp only [go_sem, Nat.reduceBEq, iadr_pis hj2, wrap_succ (k := j) (by omega)]
    refine ⟨⟨j + 1, hj2, trivial⟩, by simp only; omega, ?_⟩
    rw [foldl_take _ _ _ _ hj2]
    exact by simp [Wk, wkT, wkL, look, AV.lo]
  · have hjn : j = l.length := by omega
    subst hjn
    exact retQ_one rfl (by rw [List.take_length])
end Go.Proofs.Ytaejmbmkkdkliaa
namespace Go.Proofs.Ytaejmbmkkdkliaa
open Go.RowKit
def ac61 : AC := (AC.seq (AC.ops [(AOp.mk (some 1) (AK.box 10 (AX.t 0)) none 0 false true), (AOp.mk (some 2) (AK.mv (AX.c PV.nilp)) none 1 false true)]) (AC.seq (AC.ops [(AOp.mk (some 6) (AK.ld (some 10) (AX.t 1)) none 0 false true), (AOp.mk (some 7) (AK.build [(PV.val (Value.int IntKind.i64 0)), (PV.val (Value.int IntKind.i64 0)), (PV.val (Value.int IntKind.i64 0)), (PV.val (Value.int IntKind.i64 0)), (PV.sl SK.full 0 []), (PV.val (Value.int IntKind.i64 0)), (PV.val (Value.int IntKind.i64 0)), (PV.val (Value.int IntKind.i64 0)), (PV.val (Value.int IntKind.i64 0)), (PV.sl SK.full 0 []), (PV.sl SK.full 0 [])] [(0, (10, (AX.t 6)))]) none 1 false true), (AOp.mk (some 8) (AK.box 11 (AX.t 7)) none 2 false true), (AOp.mk (some 3) (AK.mv (AX.t 8)) none 3 false true)]) (AC.seq (AC.seq (AC.ops [(AOp.mk (some 9) (AK.call 98 []) none 0 false true), (AOp.mk (some 10) (AK.len (AX.t 9)) none 1 false true), (AOp.mk (some 11) (AK.mv (AX.c (PV.val (Value.int IntKind.i64 0)))) none 2 false true)]) (AC.block 0 (AC.loop (AC.seq (AC.ops [(AOp.mk (some 12) (AK.bin false BinOp.lss (AX.t 11) (AX.t 10)) none 0 false true)]) (AC.seq (AC.cond (AX.t 12) AC.skip (AC.exit 0)) (AC.seq (AC.block 1 (AC.seq (AC.ops [(AOp.mk (some 13) (AK.iadrS 2 (AX.t 9) (AX.t 11)) none 0 false true), (AOp.mk (some 14) (AK.ld (some 2) (AX.t 13)) none 1 false true), (AOp.mk (some 5) (AK.new (PV.agg [(PV.val (Value.int IntKind.i64 0)), (PV.val Value.nilFunc)])) none 2 false true), (AOp.mk none (AK.st 2 (AX.t 5) (AX.t 14)) none 3 false true)]) (AC.seq (AC.ops [(AOp.mk (some 15) (AK.fadr 0 (AX.t 5)) none 0 false true), (AOp.mk (some 16) (AK.ld none (AX.t 15)) none 1 false true), (AOp.mk (some 17) (AK.fadr 0 (AX.t 1)) none 2 false true), (AOp.mk (some 18) (AK.ld none (AX.t 17)) none 3 false true), (AOp.mk (some 19) (AK.bin false BinOp.eql (AX.t 16) (AX.t 18)) none 4 false true)]) (AC.cond (AX.t 19) (AC.ops [(AOp.mk (some 20) (AK.mv (AX.t 3)) none 0 true false), (AOp.mk (some 21) (AK.mv (AX.t 3)) none 1 true false), (AOp.mk (some 22) (AK.nilc (AX.t 21)) none 2 true false), (AOp.mk (some 23) (AK.fadr 10 (AX.t 22)) none 3 true false), (AOp.mk (some 24) (AK.ld none (AX.t 23)) none 4 true false), (AOp.mk (some 25) (AK.ld (some 2) (AX.t 5)) none 5 true false), (AOp.mk (some 26) (AK.bslice false 121 2 1 [(PV.val (Value.int IntKind.i64 0)), (PV.val Value.nilFunc)] [(0, (2, (AX.t 25)))]) none 6 false false), (AOp.mk (some 27) (AK.app false 121 2 16 [(PV.val (Value.int IntKind.i64 0)), (PV.val Value.nilFunc)] (AX.t 24) (AX.t 26)) none 7 false false), (AOp.mk (some 28) (AK.nilc (AX.t 20)) none 8 true false), (AOp.mk (some 29) (AK.fadr 10 (AX.t 28)) none 9 true false), (AOp.mk none (AK.st 1 (AX.t 29) (AX.t 27)) none 10 false true)]) AC.skip)))) (AC.ops [(AOp.mk (some 30) (AK.bin false BinOp.add (AX.t 11) (AX.c (PV.val (Value.int IntKind.i64 1)))) none 0 false true), (AOp.mk (some 11) (AK.mv (AX.t 30)) none 1 false true)]))))))) (AC.seq (AC.ops [(AOp.mk (some 31) (AK.mv (AX.t 3)) none 0 false true), (AOp.mk (some 2) (AK.mv (AX.t 31)) none 1 false true)]) AC.ret))))
theorem ac61_ok : cCode Try.prog (fun _ => false) Try.f61.ntmps (Try.f61.body.getD .skip) = some ac61 := by kernel_rfl
def slO (o : Option Nat) (es : List (List PV)) : PV :=
  match o with
  | none => .sl .full 0 []
  | some t => .sl (.own t 121 2) 2 es
def allSides : List (List PV) := sidesL 0 ++ sidesL 1
def selSides (n : Int) (j : Nat) : List (List PV) := if n = 0 then (sidesL 0).take j else (sidesL 1).take (j - 2)
def sideV (j : Nat) : Value := .func (.func (match j with | 0 => 114 | 1 => 115 | 2 => 116 | _ => 117)) #[] #[]
def sideK (j : Nat) : Int := if j < 2 then 0 else 1
theorem side_at {kd : SK} {j : Nat} (h : j < 4) : iadrS' 2 (.p (.sl kd 2 (sidesL 0 ++ sidesL 1))) (.p (pi j)) = some (.p (.ptr [pi (sideK j), .val (sideV j)] 0)) := by
  have hj : j = 0 ∨ j = 1 ∨ j = 2 ∨ j = 3 := by omega
  rcases hj with rfl | rfl | rfl | rfl <;> rfl
theorem sel_next {n : Int} (hn : n = 0 ∨ n = 1) {j : Nat} (h : j < 4) : selSides n (j + 1) = if sideK j = n then selSides n j ++ [[pi (sideK j), .val (sideV j)]] else selSides n j := by
  have hj : j = 0 ∨ j = 1 ∨ j = 2 ∨ j = 3 := by omega
  rcases hn with rfl | rfl <;> rcases hj with rfl | rfl | rfl | rfl <;> rfl
theorem sel_all {n : Int} (hn : n = 0 ∨ n = 1) : selSides n 4 = sidesL n := by rcases hn with rfl | rfl <;> rfl
theorem sel_len (n : Int) (j : Nat) : (selSides n j).length ≤ 2 := by
  unfold selSides sidesL; split <;> simp <;> omega
theorem slO_le (o : Option Nat) {es : List (List PV)} (h : o = none → es = []) : PVle (slO o es) (.sl .sh 2 es) := by
  cases o with
  | none => rw [h rfl]; exact PVle.nil .full 0 2
  | some t => exact PVle.sh _ _ _
theorem newBook_sem (k k2 : SK) (b : SBook) (hk : b.kind = 0 ∨ b.kind = 1) : Sem1 61 [.agg (bookC k k2 b)] (bookP k k2 .sh b) := by
  obtain ⟨E, hE⟩ : ∃ E, bookP k k2 .sh b = E := ⟨_, rfl⟩
  rw [hE]
  refine semC_of_exec' mixed Try.func61 (by kernel_rfl) (by kernel_rfl) ac61_ok 1 rfl (by decide) [(.tmp 2)] (by kernel_rfl) ?_
  intro hr C hC hI
  unfold ac61
  simp only [go_sem, Nat.reduceBEq, Nat.reduceAdd, Nat.reduceLeDiff]
  refine call_pure2 hC (sides_sem) rfl trivial ?_
  rintro r rfl
  simp only [go_sem, Nat.reduceBEq, show (sidesL 0 ++ sidesL 1).length = 4 from rfl]
  refine ⟨{x : Nat × Option Nat // x.1 ≤ 4 ∧ (x.2 = none → selSides b.kind x.1 = [])}, fun x => ⟨[(11, .p (pi x.1.1)), (10, .p (pi 4)), (9, .p (.sl .full 2 (sidesL 0 ++ sidesL 1))), (3, .loc 1 0), (1, .loc 0 0)], [.cells ((bookC k k2 b).map .p), .cells ((bookC k k2 b).map .p ++ [.p (slO x.1.2 (selSides b.kind x.1.1))])], x.1.2.toList, some [], 0⟩, fun x => 4 - x.1.1, ⟨(0, none), by simp, fun _ => by simp [selSides]⟩, by simp [Wk, wkT, wkL, look, AV.lo, AV.lo.loL, slO], ?_⟩
  rintro ⟨⟨j, o⟩, hj, ho⟩
  simp only [go_sem, Nat.reduceBEq]
  refine ⟨fun h5 => ?_, fun h5 => ?_⟩
  · have hj4 : j < 4 := by omega
    have hs := sel_next hk hj4
    have hl := sel_len b.kind j
    simp only [go_sem, Nat.reduceBEq, Nat.reduceAdd, side_at hj4, wrap_succ (k := j) (by omega)]
    refine ⟨fun h6 => ?_, fun h6 => ?_⟩
    · rw [if_pos h6] at hs
      cases o with
      | none =>
        have h0 := ho rfl
        simp only at h0
        rw [h0] at hs
        simp only [slO]
        simp only [go_sem, Nat.reduceBEq, Nat.reduceAdd, Nat.reduceLeDiff, Nat.reduceEqDiff, wrap_succ (k := j) (by omega)]
        intro t _
        refine ⟨⟨(j + 1, some t), by simp only; omega, fun h => by cases h⟩, by simp only; omega, ?_⟩
        simp only [hs]
        exact by simp [Wk, wkT, wkL, look, AV.lo, AV.lo.loL]
      | some t =>
        simp only [slO]
        simp only [go_sem, Nat.reduceBEq, Nat.reduceAdd, Nat.reduceLeDiff, Nat.reduceEqDiff, wrap_succ (k := j) (by omega)]
        refine ⟨by omega, by simp, fun t2 _ => ?_⟩
        refine ⟨⟨(j + 1, some t2), by simp only; omega, fun h => by cases h⟩, by simp only; omega, ?_⟩
        simp only [hs]
        exact by simp [Wk, wkT, wkL, look, AV.lo, AV.lo.loL]
    · rw [if_neg h6] at hs
      refine ⟨⟨(j + 1, o), by simp only; omega, fun h => by simp only; rw [hs]; exact ho h⟩, by simp only; omega, ?_⟩
      simp only [hs]
      cases o <;> exact by simp [Wk, wkT, wkL, look, AV.lo, AV.lo.loL]
  · have hjn : j = 4 := by simp only at hj h5; omega
    subst hjn
    refine retQ_pur rfl rfl ?_ rfl
    rw [← hE]
    refine PVle.ptr ?_ 0
    have := slO_le o (es := selSides b.kind 4) (fun h => ho h)
    rw [sel_all hk] at this
    exact ⟨PVle.refl _, PVle.refl _, PVle.refl _, PVle.refl _, PVle.refl _, PVle.refl _, PVle.refl _, PVle.refl _, PVle.refl _, PVle.refl _, this, trivial⟩
def ac122 : AC := (AC.seq (AC.ops [(AOp.mk (some 4) (AK.box 3 (AX.t 1)) none 0 false true), (AOp.mk (some 5) (AK.box 2 (AX.t 2)) none 1 false true), (AOp.mk (some 6) (AK.new (PV.agg [(PV.val (Value.int IntKind.i64 0)), (PV.val (Value.int IntKind.i64 0)), (PV.val (Value.int IntKind.i64 0))])) none 2 false true)]) (AC.seq (AC.ops [(AOp.mk (some 7) (AK.ld (some 3) (AX.t 4)) none 0 true false), (AOp.mk (some 8) (AK.fadr 0 (AX.t 5)) none 1 true false), (AOp.mk (some 9) (AK.ld none (AX.t 8)) none 2 true false), (AOp.mk (some 10) (AK.mv (AX.t 0)) none 3 true false), (AOp.mk (some 11) (AK.nilc (AX.t 10)) none 4 true false), (AOp.mk (some 12) (AK.fadr 0 (AX.t 11)) none 5 true false), (AOp.mk (some 13) (AK.fadr 5 (AX.t 12)) none 6 true false), (AOp.mk (some 14) (AK.ld none (AX.t 13)) none 7 true false), (AOp.mk (some 15) (AK.fadr 1 (AX.t 5)) none 8 true false), (AOp.mk (some 16) (AK.ld none (AX.t 15)) none 9 true false), (AOp.mk (some 17) (AK.bin false BinOp.add (AX.t 14) (AX.t 16)) none 10 true false), (AOp.mk (some 18) (AK.mv (AX.t 0)) none 11 true false), (AOp.mk (some 19) (AK.nilc (AX.t 18)) none 12 true false), (AOp.mk (some 20) (AK.fadr 0 (AX.t 19)) none 13 true false), (AOp.mk (some 21) (AK.fadr 6 (AX.t 20)) none 14 true false), (AOp.mk (some 22) (AK.ld none (AX.t 21)) none 15 true false), (AOp.mk (some 23) (AK.call 110 [(AX.t 7), (AX.t 9), (AX.t 17), (AX.t 22)]) none 16 false false), (AOp.mk none (AK.st 3 (AX.t 6) (AX.t 23)) none 17 false true)]) AC.ret))
theorem ac122_ok : cCode Try.prog (fun _ => false) Try.f122.ntmps (Try.f122.body.getD .skip) = some ac122 := by kernel_rfl
def ac121 : AC := (AC.seq (AC.ops [(AOp.mk (some 4) (AK.box 3 (AX.t 1)) none 0 false true), (AOp.mk (some 5) (AK.box 2 (AX.t 2)) none 1 false true), (AOp.mk (some 6) (AK.mv (AX.c (PV.val (Value.bool false)))) none 2 false true)]) (AC.seq (AC.ops [(AOp.mk (some 7) (AK.mv (AX.t 0)) none 0 false true), (AOp.mk (some 8) (AK.mv (AX.t 0)) none 1 false true), (AOp.mk (some 9) (AK.ld (some 3) (AX.t 4)) none 2 false true), (AOp.mk (some 10) (AK.ld (some 2) (AX.t 5)) none 3 false true), (AOp.mk (some 11) (AK.call 122 [(AX.t 8), (AX.t 9), (AX.t 10)]) none 4 false true), (AOp.mk (some 12) (AK.call 124 [(AX.t 7), (AX.t 11)]) none 5 false true), (AOp.mk (some 13) (AK.bin false BinOp.lss (AX.t 12) (AX.c (PV.val (Value.int IntKind.i64 0)))) none 6 false true), (AOp.mk (some 6) (AK.mv (AX.t 13)) none 7 false true)]) AC.ret))
theorem ac121_ok : cCode Try.prog (fun _ => false) Try.f121.ntmps (Try.f121.body.getD .skip) = some ac121 := by kernel_rfl
def ac120 : AC := (AC.seq (AC.ops [(AOp.mk (some 3) (AK.box 4 (AX.t 1)) none 0 false true), (AOp.mk (some 4) (AK.new (PV.agg [(PV.val (Value.int IntKind.i64 0)), (PV.val (Value.int IntKind.i64 0)), (PV.val (Value.int IntKind.i64 0))])) none 1 false true)]) (AC.seq (AC.ops [(AOp.mk (some 5) (AK.new (PV.agg [(PV.val (Value.int IntKind.i64 0)), (PV.val (Value.int IntKind.i64 0)), (PV.val (Value.int IntKind.i64 0))])) none 0 false true)]) (AC.seq (AC.seq (AC.ops [(AOp.mk (some 8) (AK.mv (AX.t 0)) none 0 false true), (AOp.mk (some 9) (AK.nilc (AX.t 8)) none 1 false true), (AOp.mk (some 10) (AK.fadr 0 (AX.t 9)) none 2 false true), (AOp.mk (some 11) (AK.fadr 4 (AX.t 10)) none 3 false true), (AOp.mk (some 12) (AK.ld none (AX.t 11)) none 4 false true), (AOp.mk (some 13) (AK.len (AX.t 12)) none 5 false true), (AOp.mk (some 14) (AK.mv (AX.c (PV.val (Value.int IntKind.i64 0)))) none 6 false true)]) (AC.block 0 (AC.loop (AC.seq (AC.ops [(AOp.mk (some 15) (AK.bin false BinOp.lss (AX.t 14) (AX.t 13)) none 0 false true)]) (AC.seq (AC.cond (AX.t 15) AC.skip (AC.exit 0)) (AC.seq (AC.block 1 (AC.seq (AC.ops [(AOp.mk (some 16) (AK.mv (AX.t 14)) none 0 false true), (AOp.mk (some 17) (AK.iadrS 4 (AX.t 12) (AX.t 14)) none 1 false true), (AOp.mk (some 18) (AK.ld (some 4) (AX.t 17)) none 2 false true), (AOp.mk (some 7) (AK.new (PV.agg [(PV.val (Value.int IntKind.i64 0)), (PV.val (Value.int IntKind.i64 0)), (PV.val (Value.int IntKind.i64 0)), (PV.val (Value.int IntKind.i64 0))])) none 3 false true), (AOp.mk (some 6) (AK.mv (AX.t 16)) none 4 false true), (AOp.mk none (AK.st 4 (AX.t 7) (AX.t 18)) none 5 false true)]) (AC.ops [(AOp.mk (some 19) (AK.ld (some 3) (AX.t 5)) none 0 true false), (AOp.mk (some 20) (AK.mv (AX.t 6)) none 1 true false), (AOp.mk (some 21) (AK.iadrA 1 4 (AX.t 3) (AX.t 20)) none 2 true false), (AOp.mk (some 22) (AK.ld none (AX.t 21)) none 3 true false), (AOp.mk (some 23) (AK.fadr 2 (AX.t 7)) none 4 true false), (AOp.mk (some 24) (AK.ld none (AX.t 23)) none 5 true false), (AOp.mk (some 25) (AK.fadr 3 (AX.t 7)) none 6 true false), (AOp.mk (some 26) (AK.ld none (AX.t 25)) none 7 true false), (AOp.mk (some 27) (AK.call 110 [(AX.t 19), (AX.t 22), (AX.t 24), (AX.t 26)]) none 8 false false), (AOp.mk none (AK.st 3 (AX.t 5) (AX.t 27)) none 9 false true)]))) (AC.ops [(AOp.mk (some 28) (AK.bin false BinOp.add (AX.t 14) (AX.c (PV.val (Value.int IntKind.i64 1)))) none 0 false true), (AOp.mk (some 14) (AK.mv (AX.t 28)) none 1 false true)]))))))) (AC.seq (AC.ops [(AOp.mk (some 29) (AK.ld (some 3) (AX.t 5)) none 0 false true), (AOp.mk none (AK.st 3 (AX.t 4) (AX.t 29)) none 1 false true)]) AC.ret))))
theorem ac120_ok : cCode Try.prog (fun _ => false) Try.f120.ntmps (Try.f120.body.getD .skip) = some ac120 := by kernel_rfl
def ac127 : AC := (AC.seq (AC.ops [(AOp.mk (some 4) (AK.box 4 (AX.t 1)) none 0 false true), (AOp.mk (some 5) (AK.box 3 (AX.t 2)) none 1 false true), (AOp.mk (some 6) (AK.mv (AX.c (PV.val (Value.bool false)))) none 2 false true)]) (AC.seq (AC.ops [(AOp.mk (some 7) (AK.mv (AX.t 0)) none 0 true false), (AOp.mk (some 8) (AK.mv (AX.t 0)) none 1 true false), (AOp.mk (some 9) (AK.ld (some 4) (AX.t 4)) none 2 true false), (AOp.mk (some 11) (AK.fadr 0 (AX.t 5)) none 4 true false), (AOp.mk (some 12) (AK.ld none (AX.t 11)) none 5 true false), (AOp.mk (some 13) (AK.fadr 1 (AX.t 5)) none 6 true false), (AOp.mk (some 14) (AK.ld none (AX.t 13)) none 7 true false), (AOp.mk (some 15) (AK.build [(PV.val (Value.int IntKind.i64 0)), (PV.val (Value.int IntKind.i64 0))] [(0, (1, (AX.t 12))), (1, (1, (AX.t 14)))]) none 8 true false), (AOp.mk (some 17) (AK.fadr 2 (AX.t 5)) none 10 true false), (AOp.mk (some 18) (AK.ld none (AX.t 17)) none 11 true false), (AOp.mk (some 10) (AK.call 120 [(AX.t 8), (AX.t 9)]) none 3 false false), (AOp.mk (some 16) (AK.call 121 [(AX.t 7), (AX.t 10), (AX.t 15)]) none 9 false false), (AOp.mk (some 19) (AK.bin true BinOp.eql (AX.t 16) (AX.t 18)) none 12 true false), (AOp.mk (some 6) (AK.mv (AX.t 19)) none 13 true true)]) AC.ret))
theorem ac127_ok : cCode Try.prog (fun _ => false) Try.f127.ntmps (Try.f127.body.getD .skip) = some ac127 := by kernel_rfl
def ac124 : AC := (AC.seq (AC.ops [(AOp.mk (some 3) (AK.box 3 (AX.t 1)) none 0 false true), (AOp.mk (some 4) (AK.mv (AX.c (PV.val (Value.int IntKind.i64 0)))) none 1 false true)]) (AC.seq (AC.ops [(AOp.mk (some 5) (AK.new (PV.agg [(PV.val (Value.int IntKind.i64 0)), (PV.val (Value.int IntKind.i64 0))])) none 0 false true)]) (AC.seq (AC.seq (AC.ops [(AOp.mk (some 8) (AK.mv (AX.t 0)) none 0 false true), (AOp.mk (some 9) (AK.nilc (AX.t 8)) none 1 false true), (AOp.mk (some 10) (AK.fadr 10 (AX.t 9)) none 2 false true), (AOp.mk (some 11) (AK.ld none (AX.t 10)) none 3 false true), (AOp.mk (some 12) (AK.len (AX.t 11)) none 4 false true), (AOp.mk (some 13) (AK.mv (AX.c (PV.val (Value.int IntKind.i64 0)))) none 5 false true)]) (AC.block 0 (AC.loop (AC.seq (AC.ops [(AOp.mk (some 14) (AK.bin false BinOp.lss (AX.t 13) (AX.t 12)) none 0 false true)]) (AC.seq (AC.cond (AX.t 14) AC.skip (AC.exit 0)) (AC.seq (AC.block 1 (AC.seq (AC.ops [(AOp.mk (some 15) (AK.mv (AX.t 13)) none 0 false true), (AOp.mk (some 16) (AK.iadrS 2 (AX.t 11) (AX.t 13)) none 1 false true), (AOp.mk (some 17) (AK.ld (some 2) (AX.t 16)) none 2 false true), (AOp.mk (some 7) (AK.new (PV.agg [(PV.val (Value.int IntKind.i64 0)), (PV.val Value.nilFunc)])) none 3 false true), (AOp.mk (some 6) (AK.mv (AX.t 15)) none 4 false true), (AOp.mk none (AK.st 2 (AX.t 7) (AX.t 17)) none 5 false true)]) (AC.ops [(AOp.mk (some 18) (AK.mv (AX.t 6)) none 0 false true), (AOp.mk (some 19) (AK.fadr 1 (AX.t 7)) none 1 false true), (AOp.mk (some 20) (AK.ld none (AX.t 19)) none 2 false true), (AOp.mk (some 21) (AK.mv (AX.t 0)) none 3 false true), (AOp.mk (some 22) (AK.ld (some 3) (AX.t 3)) none 4 false true), (AOp.mk (some 23) (AK.callv (AX.t 20) [(AX.t 21), (AX.t 22)]) none 5 false true), (AOp.mk (some 24) (AK.iadrA 1 2 (AX.t 5) (AX.t 18)) none 6 false true), (AOp.mk none (AK.st 1 (AX.t 24) (AX.t 23)) none 7 false true)]))) (AC.ops [(AOp.mk (some 25) (AK.bin false BinOp.add (AX.t 13) (AX.c (PV.val (Value.int IntKind.i64 1)))) none 0 false true), (AOp.mk (some 13) (AK.mv (AX.t 25)) none 1 false true)]))))))) (AC.seq (AC.ops [(AOp.mk (some 26) (AK.iadrA 1 2 (AX.t 5) (AX.c (PV.val (Value.int IntKind.i64 0)))) none 0 true false), (AOp.mk (some 27) (AK.ld none (AX.t 26)) none 1 true false), (AOp.mk (some 28) (AK.slcA 1 2 (AX.t 5) (some (AX.c (PV.val (Value.int IntKind.i64 1)))) none) none 2 false false), (AOp.mk (some 29) (AK.call 132 [(AX.t 27), (AX.t 28)]) none 3 false false), (AOp.mk (some 4) (AK.mv (AX.t 29)) none 4 true true)]) AC.ret))))
theorem ac124_ok : cCode Try.prog (fun _ => false) Try.f124.ntmps (Try.f124.body.getD .skip) = some ac124 := by kernel_rfl
/-- The top of the margin. -/
def topI (b : SBook) (l : SLoad) : Int := if b.kind = 0 then maxI false (b.back * l.w + l.a) (b.front * l.w - l.a) else maxI false (b.back * (b.radius * l.w - l.h) + b.radius * l.a) (b.front * (b.radius * l.w - l.h) - b.radius * l.a)
theorem top_gen (k k2 ks : SK) (b : SBook) (l : SLoad) {f0 f1 : FuncId} {q0 q1 v0 v1 : Int} (hs : sidesL b.kind = [[pi q0, .val (.func (.func f0) #[] #[])], [pi q1, .val (.func (.func f1) #[] #[])]])
    (c0 : Sem1 f0 [bookP k k2 ks b, .agg (loadC l)] (pi v0)) (c1 : Sem1 f1 [bookP k k2 ks b, .agg (loadC l)] (pi v1)) : Sem1 124 [bookP k k2 ks b, .agg (loadC l)] (pi (maxI false v0 v1)) := by
  unfold bookP at *
  rw [hs] at *
  obtain ⟨cs, hcs⟩ : ∃ cs : List PV, [pi b.kind, pi b.front, pi b.back, pi b.radius, .sl k 4 (b.parts.map partC), pi b.along, pi b.high, pi b.lean, pi b.limit, .sl k2 3 (b.trials.map trialC)] = cs := ⟨_, rfl⟩
  refine semC_of_exec' mixed Try.func124 (by kernel_rfl) (by kernel_rfl) ac124_ok 2 rfl (by decide) [(.tmp 4)] (by kernel_rfl) ?_
  intro hr C hC hI
  unfold ac124
  simp only [go_sem, Nat.reduceBEq, Nat.reduceAdd]
  refine loop_nat 2 (fun _ => True) (fun j => ⟨[(13, .p (pi j)), (12, .p (pi 2)), (11, .p (.sl ks 2 [[pi q0, .val (.func (.func f0) #[] #[])], [pi q1, .val (.func (.func f1) #[] #[])]])), (5, .loc 1 0), (3, .loc 0 0), (0, .p (.ptr [pi b.kind, pi b.front, pi b.back, pi b.radius, .sl k 4 (b.parts.map partC), pi b.along, pi b.high, pi b.lean, pi b.limit, .sl k2 3 (b.trials.map trialC), .sl ks 2 [[pi q0, .val (.func (.func f0) #[] #[])], [pi q1, .val (.func (.func f1) #[] #[])]]] 0))], [.cells ((loadC l).map .p), .cells [.p (pi (if j = 0 then 0 else v0)), .p (pi (if j ≤ 1 then 0 else v1))]], [], some [], 0⟩) trivial (by simp [Wk, wkT, wkL, look, AV.lo, AV.lo.loL]) ?_
  rintro j ⟨hj, -⟩
  simp only [go_sem, Nat.reduceBEq]
  refine ⟨fun h5 => ?_, fun h5 => ?_⟩
  · have hj2 : j = 0 ∨ j = 1 := by omega
    rcases hj2 with rfl | rfl
    · have e1 : iadrS' 2 (.p (.sl ks 2 [[pi q0, .val (.func (.func f0) #[] #[])], [pi q1, .val (.func (.func f1) #[] #[])]])) (.p (pi ((0 : Nat) : Int))) = some (.p (.ptr [pi q0, .val (.func (.func f0) #[] #[])] 0)) := rfl
      have e2 : iadrAS 1 2 (.loc 1 0) (.p (pi ((0 : Nat) : Int))) = some (.loc 1 0) := rfl
      simp only [go_sem, Nat.reduceBEq, Nat.reduceAdd, Nat.reduceLeDiff, e1]
      refine call_pure2 hC c0 rfl (PVleL_refl _) ?_
      rintro r rfl
      simp only [go_sem, Nat.reduceBEq, Nat.reduceAdd, Nat.reduceLeDiff, e2, putCells, wrap_succ (k := 0) (by omega)]
      refine ⟨⟨1, by omega, trivial⟩, by simp only; omega, ?_⟩
      exact by simp [Wk, wkT, wkL, look, AV.lo, AV.lo.loL]
    · have e1 : iadrS' 2 (.p (.sl ks 2 [[pi q0, .val (.func (.func f0) #[] #[])], [pi q1, .val (.func (.func f1) #[] #[])]])) (.p (pi ((1 : Nat) : Int))) = some (.p (.ptr [pi q1, .val (.func (.func f1) #[] #[])] 0)) := rfl
      have e2 : iadrAS 1 2 (.loc 1 0) (.p (pi ((1 : Nat) : Int))) = some (.loc 1 1) := rfl
      simp only [go_sem, Nat.reduceBEq, Nat.reduceAdd, Nat.reduceEqDiff, e1]
      refine call_pure2 hC c1 rfl (PVleL_refl _) ?_
      rintro r rfl
      simp only [go_sem, Nat.reduceBEq, Nat.reduceAdd, e2, putCells, wrap_succ (k := 1) (by omega)]
      refine ⟨⟨2, by omega, trivial⟩, by simp only; omega, ?_⟩
      exact by simp [Wk, wkT, wkL, look, AV.lo, AV.lo.loL]
  · have hjn : j = 2 := by omega
    subst hjn
    have e2 : iadrAS 1 2 (.loc 1 0) (.p (.val (.int .i64 0))) = some (.loc 1 0) := rfl
    simp only [go_sem, Nat.reduceBEq, Nat.reduceLeDiff, Nat.reduceEqDiff, e2]
    rw [show pur 100 [ABlk.cells [AV.p (pi l.w), AV.p (pi l.a), AV.p (pi l.h)], ABlk.cells [AV.p (pi v0), AV.p (pi v1)]] (AV.loc 1 0) = some (.ptr [pi v0, pi v1] 0, [ABlk.cells [AV.p (pi l.w), AV.p (pi l.a), AV.p (pi l.h)], ABlk.frz [pi v0, pi v1]]) from rfl]
    refine ⟨by omega, by omega, by omega, by simp, ?_⟩
    simp only [go_sem, Nat.reduceBEq]
    refine call_pure2 hC (least_sem v0 [v1]) rfl ⟨PVle.refl _, PVle.sh _ _ _, trivial⟩ ?_
    rintro r rfl
    simp only [go_sem, Nat.reduceBEq]
    exact retQ_one rfl rfl
theorem top_sem (k k2 ks : SK) (b : SBook) (l : SLoad) (hk : b.kind = 0 ∨ b.kind = 1) (hb : small b) (hl : l.ok 10000) : Sem1 124 [bookP k k2 ks b, .agg (loadC l)] (pi (topI b l)) := by
  unfold topI
  by_cases h : b.kind = 0
  · rw [if_pos h]
    exact top_gen k k2 ks b l (by rw [h]; rfl) (feetBack_sem hb hl) (feetFront_sem hb hl)
  · rw [if_neg h]
    have h1 : b.kind = 1 := by omega
    exact top_gen k k2 ks b l (by rw [h1]; rfl) (bowBack_sem hb hl) (bowFront_sem hb hl)
/-- A child: its weight, and how far it leans. -/
abbrev childC (w n : Int) : List PV := [pi w, pi n]
def seatB (b : SBook) (l : SLoad) (w n : Int) : SLoad := l.add w (b.along + n) b.high
theorem seated_sem (k k2 ks : SK) (b : SBook) (l : SLoad) (w n : Int) (hb : small b) (hl : l.ok 1000) (hw : -1000 ≤ w ∧ w ≤ 1000) (hn : -40 ≤ n ∧ n ≤ 40) : Sem1 122 [bookP k k2 ks b, .agg (loadC l), .agg (childC w n)] (.agg (loadC (seatB b l w n))) := by
  obtain ⟨b1, b2, b3, b4, b5⟩ := hb
  refine semC_of_exec' mixed Try.func122 (by kernel_rfl) (by kernel_rfl) ac122_ok 3 rfl (by decide) [(.cell 6 131)] (by kernel_rfl) ?_
  intro hr C hC hI
  unfold ac122
  simp only [go_sem, Nat.reduceBEq, Nat.reduceAdd]
  rw [wrap_id (n := b.along + n) (by omega) (by omega)]
  refine call_pure2 hC (with_sem l w (b.along + n) b.high hl hw (by omega) (by omega)) rfl (PVleL_refl _) ?_
  rintro r rfl
  simp only [go_sem, Nat.reduceBEq, Nat.reduceAdd, Nat.reduceEqDiff]
  exact retQ_cell (n := some 3) (by kernel_rfl) rfl rfl
def tipsI (b : SBook) (l : SLoad) (w n : Int) : Prop := topI b (seatB b l w n) < 0
instance (b : SBook) (l : SLoad) (w n : Int) : Decidable (tipsI b l w n) := by unfold tipsI; infer_instance
theorem seat_ok {b : SBook} {l : SLoad} {w n : Int} (hb : small b) (hl : l.ok 1000) (hw : -1000 ≤ w ∧ w ≤ 1000) (hn : -40 ≤ n ∧ n ≤ 40) : (seatB b l w n).ok 10000 := by
  obtain ⟨b1, b2, b3, b4, b5⟩ := hb
  have := SLoad.ok_add (m := 9000) hl (w := w) (a := b.along + n) (h := b.high) (by omega) (by omega) (by omega)
  exact this
theorem tips_sem (k k2 ks : SK) (b : SBook) (l : SLoad) (w n : Int) (hk : b.kind = 0 ∨ b.kind = 1) (hb : small b) (hl : l.ok 1000) (hw : -1000 ≤ w ∧ w ≤ 1000) (hn : -40 ≤ n ∧ n ≤ 40) : Sem1 121 [bookP k k2 ks b, .agg (loadC l), .agg (childC w n)] (pb (decide (tipsI b l w n))) := by
  refine semC_of_exec' mixed Try.func121 (by kernel_rfl) (by kernel_rfl) ac121_ok 3 rfl (by decide) [(.tmp 6)] (by kernel_rfl) ?_
  intro hr C hC hI
  unfold ac121
  simp only [go_sem, Nat.reduceBEq, Nat.reduceAdd]
  refine call_pure2 hC (seated_sem k k2 ks b l w n hb hl hw hn) rfl (PVleL_refl _) ?_
  rintro r rfl
  simp only [go_sem, Nat.reduceBEq]
  refine call_pure2 hC (top_sem k k2 ks b (seatB b l w n) hk hb (seat_ok hb hl hw hn)) rfl (PVleL_refl _) ?_
  rintro r rfl
  simp only [go_sem, Nat.reduceBEq]
  exact retQ_one rfl rfl
/-- The load of all parts, of such weights. -/
def loadW (ps : List SPart) (ws : List Int) : SLoad := (ps.zip ws).foldl (fun l x => l.add x.2 x.1.along x.1.high) ⟨0, 0, 0⟩
def addP (l : SLoad) (x : SPart × Int) : SLoad := l.add x.2 x.1.along x.1.high
theorem zip_next {α β : Type} : ∀ (ps : List α) (ws : List β) (j : Nat) (h1 : j < ps.length) (h2 : j < ws.length), (ps.take (j + 1)).zip ws = (ps.take j).zip ws ++ [(ps[j], ws[j])]
  | p :: ps, w :: ws, 0, _, _ => by simp
  | p :: ps, w :: ws, j + 1, h1, h2 => by
    simp only [List.take_succ_cons, List.zip_cons_cons, List.cons_append, List.cons.injEq, true_and, List.getElem_cons_succ]
    exact zip_next ps ws j (by simpa using h1) (by simpa using h2)
  | [], _, _, h1, _ => by simp at h1
  | _ :: _, [], _, _, h2 => by simp at h2
theorem loadW_next (ps : List SPart) (ws : List Int) (j : Nat) (h1 : j < ps.length) (h2 : j < ws.length) : loadW (ps.take (j + 1)) ws = (loadW (ps.take j) ws).add ws[j] ps[j].along ps[j].high := by
  unfold loadW
  rw [zip_next ps ws j h1 h2, List.foldl_append]
  rfl
theorem loadW_ok (ps : List SPart) (ws : List Int) (hpl : ∀ p ∈ ps, okPart p) (hw : ∀ w ∈ ws, 0 ≤ w ∧ w ≤ 99) : ∀ j, j ≤ ps.length → j ≤ ws.length → (loadW (ps.take j) ws).ok (100 * j)
  | 0, _, _ => by simp [loadW, SLoad.ok]
  | j + 1, h1, h2 => by
    rw [loadW_next ps ws j (by omega) (by omega)]
    have k1 := hw _ (List.getElem_mem (show j < ws.length by omega))
    have k2 := hpl _ (List.getElem_mem (show j < ps.length by omega))
    obtain ⟨_, _, _, k3, k4⟩ := k2
    exact SLoad.ok_add (m := 100) (loadW_ok ps ws hpl hw j (by omega) (by omega)) (by omega) (by omega) (by omega)
theorem ok_le {n m : Nat} {l : SLoad} (h : l.ok n) (hm : n ≤ m) : l.ok m := by
  obtain ⟨h1, h2, h3⟩ := h
  refine ⟨?_, ?_, ?_⟩ <;> omega
theorem load_sem (k k2 ks : SK) (b : SBook) (ws : List Int) (hws : ws.length = 4) (hp : b.parts.length ≤ 4) (hpl : ∀ p ∈ b.parts, okPart p) (hw : ∀ w ∈ ws, 0 ≤ w ∧ w ≤ 99) : Sem1 120 [bookP k k2 ks b, .agg (ws.map pi)] (.agg (loadC (loadW b.parts ws))) := by
  obtain ⟨w0, w1, w2, w3, rfl⟩ : ∃ w0 w1 w2 w3, ws = [w0, w1, w2, w3] := by
    match ws, hws with
    | [w0, w1, w2, w3], _ => exact ⟨w0, w1, w2, w3, rfl⟩
  refine semC_of_exec' mixed Try.func120 (by kernel_rfl) (by kernel_rfl) ac120_ok 2 rfl (by decide) [(.cell 4 131)] (by kernel_rfl) ?_
  intro hr C hC hI
  unfold ac120
  simp only [go_sem, Nat.reduceBEq, Nat.reduceAdd, List.length_map]
  refine loop_nat b.parts.length (fun _ => True) (fun j => ⟨[(14, .p (pi j)), (13, .p (pi b.parts.length)), (12, .p (.sl k 4 (b.parts.map partC))), (5, .loc 2 0), (4, .loc 1 0), (3, .loc 0 0)], [.cells [.p (pi w0), .p (pi w1), .p (pi w2), .p (pi w3)], .cells [.p (pi 0), .p (pi 0), .p (pi 0)], .cells ((loadC (loadW (b.parts.take j) [w0, w1, w2, w3])).map .p)], [], some [], 0⟩) trivial (by simp [Wk, wkT, wkL, look, AV.lo, AV.lo.loL, loadW]) ?_
  rintro j ⟨hj, -⟩
  have hok := loadW_ok b.parts [w0, w1, w2, w3] hpl hw j hj (by simp; omega)
  simp only [go_sem, Nat.reduceBEq, Nat.reduceAdd]
  refine ⟨fun h5 => ?_, fun h5 => ?_⟩
  · have hj2 : j < b.parts.length := by omega
    have hn := loadW_next b.parts [w0, w1, w2, w3] j hj2 (by simp; omega)
    have hwj := hw _ (List.getElem_mem (show j < [w0, w1, w2, w3].length by simp; omega))
    have hpj := hpl _ (List.getElem_mem hj2)
    obtain ⟨W, hW⟩ : ∃ W, [w0, w1, w2, w3][j]'(by simp; omega) = W := ⟨_, rfl⟩
    rw [hW] at hn hwj
    have e1 : [AV.p (pi w0), .p (pi w1), .p (pi w2), .p (pi w3)][j * 1]? = some (.p (pi W)) := by
      rw [← hW]
      have : j = 0 ∨ j = 1 ∨ j = 2 ∨ j = 3 := by omega
      rcases this with rfl | rfl | rfl | rfl <;> rfl
    obtain ⟨P, hP⟩ : ∃ P, b.parts[j] = P := ⟨_, rfl⟩
    rw [hP] at hn hpj
    have e2 := iadr_map (f := partC) (kd := k) (sz := 4) hj2
    rw [hP] at e2
    simp only [go_sem, Nat.reduceBEq, Nat.reduceAdd, e2, partC, iadrA_loc' (show j < 4 by omega), e1]
    refine call_pure2 hC (with_sem _ W P.along P.high (ok_le hok (by omega)) (by omega) (by have := hpj.2.2.2; omega) (by have := hpj.2.2.2; omega)) rfl (PVleL_refl _) ?_
    rintro r rfl
    simp only [go_sem, Nat.reduceBEq, Nat.reduceAdd, Nat.reduceEqDiff, wrap_succ (k := j) (by omega), putCells]
    refine ⟨⟨j + 1, by omega, trivial⟩, by simp only; omega, ?_⟩
    simp only [hn]
    exact by simp [Wk, wkT, wkL, look, AV.lo, AV.lo.loL]
  · have hjn : j = b.parts.length := by omega
    subst hjn
    simp only [go_sem, List.take_length]
    exact retQ_cell (n := some 3) (by kernel_rfl) rfl rfl
/-- Is a trial right, if the parts weigh so much? -/
def rightI (b : SBook) (ws : List Int) (t : STrial) : Bool := decide (tipsI b (loadW b.parts ws) t.weight t.lean) == t.tipped
theorem load_all_ok {b : SBook} {ws : List Int} (hws : ws.length = 4) (hp : b.parts.length ≤ 4) (hpl : ∀ p ∈ b.parts, okPart p) (hw : ∀ w ∈ ws, 0 ≤ w ∧ w ≤ 99) : (loadW b.parts ws).ok 1000 := by
  have := loadW_ok b.parts ws hpl hw b.parts.length (Nat.le_refl _) (by omega)
  rw [List.take_length] at this
  exact ok_le this (by omega)
theorem right_sem (k k2 ks : SK) (b : SBook) (ws : List Int) (t : STrial) (hk : b.kind = 0 ∨ b.kind = 1) (hb : small b) (hws : ws.length = 4) (hp : b.parts.length ≤ 4) (hpl : ∀ p ∈ b.parts, okPart p) (hw : ∀ w ∈ ws, 0 ≤ w ∧ w ≤ 99) (ht : -1000 ≤ t.weight ∧ t.weight ≤ 1000) (hn : -40 ≤ t.lean ∧ t.lean ≤ 40) : Sem1 127 [bookP k k2 ks b, .agg (ws.map pi), .agg (trialC t)] (pb (rightI b ws t)) := by
  have hlo := load_all_ok hws hp hpl hw
  have hld := load_sem k k2 ks b ws hws hp hpl hw
  have htp := tips_sem k k2 ks b (loadW b.parts ws) t.weight t.lean hk hb hlo ht hn
  unfold rightI
  obtain ⟨w0, w1, w2, w3, rfl⟩ : ∃ w0 w1 w2 w3, ws = [w0, w1, w2, w3] := by
    match ws, hws with
    | [w0, w1, w2, w3], _ => exact ⟨w0, w1, w2, w3, rfl⟩
  unfold trialC
  refine semC_of_exec' mixed Try.func127 (by kernel_rfl) (by kernel_rfl) ac127_ok 3 rfl (by decide) [(.tmp 6)] (by kernel_rfl) ?_
  intro hr C hC hI
  unfold ac127
  simp only [go_sem, Nat.reduceBEq, Nat.reduceAdd, Nat.reduceLeDiff]
  refine call_pure2 hC (hld) rfl (PVleL_refl _) ?_
  rintro r rfl
  simp only [go_sem, Nat.reduceBEq]
  refine call_pure2 hC (htp) rfl (PVleL_refl _) ?_
  rintro r rfl
  simp only [go_sem, Nat.reduceBEq]
  exact retQ_one rfl rfl
end Go.Proofs.Ytaejmbmkkdkliaa
