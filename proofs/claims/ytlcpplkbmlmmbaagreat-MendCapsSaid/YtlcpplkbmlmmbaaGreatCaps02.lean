/- Contracts of maker: how many kinds; truths. Contracts of maker: all truths with some makers. -/
import Derived.Test.YtlcpplkbmlmmbaaGreatCaps01
namespace Go.Proofs.YtlcpplkbmlmmbaaGreat.Mk
open Go.RowKit Ls
def ac169 : AC := (AC.seq (AC.ops [(AOp.mk (some 2) (AK.mv (AX.c (PV.val (Value.int IntKind.i64 0)))) none 0 false true)]) (AC.seq (AC.cond (AX.c (PV.val (Value.bool false))) (AC.seq (AC.ops [(AOp.mk (some 3) (AK.mv (AX.t 0)) none 0 false true), (AOp.mk (some 4) (AK.conv IntKind.u32 (AX.t 3)) none 1 false true), (AOp.mk (some 5) (AK.call 176 [(AX.t 4)]) none 2 false true), (AOp.mk (some 2) (AK.mv (AX.t 5)) none 3 false true)]) AC.ret) AC.skip) (AC.seq (AC.ops [(AOp.mk (some 6) (AK.mv (AX.t 0)) none 0 false true), (AOp.mk (some 7) (AK.call 177 [(AX.t 6)]) none 1 false true), (AOp.mk (some 2) (AK.mv (AX.t 7)) none 2 false true)]) AC.ret)))
theorem ac169_ok : cCode Tryz.prog (fun _ => false) Tryz.f169.ntmps (Tryz.f169.body.getD .skip) = some ac169 := by kernel_rfl
def ac177 : AC := (AC.seq (AC.ops [(AOp.mk (some 2) (AK.mv (AX.c (PV.val (Value.int IntKind.i64 0)))) none 0 false true)]) (AC.seq (AC.ops [(AOp.mk (some 3) (AK.mv (AX.t 0)) none 0 false true), (AOp.mk (some 4) (AK.bin false BinOp.shr (AX.t 3) (AX.c (PV.val (Value.int IntKind.u64 1)))) none 1 false true), (AOp.mk (some 5) (AK.bin false BinOp.and (AX.t 4) (AX.c (PV.val (Value.int IntKind.u64 6148914691236517205)))) none 2 false true), (AOp.mk (some 6) (AK.mv (AX.t 0)) none 3 false true), (AOp.mk (some 7) (AK.bin false BinOp.and (AX.t 6) (AX.c (PV.val (Value.int IntKind.u64 6148914691236517205)))) none 4 false true), (AOp.mk (some 8) (AK.bin false BinOp.add (AX.t 5) (AX.t 7)) none 5 false true), (AOp.mk (some 0) (AK.mv (AX.t 8)) none 6 false true)]) (AC.seq (AC.ops [(AOp.mk (some 9) (AK.mv (AX.t 0)) none 0 false true), (AOp.mk (some 10) (AK.bin false BinOp.shr (AX.t 9) (AX.c (PV.val (Value.int IntKind.u64 2)))) none 1 false true), (AOp.mk (some 11) (AK.bin false BinOp.and (AX.t 10) (AX.c (PV.val (Value.int IntKind.u64 3689348814741910323)))) none 2 false true), (AOp.mk (some 12) (AK.mv (AX.t 0)) none 3 false true), (AOp.mk (some 13) (AK.bin false BinOp.and (AX.t 12) (AX.c (PV.val (Value.int IntKind.u64 3689348814741910323)))) none 4 false true), (AOp.mk (some 14) (AK.bin false BinOp.add (AX.t 11) (AX.t 13)) none 5 false true), (AOp.mk (some 0) (AK.mv (AX.t 14)) none 6 false true)]) (AC.seq (AC.ops [(AOp.mk (some 15) (AK.mv (AX.t 0)) none 0 false true), (AOp.mk (some 16) (AK.bin false BinOp.shr (AX.t 15) (AX.c (PV.val (Value.int IntKind.u64 4)))) none 1 false true), (AOp.mk (some 17) (AK.mv (AX.t 0)) none 2 false true), (AOp.mk (some 18) (AK.bin false BinOp.add (AX.t 16) (AX.t 17)) none 3 false true), (AOp.mk (some 19) (AK.bin false BinOp.and (AX.t 18) (AX.c (PV.val (Value.int IntKind.u64 1085102592571150095)))) none 4 false true), (AOp.mk (some 0) (AK.mv (AX.t 19)) none 5 false true)]) (AC.seq (AC.ops [(AOp.mk (some 20) (AK.mv (AX.t 0)) none 0 false true), (AOp.mk (some 21) (AK.mv (AX.t 0)) none 1 false true), (AOp.mk (some 22) (AK.bin false BinOp.shr (AX.t 21) (AX.c (PV.val (Value.int IntKind.u64 8)))) none 2 false true), (AOp.mk (some 23) (AK.bin false BinOp.add (AX.t 20) (AX.t 22)) none 3 false true), (AOp.mk (some 0) (AK.mv (AX.t 23)) none 4 false true)]) (AC.seq (AC.ops [(AOp.mk (some 24) (AK.mv (AX.t 0)) none 0 false true), (AOp.mk (some 25) (AK.mv (AX.t 0)) none 1 false true), (AOp.mk (some 26) (AK.bin false BinOp.shr (AX.t 25) (AX.c (PV.val (Value.int IntKind.u64 16)))) none 2 false true), (AOp.mk (some 27) (AK.bin false BinOp.add (AX.t 24) (AX.t 26)) none 3 false true), (AOp.mk (some 0) (AK.mv (AX.t 27)) none 4 false true)]) (AC.seq (AC.ops [(AOp.mk (some 28) (AK.mv (AX.t 0)) none 0 false true), (AOp.mk (some 29) (AK.mv (AX.t 0)) none 1 false true), (AOp.mk (some 30) (AK.bin false BinOp.shr (AX.t 29) (AX.c (PV.val (Value.int IntKind.u64 32)))) none 2 false true), (AOp.mk (some 31) (AK.bin false BinOp.add (AX.t 28) (AX.t 30)) none 3 false true), (AOp.mk (some 0) (AK.mv (AX.t 31)) none 4 false true)]) (AC.seq (AC.ops [(AOp.mk (some 32) (AK.mv (AX.t 0)) none 0 false true), (AOp.mk (some 33) (AK.conv IntKind.i64 (AX.t 32)) none 1 false true), (AOp.mk (some 34) (AK.bin false BinOp.and (AX.t 33) (AX.c (PV.val (Value.int IntKind.i64 127)))) none 2 false true), (AOp.mk (some 2) (AK.mv (AX.t 34)) none 3 false true)]) AC.ret))))))))
theorem ac177_ok : cCode Tryz.prog (fun _ => false) Tryz.f177.ntmps (Tryz.f177.body.getD .skip) = some ac177 := by kernel_rfl
theorem Ones64_sem {c : Nat} (hc : c < 64) : Sem1 177 [.val (.int .u64 c)] (pi (cntN c 6 : Nat)) := by
  refine semC_of_exec' mixed Tryz.func177 (by kernel_rfl) (by kernel_rfl) ac177_ok 1 rfl (by decide) [(.tmp 2)] (by kernel_rfl) ?_
  intro hr C hC hI
  unfold ac177
  simp only [go_sem, Nat.reduceBEq, bin_shr (show ¬ (1 : Int) < 0 by decide), bin_shr (show ¬ (2 : Int) < 0 by decide), bin_shr (show ¬ (4 : Int) < 0 by decide), bin_shr (show ¬ (8 : Int) < 0 by decide), bin_shr (show ¬ (16 : Int) < 0 by decide), bin_shr (show ¬ (32 : Int) < 0 by decide), bin_and, bin_add, convS_int]
  refine retQ_one rfl (congrArg pi ?_)
  obtain ⟨i, rfl⟩ : ∃ i : Fin 64, c = i.val := ⟨⟨c, hc⟩, rfl⟩
  clear hC hI hr
  revert i
  decide +kernel
def ac152 : AC := (AC.seq (AC.ops [(AOp.mk (some 6) (AK.new (PV.agg [(PV.val (Value.int IntKind.i64 0)), (PV.sl SK.full 0 []), (PV.val (Value.int IntKind.i64 0)), (PV.val (Value.int IntKind.i64 0)), (PV.val (Value.int IntKind.i64 0)), (PV.val (Value.int IntKind.i64 0)), (PV.val (Value.int IntKind.i64 0)), (PV.val (Value.int IntKind.i64 0))])) none 0 false true), (AOp.mk (some 7) (AK.mv (AX.c (PV.val (Value.bool false)))) none 1 false true)]) (AC.seq (AC.seq (AC.ops [(AOp.mk (some 10) (AK.mv (AX.t 2)) none 0 true false), (AOp.mk (some 11) (AK.mv (AX.t 0)) none 1 true true), (AOp.mk (some 12) (AK.call 151 [(AX.t 11)]) none 2 false true), (AOp.mk (some 13) (AK.bin false BinOp.and (AX.t 10) (AX.t 12)) none 3 true true), (AOp.mk (some 14) (AK.bin false BinOp.neq (AX.t 13) (AX.c (PV.val (Value.int IntKind.i64 0)))) none 4 true true), (AOp.mk (some 15) (AK.mv (AX.t 14)) none 5 true true), (AOp.mk (some 16) (AK.mv (AX.t 2)) (some (15, false)) 6 true false), (AOp.mk (some 17) (AK.conv IntKind.u64 (AX.t 16)) (some (15, false)) 7 true false), (AOp.mk (some 19) (AK.mv (AX.t 0)) (some (15, false)) 9 true false), (AOp.mk (some 20) (AK.nilc (AX.t 19)) (some (15, false)) 10 true false), (AOp.mk (some 21) (AK.fadr 0 (AX.t 20)) (some (15, false)) 11 true false), (AOp.mk (some 22) (AK.fadr 2 (AX.t 21)) (some (15, false)) 12 true false), (AOp.mk (some 23) (AK.ld none (AX.t 22)) (some (15, false)) 13 true false), (AOp.mk (some 18) (AK.call 169 [(AX.t 17)]) (some (15, false)) 8 false false), (AOp.mk (some 24) (AK.bin false BinOp.gtr (AX.t 18) (AX.t 23)) (some (15, false)) 14 true true), (AOp.mk (some 25) (AK.pick (AX.t 15) (AX.c (PV.val (Value.bool true))) (AX.t 24)) none 15 true true)]) (AC.cond (AX.t 25) (AC.seq (AC.ops [(AOp.mk (some 26) (AK.build [(PV.val (Value.int IntKind.i64 0)), (PV.sl SK.full 0 []), (PV.val (Value.int IntKind.i64 0)), (PV.val (Value.int IntKind.i64 0)), (PV.val (Value.int IntKind.i64 0)), (PV.val (Value.int IntKind.i64 0)), (PV.val (Value.int IntKind.i64 0)), (PV.val (Value.int IntKind.i64 0))] []) none 0 false true), (AOp.mk none (AK.st 8 (AX.t 6) (AX.t 26)) none 1 false true), (AOp.mk (some 7) (AK.mv (AX.c (PV.val (Value.bool false)))) none 2 false true)]) AC.ret) AC.skip)) (AC.seq (AC.ops [(AOp.mk (some 27) (AK.mv (AX.t 1)) none 0 false true), (AOp.mk (some 28) (AK.mv (AX.t 0)) none 1 false true), (AOp.mk (some 29) (AK.nilc (AX.t 28)) none 2 false true), (AOp.mk (some 30) (AK.fadr 4 (AX.t 29)) none 3 false true), (AOp.mk (some 31) (AK.ld (some 6) (AX.t 30)) none 4 false true), (AOp.mk (some 32) (AK.build [(PV.val (Value.int IntKind.i64 0)), (PV.sl SK.full 0 []), (PV.val (Value.int IntKind.i64 0)), (PV.val (Value.int IntKind.i64 0)), (PV.val (Value.int IntKind.i64 0)), (PV.val (Value.int IntKind.i64 0)), (PV.val (Value.int IntKind.i64 0)), (PV.val (Value.int IntKind.i64 0))] [(0, (1, (AX.t 27))), (2, (6, (AX.t 31)))]) none 5 false true), (AOp.mk none (AK.st 8 (AX.t 6) (AX.t 32)) none 6 false true)]) (AC.seq (AC.seq (AC.ops [(AOp.mk (some 33) (AK.mv (AX.t 0)) none 0 false true), (AOp.mk (some 34) (AK.call 150 [(AX.t 33)]) none 1 false true), (AOp.mk (some 35) (AK.mv (AX.c (PV.val (Value.int IntKind.i64 0)))) none 2 false true)]) (AC.block 0 (AC.loop (AC.seq (AC.ops [(AOp.mk (some 36) (AK.bin false BinOp.lss (AX.t 35) (AX.t 34)) none 0 false true)]) (AC.seq (AC.cond (AX.t 36) AC.skip (AC.exit 0)) (AC.seq (AC.block 1 (AC.seq (AC.ops [(AOp.mk (some 37) (AK.mv (AX.t 35)) none 0 false true), (AOp.mk (some 8) (AK.mv (AX.t 37)) none 1 false true)]) (AC.seq (AC.ops [(AOp.mk (some 38) (AK.mv (AX.t 1)) none 0 false true), (AOp.mk (some 39) (AK.mv (AX.t 8)) none 1 false true), (AOp.mk (some 40) (AK.build [(PV.val (Value.int IntKind.i64 0)), (PV.val (Value.int IntKind.i64 0))] [(0, (1, (AX.t 38))), (1, (1, (AX.t 39)))]) none 2 false true), (AOp.mk (some 9) (AK.new (PV.agg [(PV.val (Value.int IntKind.i64 0)), (PV.val (Value.int IntKind.i64 0))])) none 3 false true), (AOp.mk none (AK.st 2 (AX.t 9) (AX.t 40)) none 4 false true)]) (AC.seq (AC.ops [(AOp.mk (some 41) (AK.mv (AX.t 2)) none 0 false true), (AOp.mk (some 42) (AK.mv (AX.t 8)) none 1 false true), (AOp.mk (some 43) (AK.call 145 [(AX.t 41), (AX.t 42)]) none 2 false true)]) (AC.cond (AX.t 43) (AC.ops [(AOp.mk (some 44) (AK.fadr 1 (AX.t 6)) none 0 false true), (AOp.mk (some 45) (AK.ld none (AX.t 44)) none 1 false true), (AOp.mk (some 46) (AK.ld (some 2) (AX.t 9)) none 2 false true), (AOp.mk (some 47) (AK.bslice false 180 2 1 [(PV.val (Value.int IntKind.i64 0)), (PV.val (Value.int IntKind.i64 0))] [(0, (2, (AX.t 46)))]) none 3 false true), (AOp.mk (some 48) (AK.app false 180 2 16 [(PV.val (Value.int IntKind.i64 0)), (PV.val (Value.int IntKind.i64 0))] (AX.t 45) (AX.t 47)) none 4 false true), (AOp.mk (some 49) (AK.fadr 1 (AX.t 6)) none 5 false true), (AOp.mk none (AK.st 1 (AX.t 49) (AX.t 48)) none 6 false true)]) (AC.ops [(AOp.mk (some 50) (AK.mv (AX.t 8)) none 0 true false), (AOp.mk (some 51) (AK.mv (AX.t 0)) none 1 true false), (AOp.mk (some 52) (AK.nilc (AX.t 51)) none 2 true false), (AOp.mk (some 53) (AK.fadr 10 (AX.t 52)) none 3 true false), (AOp.mk (some 54) (AK.ld none (AX.t 53)) none 4 true false), (AOp.mk (some 55) (AK.ld (some 2) (AX.t 9)) none 5 true false), (AOp.mk (some 56) (AK.lkp [CK.i, CK.i] true (PV.val (Value.int IntKind.i64 0)) false (AX.t 54) (AX.t 55)) none 6 true false), (AOp.mk (some 57) (AK.fadr 2 (AX.t 6)) none 7 true false), (AOp.mk (some 58) (AK.iadrA 1 6 (AX.t 57) (AX.t 50)) none 8 true true), (AOp.mk none (AK.st 1 (AX.t 58) (AX.t 56)) none 9 false true)])))))) (AC.ops [(AOp.mk (some 59) (AK.bin false BinOp.add (AX.t 35) (AX.c (PV.val (Value.int IntKind.i64 1)))) none 0 false true), (AOp.mk (some 35) (AK.mv (AX.t 59)) none 1 false true)]))))))) (AC.seq (AC.ops [(AOp.mk (some 60) (AK.ld (some 8) (AX.t 6)) none 0 true false), (AOp.mk (some 61) (AK.fadr 2 (AX.t 6)) none 1 true false), (AOp.mk (some 62) (AK.ld (some 6) (AX.t 61)) none 2 true false), (AOp.mk (some 63) (AK.call 112 [(AX.t 62)]) none 3 false false), (AOp.mk (some 64) (AK.un UnOp.not (AX.t 63)) none 4 true false), (AOp.mk none (AK.st 8 (AX.t 6) (AX.t 60)) none 5 false true), (AOp.mk (some 7) (AK.mv (AX.t 64)) none 6 true true)]) AC.ret)))))
theorem ac152_ok : cCode Tryz.prog (fun _ => false) Tryz.f152.ntmps (Tryz.f152.body.getD .skip) = some ac152 := by kernel_rfl
theorem retQ_ct_le {P : Program} {t t' : Nat} {ty : TypeId} {n : Option Nat} {Q : PV → Prop} {s : AS} {x y x' : PV} (hs : shapeN P ty = some n) (h : stillV s (.ld n (.t t)) = some (.p x)) (h' : look s.t t' = .p y) (hle : PVle x x') (hQ : Q (.tup [x', y])) : retQ P [.cell t ty, .tmp t'] Q s :=
  ⟨[.p x, .p y], [x, y], s.loc, .tup [x', y], by simp [resA, hs, h, h'], rfl, PVle.tup (show PVleL [x, y] [x', y] from ⟨hle, PVle.refl _, trivial⟩), hQ⟩
theorem Ones_sem {c : Nat} (hc : c < 64) : Sem1 169 [.val (.int .u64 c)] (pi (cntN c 6 : Nat)) := by
  refine semC_of_exec' mixed Tryz.func169 (by kernel_rfl) (by kernel_rfl) ac169_ok 1 rfl (by decide) [(.tmp 2)] (by kernel_rfl) ?_
  intro hr C hC hI
  unfold ac169
  simp only [go_sem, Nat.reduceBEq]
  refine call_pure2 hC (Ones64_sem hc) rfl (PVleL_refl _) ?_
  rintro r rfl
  simp only [go_sem, Nat.reduceBEq]
  exact retQ_one rfl rfl
theorem cnt_six {c n : Nat} (hn : n ≤ 6) (hc : c < 2 ^ n) : cntN c 6 = cntN c n := by
  unfold cntN
  rw [show (6 : Nat) = n + (6 - n) by omega, List.range_add, List.filter_append]
  have : ((List.range (6 - n)).map (n + ·)).filter c.testBit = [] := by
    rw [List.filter_eq_nil_iff]
    intro k hk
    obtain ⟨q, -, rfl⟩ := List.mem_map.1 hk
    rw [Nat.testBit_lt_two_pow (Nat.lt_of_lt_of_le hc (Nat.pow_le_pow_right (by decide) (by omega)))]
    decide
  rw [this, List.append_nil]
def valA (b : MBook) (m c k : Nat) : Nat := if k < nK b then valN b m c k else 31
def chg (c j : Nat) : List Nat := (List.range j).filter c.testBit
def worksR (m : Nat) (l : List Nat) : List (List PV) := l.map fun (k : Nat) => [pi m, pi k]
def truthC (b : MBook) (m c : Nat) : List PV := [pi m, .sl .sh 2 (worksR m (chg c (nK b))), pi (valA b m c 0), pi (valA b m c 1), pi (valA b m c 2), pi (valA b m c 3), pi (valA b m c 4), pi (valA b m c 5)]
def TruthQ (b : MBook) (m c : Nat) (r : PV) : Prop := (truthB b m c = true ∧ r = .tup [.agg (truthC b m c), pb true]) ∨ (truthB b m c = false ∧ ∃ x0 x1 x2 x3 x4 x5 x6 x7, r = .tup [.agg [x0, x1, x2, x3, x4, x5, x6, x7], pb false])
theorem chg_next (m c j : Nat) : worksR m (chg c (j + 1)) = worksR m (chg c j) ++ if c.testBit j then [[pi m, pi j]] else [] := by
  unfold worksR chg
  rw [List.range_succ, List.filter_append, List.map_append]
  congr 1
  simp only [List.filter_cons, List.filter_nil]
  split <;> rfl
theorem lack_val {b : MBook} (h6 : nK b ≤ 6) (m c : Nat) : lackB (valA b m c) = !((List.range (nK b)).all fun k => decide (valN b m c k ≠ 0)) := by
  rw [Bool.eq_iff_iff, lack_iff, Bool.not_eq_true', Bool.eq_false_iff, Ne, List.all_eq_true]
  constructor
  · rintro ⟨k, hk, h⟩ H
    unfold valA at h
    split at h
    · rename_i hkn
      have := H k (List.mem_range.2 hkn)
      rw [h] at this
      simp at this
    · cases h
  · intro H
    refine Classical.byContradiction fun hn => H fun k hk => ?_
    have hk := List.mem_range.1 hk
    rw [decide_eq_true_eq]
    intro h0
    exact hn ⟨k, by omega, by unfold valA; rw [if_pos hk, h0]⟩
def gV (b : MBook) (m c j q : Nat) : Nat := if q < j then valA b m c q else seenN b q
set_option maxRecDepth 100000 in
theorem truth_sem (k k2 : SK) {b : MBook} (ho : okC b) {m c : Nat} (hm : m < b.makers.length) (hc : c < 2 ^ nK b) : SemC Tryz.prog 152 [bookP k k2 b, pi m, pi c] (TruthQ b m c) := by
  obtain ⟨h1, h2, h3, h4, h5⟩ := ho
  have h64 := pow_le64 ⟨h1, h2, h3, h4, h5⟩
  obtain ⟨hfx, hfl⟩ := okC.fix ⟨h1, h2, h3, h4, h5⟩
  have hand : binS false .and (.p (pi (c : Nat))) (.p (pi b.fixed)) = some (.p (pi ((c &&& fixN b : Nat) : Int))) := by
    rw [hfx]
    exact bin_andN (by omega) (by omega)
  have hwr : IntKind.u64.wrap (c : Int) = c := by
    obtain ⟨i, rfl⟩ : ∃ i : Fin 64, c = i.val := ⟨⟨c, by omega⟩, rfl⟩
    clear hc hand
    revert i
    decide
  have hcs := cnt_six (by omega) hc
  by_cases d1 : c &&& fixN b = 0
  rotate_left
  · have hf : truthB b m c = false := by unfold truthB; rw [decide_eq_false d1]; rfl
    refine semC_of_exec' mixed Tryz.func152 (by kernel_rfl) (by kernel_rfl) ac152_ok 3 rfl (by decide) [(.cell 6 157), (.tmp 7)] (by kernel_rfl) ?_
    intro hr C hC hI
    unfold ac152
    simp only [go_sem, Nat.reduceBEq, Nat.reduceAdd]
    refine call_pure2 hC (fixed_sem k k2 b _) rfl (PVleL_refl _) ?_
    rintro r rfl
    simp only [go_sem, Nat.reduceBEq, Nat.reduceAdd, hand, eq_true (show ¬ ((c &&& fixN b : Nat) : Int) = 0 by omega), decide_true, not_false_eq_true, putCells]
    exact retQ_ct (n := some 8) (by kernel_rfl) rfl rfl (.inr ⟨hf, _, _, _, _, _, _, _, _, rfl⟩)
  by_cases d2 : b.repairs < (cntN c (nK b) : Int)
  · have hf : truthB b m c = false := by unfold truthB; rw [decide_eq_false (show ¬ (cntN c (nK b) : Int) ≤ b.repairs by omega)]; simp
    refine semC_of_exec' mixed Tryz.func152 (by kernel_rfl) (by kernel_rfl) ac152_ok 3 rfl (by decide) [(.cell 6 157), (.tmp 7)] (by kernel_rfl) ?_
    intro hr C hC hI
    unfold ac152
    simp only [go_sem, Nat.reduceBEq, Nat.reduceAdd]
    refine call_pure2 hC (fixed_sem k k2 b _) rfl (PVleL_refl _) ?_
    rintro r rfl
    simp only [go_sem, Nat.reduceBEq, hand, d1, Int.natCast_zero, convS_int, hwr, decide_false, not_true_eq_false, Bool.false_eq_true]
    refine call_pure2 hC (Ones_sem (show c < 64 by omega)) rfl (PVleL_refl _) ?_
    rintro r rfl
    simp only [go_sem, Nat.reduceBEq, Nat.reduceAdd, hcs, eq_true d2, decide_true, not_false_eq_true, putCells]
    exact retQ_ct (n := some 8) (by kernel_rfl) rfl rfl (.inr ⟨hf, _, _, _, _, _, _, _, _, rfl⟩)
  have hlack := lack_val (b := b) (by omega) m c
  have htr : truthB b m c = !lackB (valA b m c) := by
    unfold truthB
    rw [decide_eq_true d1, decide_eq_true (show (cntN c (nK b) : Int) ≤ b.repairs by omega), hlack, Bool.not_not]
    rfl
  refine semC_of_exec' mixed Tryz.func152 (by kernel_rfl) (by kernel_rfl) ac152_ok 3 rfl (by decide) [(.cell 6 157), (.tmp 7)] (by kernel_rfl) ?_
  intro hr C hC hI
  unfold ac152
  simp only [go_sem, Nat.reduceBEq, Nat.reduceAdd]
  refine call_pure2 hC (fixed_sem k k2 b _) rfl (PVleL_refl _) ?_
  rintro r rfl
  simp only [go_sem, Nat.reduceBEq, hand, d1, Int.natCast_zero, convS_int, hwr, decide_false, not_true_eq_false, Bool.false_eq_true]
  refine call_pure2 hC (Ones_sem (show c < 64 by omega)) rfl (PVleL_refl _) ?_
  rintro r rfl
  simp only [go_sem, Nat.reduceBEq, Nat.reduceAdd, Nat.reduceLeDiff, hcs, eq_false d2, decide_false, not_false_eq_true, putCells]
  refine call_pure2 hC (kinds_sem k k2 b _) rfl (PVleL_refl _) ?_
  rintro r rfl
  simp only [go_sem]
  refine loop_g (α := Nat × Option Nat) (fun a => a.1 ≤ nK b ∧ (a.2 = none → worksR m (chg c a.1) = [])) (fun a => nK b - a.1) [0, 1, 2, 6, 34] (fun a => [(35, .p (pi a.1))]) (fun a => [.cells [.p (pi m), .p (slZ 180 2 a.2 (worksR m (chg c a.1))), .p (pi (gV b m c a.1 0 : Nat)), .p (pi (gV b m c a.1 1 : Nat)), .p (pi (gV b m c a.1 2 : Nat)), .p (pi (gV b m c a.1 3 : Nat)), .p (pi (gV b m c a.1 4 : Nat)), .p (pi (gV b m c a.1 5 : Nat))]]) (fun a => a.2.toList) (0, none) ⟨by omega, fun _ => rfl⟩ (by simp [Wk, wkT, wkL, look, AV.lo, AV.lo.loL, ABlk.toZ, upS_eq, keepS_nil, keepS_cons, slZ, gV]) ?_
  rintro ⟨j, o⟩ ⟨hj, h0⟩
  replace hj : j ≤ nK b := hj
  replace h0 : o = none → worksR m (chg c j) = [] := h0
  have hnx := chg_next m c j
  have hwl : (worksR m (chg c j)).length ≤ 999999 := by
    unfold worksR chg
    rw [List.length_map]
    exact Nat.le_trans (List.length_filter_le ..) (by rw [List.length_range]; omega)
  simp only [go_sem, Nat.reduceBEq, Nat.reduceAdd, Nat.reduceLeDiff]
  refine ⟨fun c5 => ?_, fun c5 => ?_⟩
  · have hj2 : j < nK b := by omega
    have hlk := look_own hm hj2 (pi 0)
    have hoth : ∀ q, q ≠ j → gV b m c (j + 1) q = gV b m c j q := fun q hq => by
      unfold gV
      by_cases hlt : q < j
      · rw [if_pos hlt, if_pos (by omega)]
      · rw [if_neg hlt, if_neg (by omega)]
    have hat : gV b m c (j + 1) j = valN b m c j := by
      unfold gV valA
      rw [if_pos (by omega), if_pos hj2]
    have hat0 : gV b m c j j = seenN b j := by
      unfold gV
      rw [if_neg (by omega)]
    refine call_pure2 hC (has_sem c j (by omega)) rfl (PVleL_refl _) ?_
    rintro r rfl
    simp only [go_sem, Nat.reduceBEq]
    cases hb : c.testBit j
    · rw [hb, if_neg (by decide), List.append_nil] at hnx
      have hown : gV b m c (j + 1) j = ownN b m j := by
        rw [hat]
        unfold valN
        rw [hb, if_neg (by decide)]
      rcases lt6 (show j < 6 by omega) with rfl | rfl | rfl | rfl | rfl | rfl
      · have g0 := hown
        have g1 := hoth 1 (by decide)
        have g2 := hoth 2 (by decide)
        have g3 := hoth 3 (by decide)
        have g4 := hoth 4 (by decide)
        have g5 := hoth 5 (by decide)
        simp only [go_sem, Nat.reduceBEq, Nat.reduceAdd, Nat.reduceLeDiff, hlk, putCells, ia6 (i := 0) (by decide), Nat.reduceAdd, wrap_succ (k := 0) (by omega)]
        refine ⟨⟨(1, o), hj2, fun h => hnx.trans (h0 h)⟩, by simp only; omega, ?_⟩
        simp only [hnx, g0, g1, g2, g3, g4, g5]
        cases o <;> simp [Wk, wkT, wkL, look, AV.lo, AV.lo.loL, ABlk.toZ]
      · have g0 := hoth 0 (by decide)
        have g1 := hown
        have g2 := hoth 2 (by decide)
        have g3 := hoth 3 (by decide)
        have g4 := hoth 4 (by decide)
        have g5 := hoth 5 (by decide)
        simp only [go_sem, Nat.reduceBEq, Nat.reduceAdd, Nat.reduceLeDiff, hlk, putCells, ia6 (i := 1) (by decide), Nat.reduceAdd, wrap_succ (k := 1) (by omega)]
        refine ⟨⟨(2, o), hj2, fun h => hnx.trans (h0 h)⟩, by simp only; omega, ?_⟩
        simp only [hnx, g0, g1, g2, g3, g4, g5]
        cases o <;> simp [Wk, wkT, wkL, look, AV.lo, AV.lo.loL, ABlk.toZ]
      · have g0 := hoth 0 (by decide)
        have g1 := hoth 1 (by decide)
        have g2 := hown
        have g3 := hoth 3 (by decide)
        have g4 := hoth 4 (by decide)
        have g5 := hoth 5 (by decide)
        simp only [go_sem, Nat.reduceBEq, Nat.reduceAdd, Nat.reduceLeDiff, hlk, putCells, ia6 (i := 2) (by decide), Nat.reduceAdd, wrap_succ (k := 2) (by omega)]
        refine ⟨⟨(3, o), hj2, fun h => hnx.trans (h0 h)⟩, by simp only; omega, ?_⟩
        simp only [hnx, g0, g1, g2, g3, g4, g5]
        cases o <;> simp [Wk, wkT, wkL, look, AV.lo, AV.lo.loL, ABlk.toZ]
      · have g0 := hoth 0 (by decide)
        have g1 := hoth 1 (by decide)
        have g2 := hoth 2 (by decide)
        have g3 := hown
        have g4 := hoth 4 (by decide)
        have g5 := hoth 5 (by decide)
        simp only [go_sem, Nat.reduceBEq, Nat.reduceAdd, Nat.reduceLeDiff, hlk, putCells, ia6 (i := 3) (by decide), Nat.reduceAdd, wrap_succ (k := 3) (by omega)]
        refine ⟨⟨(4, o), hj2, fun h => hnx.trans (h0 h)⟩, by simp only; omega, ?_⟩
        simp only [hnx, g0, g1, g2, g3, g4, g5]
        cases o <;> simp [Wk, wkT, wkL, look, AV.lo, AV.lo.loL, ABlk.toZ]
      · have g0 := hoth 0 (by decide)
        have g1 := hoth 1 (by decide)
        have g2 := hoth 2 (by decide)
        have g3 := hoth 3 (by decide)
        have g4 := hown
        have g5 := hoth 5 (by decide)
        simp only [go_sem, Nat.reduceBEq, Nat.reduceAdd, Nat.reduceLeDiff, hlk, putCells, ia6 (i := 4) (by decide), Nat.reduceAdd, wrap_succ (k := 4) (by omega)]
        refine ⟨⟨(5, o), hj2, fun h => hnx.trans (h0 h)⟩, by simp only; omega, ?_⟩
        simp only [hnx, g0, g1, g2, g3, g4, g5]
        cases o <;> simp [Wk, wkT, wkL, look, AV.lo, AV.lo.loL, ABlk.toZ]
      · have g0 := hoth 0 (by decide)
        have g1 := hoth 1 (by decide)
        have g2 := hoth 2 (by decide)
        have g3 := hoth 3 (by decide)
        have g4 := hoth 4 (by decide)
        have g5 := hown
        simp only [go_sem, Nat.reduceBEq, Nat.reduceAdd, hlk, putCells, ia6 (i := 5) (by decide), Nat.reduceAdd, wrap_succ (k := 5) (by omega)]
        refine ⟨⟨(6, o), hj2, fun h => hnx.trans (h0 h)⟩, by simp only; omega, ?_⟩
        simp only [hnx, g0, g1, g2, g3, g4, g5]
        cases o <;> simp [Wk, wkT, wkL, look, AV.lo, AV.lo.loL, ABlk.toZ]
    · rw [hb, if_pos rfl] at hnx
      have hsame : ∀ q, gV b m c (j + 1) q = gV b m c j q := fun q => by
        by_cases e : q = j
        · rw [e, hat, hat0]
          unfold valN
          rw [hb, if_pos rfl]
        · exact hoth q e
      simp only [go_sem, Nat.reduceBEq, Nat.reduceAdd, putCells]
      refine app_slZ h0 hwl (by simp) fun tk htk => ?_
      simp only [go_sem, Nat.reduceBEq]
      refine ⟨.inl rfl, by simp, ?_⟩
      simp only [go_sem, Nat.reduceBEq, Nat.reduceAdd, wrap_succ (k := j) (by omega), putCells]
      refine ⟨⟨(j + 1, some tk), hj2, (fun h => by cases h)⟩, by simp only; omega, ?_⟩
      simp only [hnx, hsame]
      simp [Wk, wkT, wkL, look, AV.lo, AV.lo.loL, ABlk.toZ]
  · have hjn : j = nK b := by omega
    subst hjn
    have hge : ∀ q, q < 6 → gV b m c (nK b) q = valA b m c q := fun q _ => by
      unfold gV
      split
      · rfl
      · rename_i hq
        unfold valA
        rw [if_neg hq]
        exact seen_out ⟨h1, h2, h3, h4, h5⟩ (by omega)
    have g0 := hge 0 (by decide)
    have g1 := hge 1 (by decide)
    have g2 := hge 2 (by decide)
    have g3 := hge 3 (by decide)
    have g4 := hge 4 (by decide)
    have g5 := hge 5 (by decide)
    rw [g0, g1, g2, g3, g4, g5]
    refine call_pure2 hC (lacksSome_sem (valA b m c)) rfl (PVleL_refl _) ?_
    rintro r rfl
    simp only [go_sem, Nat.reduceBEq]
    cases hlb : lackB (valA b m c)
    · rw [hlb] at htr
      simp only [go_sem, Nat.reduceBEq, Nat.reduceAdd, putCells]
      refine retQ_ct_le (n := some 8) (by kernel_rfl) rfl rfl (PVle.agg ?_) (.inl ⟨htr, rfl⟩)
      exact ⟨PVle.refl _, slZ_le h0, PVleL.refl _⟩
    · rw [hlb] at htr
      simp only [go_sem, Nat.reduceBEq, Nat.reduceAdd, putCells]
      exact retQ_ct (n := some 8) (by kernel_rfl) rfl rfl (.inr ⟨htr, _, _, _, _, _, _, _, _, rfl⟩)
end Go.Proofs.YtlcpplkbmlmmbaaGreat.Mk
namespace Go.Proofs.YtlcpplkbmlmmbaaGreat.Mk
open Go.RowKit Ls
def ac118 : AC := (AC.seq (AC.ops [(AOp.mk (some 2) (AK.box 1 (AX.t 0)) none 0 false true), (AOp.mk (some 3) (AK.box 1 (AX.t 1)) none 1 false true), (AOp.mk (some 4) (AK.mv (AX.c (PV.val Value.nilFunc))) none 2 false true)]) (AC.seq (AC.ops [(AOp.mk (some 5) (AK.mkf 149 [] [(AX.t 3), (AX.t 2)]) none 0 false true), (AOp.mk (some 4) (AK.mv (AX.t 5)) none 1 false true)]) AC.ret))
theorem ac118_ok : cCode Tryz.prog (fun _ => false) Tryz.f118.ntmps (Tryz.f118.body.getD .skip) = some ac118 := by kernel_rfl
def ac149 : AC := (AC.seq AC.skip (AC.seq (AC.ops [(AOp.mk (some 10) (AK.ld none (AX.t 1)) none 0 false true), (AOp.mk (some 11) (AK.len (AX.t 10)) none 1 false true), (AOp.mk (some 12) (AK.mv (AX.c (PV.val (Value.int IntKind.i64 0)))) none 2 false true)]) (AC.block 0 (AC.loop (AC.seq (AC.ops [(AOp.mk (some 13) (AK.bin false BinOp.lss (AX.t 12) (AX.t 11)) none 0 false true)]) (AC.seq (AC.cond (AX.t 13) AC.skip (AC.exit 0)) (AC.seq (AC.block 1 (AC.seq (AC.ops [(AOp.mk (some 14) (AK.iadrS 1 (AX.t 10) (AX.t 12)) none 0 false true), (AOp.mk (some 15) (AK.ld none (AX.t 14)) none 1 false true), (AOp.mk (some 5) (AK.mv (AX.t 15)) none 2 false true)]) (AC.seq (AC.seq (AC.ops [(AOp.mk (some 16) (AK.ld none (AX.t 2)) none 0 false true), (AOp.mk (some 17) (AK.call 150 [(AX.t 16)]) none 1 false true), (AOp.mk (some 18) (AK.mv (AX.c (PV.val (Value.int IntKind.i64 0)))) none 2 false true)]) (AC.block 2 (AC.loop (AC.seq (AC.ops [(AOp.mk (some 19) (AK.bin false BinOp.lss (AX.t 18) (AX.t 17)) none 0 false true)]) (AC.seq (AC.cond (AX.t 19) AC.skip (AC.exit 2)) (AC.seq (AC.block 3 (AC.seq (AC.ops [(AOp.mk (some 20) (AK.mv (AX.t 18)) none 0 false true), (AOp.mk (some 6) (AK.mv (AX.t 20)) none 1 false true)]) (AC.seq (AC.ops [(AOp.mk (some 21) (AK.ld none (AX.t 2)) none 0 false true), (AOp.mk (some 22) (AK.call 151 [(AX.t 21)]) none 1 false true), (AOp.mk (some 23) (AK.mv (AX.t 6)) none 2 false true), (AOp.mk (some 24) (AK.call 145 [(AX.t 22), (AX.t 23)]) none 3 false true), (AOp.mk (some 25) (AK.mv (AX.t 24)) none 4 false true), (AOp.mk (some 26) (AK.ld none (AX.t 2)) (some (25, true)) 5 false true), (AOp.mk (some 27) (AK.nilc (AX.t 26)) (some (25, true)) 6 false true), (AOp.mk (some 28) (AK.fadr 10 (AX.t 27)) (some (25, true)) 7 false true), (AOp.mk (some 29) (AK.ld none (AX.t 28)) (some (25, true)) 8 false true), (AOp.mk (some 30) (AK.mv (AX.t 5)) (some (25, true)) 9 false true), (AOp.mk (some 31) (AK.mv (AX.t 6)) (some (25, true)) 10 false true), (AOp.mk (some 32) (AK.build [(PV.val (Value.int IntKind.i64 0)), (PV.val (Value.int IntKind.i64 0))] [(0, (1, (AX.t 30))), (1, (1, (AX.t 31)))]) (some (25, true)) 11 false true), (AOp.mk (some 33) (AK.lkp [CK.i, CK.i] true (PV.val (Value.int IntKind.i64 0)) false (AX.t 29) (AX.t 32)) (some (25, true)) 12 false true), (AOp.mk (some 34) (AK.bin false BinOp.eql (AX.t 33) (AX.c (PV.val (Value.int IntKind.i64 0)))) (some (25, true)) 13 false true), (AOp.mk (some 35) (AK.pick (AX.t 25) (AX.t 34) (AX.c (PV.val (Value.bool false)))) none 14 false true)]) (AC.cond (AX.t 35) (AC.exit 1) AC.skip)))) (AC.ops [(AOp.mk (some 36) (AK.bin false BinOp.add (AX.t 18) (AX.c (PV.val (Value.int IntKind.i64 1)))) none 0 false true), (AOp.mk (some 18) (AK.mv (AX.t 36)) none 1 false true)]))))))) (AC.seq (AC.ops [(AOp.mk (some 37) (AK.ld none (AX.t 2)) none 0 false true), (AOp.mk (some 38) (AK.call 150 [(AX.t 37)]) none 1 false true), (AOp.mk (some 39) (AK.bin false BinOp.shl (AX.c (PV.val (Value.int IntKind.i64 1))) (AX.t 38)) none 2 false true), (AOp.mk (some 40) (AK.mv (AX.c (PV.val (Value.int IntKind.i64 0)))) none 3 false true)]) (AC.block 4 (AC.loop (AC.seq (AC.ops [(AOp.mk (some 41) (AK.bin false BinOp.lss (AX.t 40) (AX.t 39)) none 0 false true)]) (AC.seq (AC.cond (AX.t 41) AC.skip (AC.exit 4)) (AC.seq (AC.block 5 (AC.seq (AC.ops [(AOp.mk (some 42) (AK.mv (AX.t 40)) none 0 false true), (AOp.mk (some 7) (AK.mv (AX.t 42)) none 1 false true)]) (AC.seq (AC.ops [(AOp.mk (some 44) (AK.ld none (AX.t 2)) none 0 false true), (AOp.mk (some 45) (AK.mv (AX.t 5)) none 1 false true), (AOp.mk (some 46) (AK.mv (AX.t 7)) none 2 false true), (AOp.mk (some 47) (AK.call 152 [(AX.t 44), (AX.t 45), (AX.t 46)]) none 3 false true), (AOp.mk (some 43) (AK.mv (AX.t 47)) none 4 false true), (AOp.mk (some 48) (AK.ext (AX.t 43) 0) none 5 false true), (AOp.mk (some 49) (AK.ext (AX.t 43) 1) none 6 false true), (AOp.mk (some 8) (AK.new (PV.agg [(PV.val (Value.int IntKind.i64 0)), (PV.sl SK.full 0 []), (PV.val (Value.int IntKind.i64 0)), (PV.val (Value.int IntKind.i64 0)), (PV.val (Value.int IntKind.i64 0)), (PV.val (Value.int IntKind.i64 0)), (PV.val (Value.int IntKind.i64 0)), (PV.val (Value.int IntKind.i64 0))])) none 7 false true), (AOp.mk none (AK.st 8 (AX.t 8) (AX.t 48)) none 8 false true), (AOp.mk (some 9) (AK.mv (AX.t 49)) none 9 false true)]) (AC.seq (AC.ops [(AOp.mk (some 50) (AK.mv (AX.t 9)) none 0 false true), (AOp.mk (some 51) (AK.mv (AX.t 50)) none 1 false true), (AOp.mk (some 52) (AK.mv (AX.t 0)) (some (51, true)) 2 false true), (AOp.mk (some 53) (AK.ld (some 8) (AX.t 8)) (some (51, true)) 3 false true), (AOp.mk (some 54) (AK.callv (AX.t 52) [(AX.t 53)]) (some (51, true)) 4 false true), (AOp.mk (some 55) (AK.un UnOp.not (AX.t 54)) (some (51, true)) 5 false true), (AOp.mk (some 56) (AK.pick (AX.t 51) (AX.t 55) (AX.c (PV.val (Value.bool false)))) none 6 false true)]) (AC.cond (AX.t 56) AC.ret AC.skip))))) (AC.ops [(AOp.mk (some 57) (AK.bin false BinOp.add (AX.t 40) (AX.c (PV.val (Value.int IntKind.i64 1)))) none 0 false true), (AOp.mk (some 40) (AK.mv (AX.t 57)) none 1 false true)])))))))))) (AC.ops [(AOp.mk (some 58) (AK.bin false BinOp.add (AX.t 12) (AX.c (PV.val (Value.int IntKind.i64 1)))) none 0 false true), (AOp.mk (some 12) (AK.mv (AX.t 58)) none 1 false true)]))))))))
theorem ac149_ok : cCode Tryz.prog (fun _ => false) Tryz.f149.ntmps (Tryz.f149.body.getD .skip) = some ac149 := by kernel_rfl
def encTr (b : MBook) (t : Nat × Nat) : List PV := [.agg (truthC b t.1 t.2)]
def trL (b : MBook) (l : List Nat) : List (Nat × Nat) := l.flatMap fun m => (truthsL b m).map fun c => (m, c)
def yT (b : MBook) (l : List Nat) : List (List PV) := (trL b l).map (encTr b)
def yC (b : MBook) (m c : Nat) : List (List PV) := ((((List.range (2 ^ nK b)).drop c).filter (truthB b m)).map fun c => (m, c)).map (encTr b)
theorem yT_cons (b : MBook) (m : Nat) (l : List Nat) : yT b (m :: l) = yC b m 0 ++ yT b l := by
  unfold yT trL yC truthsL
  rw [List.flatMap_cons, List.map_append, List.drop_zero]
theorem yC_next {b : MBook} {m c : Nat} (h : c < 2 ^ nK b) : yC b m c = (if truthB b m c then [[.agg (truthC b m c)]] else []) ++ yC b m (c + 1) := by
  unfold yC
  rw [List.drop_eq_getElem_cons (by simpa using h), List.getElem_range, List.filter_cons]
  cases truthB b m c <;> rfl
theorem yC_end (b : MBook) (m : Nat) : yC b m (2 ^ nK b) = [] := by
  unfold yC
  rw [List.drop_eq_nil_of_le (by simp)]
  rfl
theorem yC_none {b : MBook} {m : Nat} (h : freeB b m = false) : yC b m 0 = [] := by
  have : truthsL b m = [] := by
    refine List.eq_nil_iff_forall_not_mem.2 fun c hc => ?_
    have := truth_free (mem_truths.1 hc).2
    rw [h] at this
    cases this
  unfold yC
  rw [List.drop_zero]
  show ((truthsL b m).map _).map _ = _
  rw [this]
  rfl
theorem noY_truth (b : MBook) (t : Nat × Nat) : noY.noYL (encTr b t) = true := by
  have : noY.noYR (worksR t.1 (chg t.2 (nK b))) = true := noYR_map (fun _ => rfl) _
  simp only [encTr, truthC, noY.noYL, noY, this, Bool.and_true]
theorem noY_trs (b : MBook) (l : List (Nat × Nat)) : noY.noYR (l.map (encTr b)) = true := noYR_map (fun t => noY_truth b t) _
theorem truths_clo (k k2 : SK) (b : MBook) (m : PV) (l : List Nat) (kk : SK) : Sem1 118 [bookX k k2 b m, .sl kk 1 ((natL l).map fun x => [pi x])] (.clo 149 [] [.ptr [.sl kk 1 ((natL l).map fun x => [pi x])] 0, .ptr [bookX k k2 b m] 0]) := by
  refine semC_of_exec' mixed Tryz.func118 (by kernel_rfl) (by kernel_rfl) ac118_ok 2 rfl (by decide) [(.tmp 4)] (by kernel_rfl) ?_
  intro hr C hC hI
  unfold ac118
  simp only [go_sem, Nat.reduceBEq]
  exact retQ_pur rfl rfl (PVle.refl _) rfl
theorem truths_it (k k2 : SK) {b : MBook} (ho : okC b) (kk : SK) (l : List Nat) (hl : ∀ m ∈ l, m < b.makers.length) (hlen : l.length ≤ 1000) : IterC Tryz.prog Fence.wide 149 [.yld, .ptr [.sl kk 1 ((natL l).map fun x => [pi x])] 0, .ptr [bookP k k2 b] 0] (yT b l) := by
  have ho2 := ho
  obtain ⟨h1, h2, h3, h4, h5⟩ := ho
  have h64 := pow_le64 ho2
  obtain ⟨hfx, hfl⟩ := okC.fix ho2
  refine iterC_of_exec' mixed Tryz.func149 (by kernel_rfl) (by kernel_rfl) ac149_ok 3 rfl (by decide) (by kernel_rfl) ?_
  intro C hC hI
  unfold ac149
  simp only [go_sem, Nat.reduceBEq, Nat.reduceAdd, List.length_map, natL_len]
  refine loop_ky l.length (fun _ => True) [0, 2, 10, 11] (fun i => [(12, .p (pi i))]) (fun _ => []) (fun i => some (yT b (l.drop i))) trivial (by simp [Wk, wkT, wkL, look, AV.lo, keepS]) ?_
  rintro i ⟨hi, -⟩
  simp only [go_sem, Nat.reduceBEq]
  refine ⟨fun c5 => ?_, fun c5 => ?_⟩
  · have hi2 : i < l.length := by omega
    have hm := hl _ (List.getElem_mem hi2)
    obtain ⟨m, em⟩ : ∃ m, l[i] = m := ⟨_, rfl⟩
    rw [em] at hm
    have hil : i < (natL l).length := by rw [natL_len]; exact hi2
    have hiv : (natL l)[i] = (m : Int) := by simp [natL, em]
    have hiad := iadr_map (f := fun x : Int => [pi x]) (kd := kk) (sz := 1) hil
    rw [hiv] at hiad
    have hdrop : yT b (l.drop i) = yC b m 0 ++ yT b (l.drop (i + 1)) := by
      rw [List.drop_eq_getElem_cons hi2, em, yT_cons]
    rw [hdrop]
    simp only [go_sem, Nat.reduceBEq, hiad]
    refine call_pure2 hC (kinds_sem k k2 b _) rfl (PVleL_refl _) ?_
    rintro r rfl
    simp only [go_sem]
    refine loop_ky (nK b) (fun q => ∀ x, x < q → (zeroB b m x && (fixN b).testBit x) = false) [0, 2, 5, 10, 11, 12, 17] (fun q => [(18, .p (pi q))]) (fun _ => []) (fun _ => some (yC b m 0 ++ yT b (l.drop (i + 1)))) (fun x h => absurd h (by omega)) (by simp [Wk, wkT, wkL, look, AV.lo, keepS]) ?_
    rintro q ⟨hq, hok⟩
    simp only [go_sem, Nat.reduceBEq]
    refine ⟨fun d5 => ?_, fun d5 => ?_⟩
    · have hq2 : q < nK b := by omega
      have hlk := look_own hm hq2 (pi 0)
      have hz : zeroB b m q = decide (ownN b m q = 0) := rfl
      refine call_pure2 hC (fixed_sem k k2 b _) rfl (PVleL_refl _) ?_
      rintro r rfl
      simp only [go_sem, Nat.reduceBEq, hfx]
      refine call_pure2 hC (has_sem (fixN b) q (by omega)) rfl (PVleL_refl _) ?_
      rintro r rfl
      simp only [go_sem, Nat.reduceBEq]
      cases hfb : (fixN b).testBit q
      · simp only [go_sem, Nat.reduceBEq, wrap_succ (k := q) (by omega)]
        refine ⟨⟨q + 1, hq2, fun x hx => ?_⟩, by simp only; omega, by simp [Wk, wkT, wkL, look, AV.lo]⟩
        by_cases e : x = q
        · rw [e, hfb, Bool.and_false]
        · exact hok x (by omega)
      · simp only [go_sem, Nat.reduceBEq, Nat.reduceAdd, Nat.reduceLeDiff, hlk, Option.map_some]
        refine ⟨fun h0 => ?_, fun h0 => ?_⟩
        · have hfr : freeB b m = false := by
            rw [Bool.eq_false_iff]
            intro hf
            have := free_fix hf hq2 (decide_eq_true (show ownN b m q = 0 by omega))
            rw [hfb] at this
            cases this
          rw [yC_none hfr, List.nil_append]
          simp only [go_sem, wrap_succ (k := i) (by omega)]
          exact ⟨⟨i + 1, hi2, trivial⟩, by simp only; omega, by simp [Wk, wkT, wkL, look, AV.lo]⟩
        · simp only [go_sem, wrap_succ (k := q) (by omega)]
          refine ⟨⟨q + 1, hq2, fun x hx => ?_⟩, by simp only; omega, by simp [Wk, wkT, wkL, look, AV.lo]⟩
          by_cases e : x = q
          · rw [e, hz, decide_eq_false (show ¬ ownN b m q = 0 by omega)]
            rfl
          · exact hok x (by omega)
    · refine call_pure2 hC (kinds_sem k k2 b _) rfl (PVleL_refl _) ?_
      rintro r rfl
      simp only [go_sem, Nat.reduceBEq, bin_shl (show ¬ (nK b : Int) < 0 by omega), shl6 (m := nK b) (by omega)]
      refine loop_ky (2 ^ nK b) (fun _ => True) [0, 2, 5, 10, 11, 12, 39] (fun c => [(40, .p (pi c))]) (fun _ => []) (fun c => some (yC b m c ++ yT b (l.drop (i + 1)))) trivial (by simp [Wk, wkT, wkL, look, AV.lo, keepS]) ?_
      rintro c ⟨hc, -⟩
      simp only [go_sem, Nat.reduceBEq]
      refine ⟨fun e5 => ?_, fun e5 => ?_⟩
      · have hc2 : c < 2 ^ nK b := by omega
        have hnx := yC_next (m := m) hc2
        refine call_pure2 hC (truth_sem k k2 ho2 hm hc2) rfl (PVleL_refl _) ?_
        rintro r (⟨ht, rfl⟩ | ⟨ht, x0, x1, x2, x3, x4, x5, x6, x7, rfl⟩)
        · rw [ht, if_pos rfl] at hnx
          rw [hnx]
          simp only [go_sem, Nat.reduceBEq, Nat.reduceAdd, putCells, truthC, wrap_succ (k := c) (by omega)]
          exact ⟨PVleL_refl _, ⟨⟨c + 1, hc2, trivial⟩, by simp only; omega, by simp [Wk, wkT, wkL, look, AV.lo]⟩, .inr rfl⟩
        · rw [ht, if_neg (by decide), List.nil_append] at hnx
          rw [hnx]
          simp only [go_sem, Nat.reduceBEq, Nat.reduceAdd, putCells, wrap_succ (k := c) (by omega)]
          exact ⟨⟨c + 1, hc2, trivial⟩, by simp only; omega, by simp [Wk, wkT, wkL, look, AV.lo]⟩
      · have hcn : c = 2 ^ nK b := by omega
        subst hcn
        rw [yC_end, List.nil_append]
        simp only [go_sem, wrap_succ (k := i) (by omega)]
        exact ⟨⟨i + 1, hi2, trivial⟩, by simp only; omega, by simp [Wk, wkT, wkL, look, AV.lo]⟩
  · have hin : i = l.length := by omega
    rw [show yT b (l.drop i) = [] by rw [List.drop_eq_nil_of_le (by omega)]; rfl]
    exact .inl rfl
end Go.Proofs.YtlcpplkbmlmmbaaGreat.Mk
