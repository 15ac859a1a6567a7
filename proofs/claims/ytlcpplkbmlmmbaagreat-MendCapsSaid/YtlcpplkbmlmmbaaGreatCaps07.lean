/- Contracts of mend: sets of kinds, and what can have been changed. Contracts of mend: costs, shares, ends of spans. Allocation and store within a tree. -/
import Derived.Test.YtlcpplkbmlmmbaaGreatCaps06
import Derived.Test.YtlcpplkbmlmmbaaGreatCaps01
namespace Go.Proofs.YtlcpplkbmlmmbaaGreat.Mk.Me
open Go.RowKit Ls
def ac160 : AC := (AC.seq (AC.ops [(AOp.mk (some 4) (AK.mv (AX.c (PV.val (Value.bool false)))) none 0 false true)]) (AC.seq (AC.ops [(AOp.mk (some 5) (AK.mv (AX.t 0)) none 0 false true), (AOp.mk (some 6) (AK.mv (AX.t 1)) none 1 false true), (AOp.mk (some 7) (AK.bin false BinOp.shr (AX.t 5) (AX.t 6)) none 2 false true), (AOp.mk (some 8) (AK.bin false BinOp.and (AX.t 7) (AX.c (PV.val (Value.int IntKind.i64 1)))) none 3 false true), (AOp.mk (some 9) (AK.bin false BinOp.eql (AX.t 8) (AX.c (PV.val (Value.int IntKind.i64 1)))) none 4 false true), (AOp.mk (some 4) (AK.mv (AX.t 9)) none 5 false true)]) AC.ret))
theorem ac160_ok : cCode Tryz.prog (fun _ => false) Tryz.f160.ntmps (Tryz.f160.body.getD .skip) = some ac160 := by kernel_rfl
def ac162 : AC := (AC.seq (AC.ops [(AOp.mk (some 4) (AK.mv (AX.c (PV.val (Value.int IntKind.i64 0)))) none 0 false true)]) (AC.seq (AC.ops [(AOp.mk (some 5) (AK.mv (AX.t 0)) none 0 false true), (AOp.mk (some 6) (AK.mv (AX.t 1)) none 1 false true), (AOp.mk (some 7) (AK.bin false BinOp.shl (AX.c (PV.val (Value.int IntKind.i64 1))) (AX.t 6)) none 2 false true), (AOp.mk (some 8) (AK.bin false BinOp.or (AX.t 5) (AX.t 7)) none 3 false true), (AOp.mk (some 4) (AK.mv (AX.t 8)) none 4 false true)]) AC.ret))
theorem ac162_ok : cCode Tryz.prog (fun _ => false) Tryz.f162.ntmps (Tryz.f162.body.getD .skip) = some ac162 := by kernel_rfl
def ac161 : AC := (AC.seq (AC.ops [(AOp.mk (some 2) (AK.mv (AX.c (PV.val (Value.int IntKind.i64 0)))) none 0 false true)]) (AC.seq (AC.ops [(AOp.mk (some 3) (AK.mv (AX.t 0)) none 0 false true), (AOp.mk (some 4) (AK.conv IntKind.u64 (AX.t 3)) none 1 false true), (AOp.mk (some 5) (AK.call 169 [(AX.t 4)]) none 2 false true), (AOp.mk (some 2) (AK.mv (AX.t 5)) none 3 false true)]) AC.ret))
theorem ac161_ok : cCode Tryz.prog (fun _ => false) Tryz.f161.ntmps (Tryz.f161.body.getD .skip) = some ac161 := by kernel_rfl
def ac159 : AC := (AC.seq (AC.ops [(AOp.mk (some 2) (AK.box 2 (AX.t 0)) none 0 false true), (AOp.mk (some 4) (AK.new (PV.agg [(PV.val (Value.int IntKind.i64 0)), (PV.val (Value.int IntKind.i64 0))])) none 1 false true)]) (AC.seq (AC.ops [(AOp.mk (some 5) (AK.fadr 0 (AX.t 2)) none 0 true false), (AOp.mk (some 6) (AK.ld none (AX.t 5)) none 1 true false), (AOp.mk (some 7) (AK.fadr 1 (AX.t 2)) none 2 true false), (AOp.mk (some 8) (AK.ld none (AX.t 7)) none 3 true false), (AOp.mk (some 9) (AK.mv (AX.t 1)) none 4 true false), (AOp.mk (some 10) (AK.call 162 [(AX.t 8), (AX.t 9)]) none 5 false false), (AOp.mk (some 11) (AK.build [(PV.val (Value.int IntKind.i64 0)), (PV.val (Value.int IntKind.i64 0))] [(0, (1, (AX.t 6))), (1, (1, (AX.t 10)))]) none 6 true true), (AOp.mk none (AK.st 2 (AX.t 4) (AX.t 11)) none 7 false true)]) AC.ret))
theorem ac159_ok : cCode Tryz.prog (fun _ => false) Tryz.f159.ntmps (Tryz.f159.body.getD .skip) = some ac159 := by kernel_rfl
def ac153 : AC := (AC.seq (AC.ops [(AOp.mk (some 4) (AK.mv (AX.c (PV.val (Value.int IntKind.i64 0)))) none 0 false true)]) (AC.seq (AC.seq (AC.ops [(AOp.mk (some 6) (AK.mv (AX.t 0)) none 0 false true), (AOp.mk (some 7) (AK.mv (AX.c (PV.val (Value.int IntKind.i64 0)))) none 1 false true)]) (AC.block 0 (AC.loop (AC.seq (AC.ops [(AOp.mk (some 8) (AK.bin false BinOp.lss (AX.t 7) (AX.t 6)) none 0 false true)]) (AC.seq (AC.cond (AX.t 8) AC.skip (AC.exit 0)) (AC.seq (AC.block 1 (AC.seq (AC.ops [(AOp.mk (some 9) (AK.mv (AX.t 7)) none 0 false true), (AOp.mk (some 5) (AK.mv (AX.t 9)) none 1 false true)]) (AC.seq (AC.ops [(AOp.mk (some 10) (AK.mv (AX.t 1)) none 0 false true), (AOp.mk (some 11) (AK.mv (AX.t 5)) none 1 false true), (AOp.mk (some 12) (AK.callv (AX.t 10) [(AX.t 11)]) none 2 false true)]) (AC.cond (AX.t 12) (AC.ops [(AOp.mk (some 13) (AK.mv (AX.t 4)) none 0 false true), (AOp.mk (some 14) (AK.mv (AX.t 5)) none 1 false true), (AOp.mk (some 15) (AK.call 162 [(AX.t 13), (AX.t 14)]) none 2 false true), (AOp.mk (some 4) (AK.mv (AX.t 15)) none 3 false true)]) AC.skip)))) (AC.ops [(AOp.mk (some 16) (AK.bin false BinOp.add (AX.t 7) (AX.c (PV.val (Value.int IntKind.i64 1)))) none 0 false true), (AOp.mk (some 7) (AK.mv (AX.t 16)) none 1 false true)]))))))) (AC.seq (AC.ops [(AOp.mk (some 17) (AK.mv (AX.t 4)) none 0 false true), (AOp.mk (some 4) (AK.mv (AX.t 17)) none 1 false true)]) AC.ret)))
theorem ac153_ok : cCode Tryz.prog (fun _ => false) Tryz.f153.ntmps (Tryz.f153.body.getD .skip) = some ac153 := by kernel_rfl
def ac154 : AC := (AC.seq (AC.ops [(AOp.mk (some 2) (AK.mv (AX.c (PV.val (Value.int IntKind.i64 0)))) none 0 false true)]) (AC.seq (AC.ops [(AOp.mk (some 3) (AK.mv (AX.t 0)) none 0 false true), (AOp.mk (some 4) (AK.nilc (AX.t 3)) none 1 false true), (AOp.mk (some 5) (AK.fadr 0 (AX.t 4)) none 2 false true), (AOp.mk (some 6) (AK.ld (some 8) (AX.t 5)) none 3 false true), (AOp.mk (some 7) (AK.call 133 [(AX.t 6)]) none 4 false true), (AOp.mk (some 2) (AK.mv (AX.t 7)) none 5 false true)]) AC.ret))
theorem ac154_ok : cCode Tryz.prog (fun _ => false) Tryz.f154.ntmps (Tryz.f154.body.getD .skip) = some ac154 := by kernel_rfl
def ac170 : AC := (AC.seq (AC.ops [(AOp.mk (some 2) (AK.box 2 (AX.t 0)) none 0 false true), (AOp.mk (some 4) (AK.mv (AX.c (PV.val (Value.int IntKind.i64 0)))) none 1 false true)]) (AC.seq (AC.ops [(AOp.mk (some 8) (AK.fadr 0 (AX.t 2)) none 0 true false), (AOp.mk (some 9) (AK.ld none (AX.t 8)) none 1 true false), (AOp.mk (some 10) (AK.nilc (AX.t 9)) none 2 true false), (AOp.mk (some 11) (AK.fadr 0 (AX.t 10)) none 3 true false), (AOp.mk (some 12) (AK.fadr 0 (AX.t 11)) none 4 true false), (AOp.mk (some 13) (AK.ld (some 4) (AX.t 12)) none 5 true false), (AOp.mk (some 14) (AK.fadr 1 (AX.t 2)) none 6 true false), (AOp.mk (some 15) (AK.ld none (AX.t 14)) none 7 true false), (AOp.mk (some 16) (AK.mv (AX.t 1)) none 8 true false), (AOp.mk (some 17) (AK.call 178 [(AX.t 13), (AX.t 15), (AX.t 16)]) none 9 false true), (AOp.mk (some 7) (AK.mv (AX.t 17)) none 10 true true), (AOp.mk (some 18) (AK.ext (AX.t 7) 0) none 11 true false), (AOp.mk (some 19) (AK.ext (AX.t 7) 1) none 12 true false), (AOp.mk (some 5) (AK.mv (AX.t 18)) none 13 true false), (AOp.mk (some 6) (AK.mv (AX.t 19)) none 14 true true)]) (AC.seq (AC.ops [(AOp.mk (some 20) (AK.mv (AX.t 5)) none 0 false true), (AOp.mk (some 4) (AK.mv (AX.t 20)) none 1 false true)]) AC.ret)))
theorem ac170_ok : cCode Tryz.prog (fun _ => false) Tryz.f170.ntmps (Tryz.f170.body.getD .skip) = some ac170 := by kernel_rfl
def ac155 : AC := (AC.seq (AC.ops [(AOp.mk (some 2) (AK.box 2 (AX.t 0)) none 0 false true), (AOp.mk (some 4) (AK.mv (AX.c (PV.val (Value.bool false)))) none 1 false true)]) (AC.seq (AC.ops [(AOp.mk (some 5) (AK.ld (some 2) (AX.t 2)) none 0 false true), (AOp.mk (some 6) (AK.mv (AX.t 1)) none 1 false true), (AOp.mk (some 7) (AK.call 170 [(AX.t 5), (AX.t 6)]) none 2 false true), (AOp.mk (some 8) (AK.bin false BinOp.neq (AX.t 7) (AX.c (PV.val (Value.int IntKind.i64 0)))) none 3 false true), (AOp.mk (some 4) (AK.mv (AX.t 8)) none 4 false true)]) AC.ret))
theorem ac155_ok : cCode Tryz.prog (fun _ => false) Tryz.f155.ntmps (Tryz.f155.body.getD .skip) = some ac155 := by kernel_rfl
def ac156 : AC := (AC.seq (AC.ops [(AOp.mk (some 2) (AK.box 2 (AX.t 0)) none 0 false true), (AOp.mk (some 4) (AK.mv (AX.c (PV.val (Value.bool false)))) none 1 false true)]) (AC.seq (AC.ops [(AOp.mk (some 5) (AK.ld (some 2) (AX.t 2)) none 0 false true), (AOp.mk (some 6) (AK.mv (AX.t 1)) none 1 false true), (AOp.mk (some 7) (AK.call 170 [(AX.t 5), (AX.t 6)]) none 2 false true), (AOp.mk (some 8) (AK.bin false BinOp.eql (AX.t 7) (AX.c (PV.val (Value.int IntKind.i64 2)))) none 3 false true), (AOp.mk (some 4) (AK.mv (AX.t 8)) none 4 false true)]) AC.ret))
theorem ac156_ok : cCode Tryz.prog (fun _ => false) Tryz.f156.ntmps (Tryz.f156.body.getD .skip) = some ac156 := by kernel_rfl
theorem bin_orG {x y : Nat} (hx : x < 2 ^ 62) (hy : y < 2 ^ 62) : binS false .or (.p (pi x)) (.p (pi y)) = some (.p (pi ((x ||| y : Nat) : Int))) := by
  rw [bin_or]
  have h1 : x ||| y < 2 ^ 62 := Nat.or_lt_two_pow hx hy
  have e : (BitVec.ofInt 64 (x : Int) ||| BitVec.ofInt 64 (y : Int)).toNat = x ||| y := by
    rw [BitVec.ofInt_natCast, BitVec.ofInt_natCast, BitVec.toNat_or, BitVec.toNat_ofNat, BitVec.toNat_ofNat, Nat.mod_eq_of_lt (by omega), Nat.mod_eq_of_lt (by omega)]
  exact congrArg (fun n => some (AV.p (pi n))) (by rw [show ((BitVec.ofInt IntKind.i64.bits (x : Int) ||| BitVec.ofInt IntKind.i64.bits (y : Int)).toNat : Int) = ((x ||| y : Nat) : Int) from congrArg Nat.cast e]; exact wrap_id (by omega) (by omega))
theorem has_sem (s k : Nat) (hk : k ≤ 64) : Sem1 160 [pi s, pi k] (pb (s.testBit k)) := by
  refine semC_of_exec' mixed Tryz.func160 (by kernel_rfl) (by kernel_rfl) ac160_ok 2 rfl (by decide) [(.tmp 4)] (by kernel_rfl) ?_
  intro hr C hC hI
  unfold ac160
  simp only [go_sem, Nat.reduceBEq, bin_shr (show ¬ (k : Int) < 0 by omega), bin_and]
  refine retQ_one rfl ?_
  rw [← of_bit hk]
  exact congrArg (fun x : Int => pb (decide (x = 1))) (and1 ((s : Int).fdiv (2 ^ min (k : Int).toNat 64)))
theorem with_sem (s k : Nat) (hs : s < 2 ^ 62) (hk : k ≤ 8) : Sem1 162 [pi s, pi k] (pi ((s ||| 2 ^ k : Nat) : Int)) := by
  have h8 : 2 ^ k < 2 ^ 62 := Nat.pow_lt_pow_right (by decide) (by omega)
  refine semC_of_exec' mixed Tryz.func162 (by kernel_rfl) (by kernel_rfl) ac162_ok 2 rfl (by decide) [(.tmp 4)] (by kernel_rfl) ?_
  intro hr C hC hI
  unfold ac162
  simp only [go_sem, Nat.reduceBEq, bin_shl (show ¬ (k : Int) < 0 by omega), shl6 hk, bin_orG hs h8]
  exact retQ_one rfl rfl
theorem many_sem {s : Nat} (hs : s < 64) : Sem1 161 [pi s] (pi (cntN s 6 : Nat)) := by
  have hwr : IntKind.u64.wrap (s : Int) = s := by
    obtain ⟨i, rfl⟩ : ∃ i : Fin 64, s = i.val := ⟨⟨s, hs⟩, rfl⟩
    clear hs
    revert i
    decide
  refine semC_of_exec' mixed Tryz.func161 (by kernel_rfl) (by kernel_rfl) ac161_ok 1 rfl (by decide) [(.tmp 2)] (by kernel_rfl) ?_
  intro hr C hC hI
  unfold ac161
  simp only [go_sem, Nat.reduceBEq, convS_int, hwr]
  refine call_pure2 hC (Ones_sem hs) rfl (PVleL_refl _) ?_
  rintro r rfl
  simp only [go_sem, Nat.reduceBEq]
  exact retQ_one rfl rfl
abbrev trC (t : Nat × Nat) : List PV := [pi t.1, pi t.2]
theorem changing_sem (m s k : Nat) (hs : s < 2 ^ 62) (hk : k ≤ 8) : Sem1 159 [.agg (trC (m, s)), pi k] (.agg (trC (m, s ||| 2 ^ k))) := by
  refine semC_of_exec' mixed Tryz.func159 (by kernel_rfl) (by kernel_rfl) ac159_ok 2 rfl (by decide) [(.cell 4 132)] (by kernel_rfl) ?_
  intro hr C hC hI
  unfold ac159
  simp only [go_sem, Nat.reduceBEq, Nat.reduceAdd]
  refine call_pure2 hC (with_sem s k hs hk) rfl (PVleL_refl _) ?_
  rintro r rfl
  simp only [go_sem, Nat.reduceBEq, Nat.reduceAdd, Nat.reduceLeDiff, putCells]
  exact retQ_cell (n := some 2) (by kernel_rfl) rfl rfl
theorem setP_lt62 (p : Nat → Bool) {n : Nat} (hn : n ≤ 8) : setP p n < 2 ^ 62 := Nat.lt_of_lt_of_le (setP_lt p n) (Nat.pow_le_pow_right (by decide) (by omega))
theorem those_sem {f : FuncId} {fi cap : List PV} {e : Nat} {P : Nat → Bool} (he : e ≤ 8) (hf : ∀ n : Nat, n < e → Sem1 f (fi ++ [pi n] ++ cap) (pb (P n))) : Sem1 153 [pi e, .clo f fi cap] (pi (setP P e : Nat)) := by
  refine semC_of_exec' mixed Tryz.func153 (by kernel_rfl) (by kernel_rfl) ac153_ok 2 rfl (by decide) [(.tmp 4)] (by kernel_rfl) ?_
  intro hr C hC hI
  unfold ac153
  simp only [go_sem, Nat.reduceBEq]
  refine loop_k e (fun _ => True) [1, 6] (fun j => [(4, .p (pi (setP P j : Nat))), (7, .p (pi j))]) trivial rfl ⟨rfl, by simp, by simp⟩ (by simp [setP, wkT, look, AV.lo]) ?_
  rintro j ⟨hj, -⟩
  have hnx := setP_next P j
  have hlt := setP_lt62 P (n := j) (by omega)
  simp only [go_sem, Nat.reduceBEq]
  refine ⟨fun h5 => ?_, fun h5 => ?_⟩
  · have hj2 : j < e := by omega
    rw [show List.map AV.p fi ++ [AV.p (pi j)] ++ List.map AV.p cap = (fi ++ [pi j] ++ cap).map AV.p by simp]
    refine call_pure hC (hf j hj2) (PVleL_refl _) ?_
    rintro r rfl
    cases hp : P j
    · rw [hp, if_neg (by decide)] at hnx
      simp only [go_sem, Nat.reduceBEq, wrap_succ (k := j) (by omega)]
      refine ⟨⟨j + 1, hj2, trivial⟩, by simp only; omega, ?_⟩
      rw [hnx]
      exact by simp [Wk, wkT, wkL, look, AV.lo]
    · rw [hp, if_pos rfl] at hnx
      simp only [go_sem, Nat.reduceBEq]
      refine call_pure2 hC (with_sem (setP P j) j hlt (by omega)) rfl (PVleL_refl _) ?_
      rintro r rfl
      simp only [go_sem, Nat.reduceBEq, wrap_succ (k := j) (by omega)]
      refine ⟨⟨j + 1, hj2, trivial⟩, by simp only; omega, ?_⟩
      rw [hnx]
      exact by simp [Wk, wkT, wkL, look, AV.lo]
  · have hjn : j = e := by omega
    subst hjn
    exact retQ_one rfl rfl
abbrev bookP (κ : KS) (b : EBook) (tl : List PV) : PV := .ptr (ebC κ b ++ tl) 0
abbrev workC (κ : KS) (b : EBook) (m : Nat) : PV := .agg [bookP κ b [], pi m]
theorem kinds_sem (κ : KS) {b : EBook} (hz : 0 < b.mb.makers.length) : Sem1 154 [bookP κ b []] (pi (nK b.mb)) := by
  refine semC_of_exec' mixed Tryz.func154 (by kernel_rfl) (by kernel_rfl) ac154_ok 1 rfl (by decide) [(.tmp 2)] (by kernel_rfl) ?_
  intro hr C hC hI
  unfold ac154
  simp only [go_sem, Nat.reduceBEq, Nat.reduceAdd, List.append_nil]
  refine call_pure2 hC (kindsOf_sem κ hz) rfl (PVleL_refl _) ?_
  rintro r rfl
  simp only [go_sem, Nat.reduceBEq]
  exact retQ_one rfl rfl
theorem verdict_eq {b : MBook} {m q : Nat} (hp : possB b m = true) (hq : q < nK b) : verdictI b m q = if zeroB b m q then 2 else if canQ b m q then 1 else 0 := by
  have h1 := each_iff hp hq
  have h2 := some_iff hp hq
  unfold verdictI
  have e1 : ((truthsL b m).all fun c => c.testBit q) = zeroB b m q := by
    rw [Bool.eq_iff_iff, List.all_eq_true]
    exact h1
  have e2 : ((truthsL b m).any fun c => c.testBit q) = canQ b m q := by
    rw [Bool.eq_iff_iff, List.any_eq_true, h2]
    unfold canQ
    simp
  rw [e1, e2]
theorem Changed_at (k k2 : SK) {b : MBook} (ho : okBook b) {m q : Nat} (hm : m < b.makers.length) (hq : q < nK b) (hp : possB b m = true) : Sem1 178 [.agg (bookC k k2 b), pi m, pi q] (.tup [pi (verdictI b m q), pi 0]) := (Changed_sem k k2 b m q).mono fun _ e => e.trans (by
  have h1 : okM b m = true := decide_eq_true (by omega)
  have h2 : okK b q = true := decide_eq_true (by omega)
  have h3 : errR b (okM b m && okK b q) = 0 := by
    unfold errR
    rw [h1, h2, if_pos ho, (poss_eq.1 hp).1]
    rfl
  rw [if_pos h3, Int.toNat_natCast, Int.toNat_natCast, if_pos hp])
theorem changed_sem (κ : KS) {b : EBook} (ho : okBook b.mb) {m q : Nat} (hm : m < b.mb.makers.length) (hq : q < nK b.mb) (hp : possB b.mb m = true) : Sem1 170 [workC κ b m, pi q] (pi (verdictI b.mb m q)) := by
  refine semC_of_exec' mixed Tryz.func170 (by kernel_rfl) (by kernel_rfl) ac170_ok 2 rfl (by decide) [(.tmp 4)] (by kernel_rfl) ?_
  intro hr C hC hI
  unfold ac170
  simp only [go_sem, Nat.reduceBEq, Nat.reduceAdd, Nat.reduceLeDiff, List.append_nil]
  refine call_pure2 hC (Changed_at κ.a κ.b ho hm hq hp) rfl (PVleL_refl _) ?_
  rintro r rfl
  simp only [go_sem, Nat.reduceBEq]
  exact retQ_one rfl rfl
theorem canBe_sem (κ : KS) {b : EBook} (ho : okBook b.mb) {m q : Nat} (hm : m < b.mb.makers.length) (hq : q < nK b.mb) (hp : possB b.mb m = true) : Sem1 155 [workC κ b m, pi q] (pb (canQ b.mb m q)) := by
  have hv := verdict_eq hp hq
  refine semC_of_exec' mixed Tryz.func155 (by kernel_rfl) (by kernel_rfl) ac155_ok 2 rfl (by decide) [(.tmp 4)] (by kernel_rfl) ?_
  intro hr C hC hI
  unfold ac155
  simp only [go_sem, Nat.reduceBEq, Nat.reduceAdd]
  refine call_pure2 hC (changed_sem κ ho hm hq hp) rfl (PVleL_refl _) ?_
  rintro r rfl
  simp only [go_sem, Nat.reduceBEq]
  refine retQ_one rfl (congrArg pb ?_)
  rw [hv]
  cases hz : zeroB b.mb m q
  · cases canQ b.mb m q <;> decide
  · have : canQ b.mb m q = true := by unfold canQ; rw [hz]; rfl
    rw [this]
    decide
theorem mustBe_sem (κ : KS) {b : EBook} (ho : okBook b.mb) {m q : Nat} (hm : m < b.mb.makers.length) (hq : q < nK b.mb) (hp : possB b.mb m = true) : Sem1 156 [workC κ b m, pi q] (pb (zeroB b.mb m q)) := by
  have hv := verdict_eq hp hq
  refine semC_of_exec' mixed Tryz.func156 (by kernel_rfl) (by kernel_rfl) ac156_ok 2 rfl (by decide) [(.tmp 4)] (by kernel_rfl) ?_
  intro hr C hC hI
  unfold ac156
  simp only [go_sem, Nat.reduceBEq, Nat.reduceAdd]
  refine call_pure2 hC (changed_sem κ ho hm hq hp) rfl (PVleL_refl _) ?_
  rintro r rfl
  simp only [go_sem, Nat.reduceBEq]
  refine retQ_one rfl (congrArg pb ?_)
  rw [hv]
  cases zeroB b.mb m q <;> cases canQ b.mb m q <;> decide
end Go.Proofs.YtlcpplkbmlmmbaaGreat.Mk.Me
namespace Go.Proofs.YtlcpplkbmlmmbaaGreat.Mk.Me
open Go.RowKit Ls
def ac126 : AC := (AC.seq (AC.ops [(AOp.mk (some 2) (AK.mv (AX.c (PV.val (Value.int IntKind.i64 0)))) none 0 false true)]) (AC.seq (AC.seq (AC.ops [(AOp.mk (some 5) (AK.mv (AX.t 0)) none 0 false true), (AOp.mk (some 6) (AK.len (AX.t 5)) none 1 false true), (AOp.mk (some 7) (AK.mv (AX.c (PV.val (Value.int IntKind.i64 0)))) none 2 false true)]) (AC.block 0 (AC.loop (AC.seq (AC.ops [(AOp.mk (some 8) (AK.bin false BinOp.lss (AX.t 7) (AX.t 6)) none 0 false true)]) (AC.seq (AC.cond (AX.t 8) AC.skip (AC.exit 0)) (AC.seq (AC.block 1 (AC.seq (AC.ops [(AOp.mk (some 9) (AK.iadrS 1 (AX.t 5) (AX.t 7)) none 0 false true), (AOp.mk (some 10) (AK.ld none (AX.t 9)) none 1 false true), (AOp.mk (some 4) (AK.mv (AX.t 10)) none 2 false true)]) (AC.ops [(AOp.mk (some 11) (AK.mv (AX.t 2)) none 0 false true), (AOp.mk (some 12) (AK.mv (AX.t 4)) none 1 false true), (AOp.mk (some 13) (AK.bin false BinOp.add (AX.t 11) (AX.t 12)) none 2 false true), (AOp.mk (some 2) (AK.mv (AX.t 13)) none 3 false true)]))) (AC.ops [(AOp.mk (some 14) (AK.bin false BinOp.add (AX.t 7) (AX.c (PV.val (Value.int IntKind.i64 1)))) none 0 false true), (AOp.mk (some 7) (AK.mv (AX.t 14)) none 1 false true)]))))))) (AC.seq (AC.ops [(AOp.mk (some 15) (AK.mv (AX.t 2)) none 0 false true), (AOp.mk (some 2) (AK.mv (AX.t 15)) none 1 false true)]) AC.ret)))
theorem ac126_ok : cCode Tryz.prog (fun _ => false) Tryz.f126.ntmps (Tryz.f126.body.getD .skip) = some ac126 := by kernel_rfl
def ac125 : AC := (AC.seq (AC.ops [(AOp.mk (some 6) (AK.box 2 (AX.t 1)) none 0 false true), (AOp.mk (some 7) (AK.box 6 (AX.t 2)) none 1 false true), (AOp.mk (some 10) (AK.mv (AX.c (PV.val (Value.int IntKind.i64 0)))) none 2 false true)]) (AC.seq (AC.ops [(AOp.mk (some 12) (AK.mv (AX.t 0)) none 0 true false), (AOp.mk (some 13) (AK.nilc (AX.t 12)) none 1 true false), (AOp.mk (some 14) (AK.fadr 0 (AX.t 13)) none 2 true false), (AOp.mk (some 15) (AK.fadr 6 (AX.t 14)) none 3 true false), (AOp.mk (some 16) (AK.ld none (AX.t 15)) none 4 true false), (AOp.mk (some 17) (AK.fadr 0 (AX.t 6)) none 5 true false), (AOp.mk (some 18) (AK.ld none (AX.t 17)) none 6 true false), (AOp.mk (some 19) (AK.iadrS 1 (AX.t 16) (AX.t 18)) none 7 true true), (AOp.mk (some 20) (AK.ld none (AX.t 19)) none 8 true true), (AOp.mk (some 11) (AK.mv (AX.t 20)) none 9 true true)]) (AC.seq (AC.seq (AC.ops [(AOp.mk (some 21) (AK.fadr 1 (AX.t 6)) none 0 false true), (AOp.mk (some 22) (AK.ld none (AX.t 21)) none 1 false true), (AOp.mk (some 23) (AK.fadr 0 (AX.t 7)) none 2 false true), (AOp.mk (some 24) (AK.fadr 0 (AX.t 23)) none 3 false true), (AOp.mk (some 25) (AK.ld none (AX.t 24)) none 4 false true), (AOp.mk (some 26) (AK.call 160 [(AX.t 22), (AX.t 25)]) none 5 false true)]) (AC.cond (AX.t 26) (AC.ops [(AOp.mk (some 11) (AK.mv (AX.c (PV.val (Value.int IntKind.i64 0)))) none 0 false true)]) AC.skip)) (AC.seq (AC.ops [(AOp.mk (some 27) (AK.mv (AX.t 3)) none 0 false true), (AOp.mk (some 28) (AK.mv (AX.t 0)) none 1 false true), (AOp.mk (some 29) (AK.nilc (AX.t 28)) none 2 false true), (AOp.mk (some 30) (AK.fadr 0 (AX.t 29)) none 3 false true), (AOp.mk (some 31) (AK.fadr 5 (AX.t 30)) none 4 false true), (AOp.mk (some 32) (AK.ld none (AX.t 31)) none 5 false true), (AOp.mk (some 33) (AK.bin false BinOp.mul (AX.t 27) (AX.t 32)) none 6 false true), (AOp.mk (some 34) (AK.mv (AX.t 4)) none 7 false true), (AOp.mk (some 35) (AK.mv (AX.t 11)) none 8 false true), (AOp.mk (some 36) (AK.bslice false 3 1 3 [(PV.val (Value.int IntKind.i64 0))] [(0, (1, (AX.t 33))), (1, (1, (AX.t 34))), (2, (1, (AX.t 35)))]) none 9 false true), (AOp.mk (some 37) (AK.call 126 [(AX.t 36)]) none 10 false true), (AOp.mk (some 10) (AK.mv (AX.t 37)) none 11 false true)]) AC.ret))))
theorem ac125_ok : cCode Tryz.prog (fun _ => false) Tryz.f125.ntmps (Tryz.f125.body.getD .skip) = some ac125 := by kernel_rfl
def ac122 : AC := (AC.seq (AC.ops [(AOp.mk (some 2) (AK.box 6 (AX.t 0)) none 0 false true), (AOp.mk (some 4) (AK.mv (AX.c (PV.val (Value.int IntKind.i64 0)))) none 1 false true)]) (AC.seq (AC.ops [(AOp.mk (some 5) (AK.mv (AX.t 1)) none 0 false true), (AOp.mk (some 4) (AK.mv (AX.t 5)) none 1 false true)]) AC.ret))
theorem ac122_ok : cCode Tryz.prog (fun _ => false) Tryz.f122.ntmps (Tryz.f122.body.getD .skip) = some ac122 := by kernel_rfl
def ac123 : AC := (AC.seq (AC.ops [(AOp.mk (some 2) (AK.box 6 (AX.t 0)) none 0 false true), (AOp.mk (some 4) (AK.mv (AX.c (PV.val (Value.int IntKind.i64 0)))) none 1 false true)]) (AC.seq (AC.seq (AC.ops [(AOp.mk (some 5) (AK.fadr 0 (AX.t 2)) none 0 false true), (AOp.mk (some 6) (AK.fadr 5 (AX.t 5)) none 1 false true), (AOp.mk (some 7) (AK.ld none (AX.t 6)) none 2 false true), (AOp.mk (some 8) (AK.bin false BinOp.eql (AX.t 7) (AX.c (PV.val (Value.int IntKind.i64 (-1))))) none 3 false true)]) (AC.cond (AX.t 8) (AC.seq (AC.ops [(AOp.mk (some 9) (AK.mv (AX.t 1)) none 0 false true), (AOp.mk (some 4) (AK.mv (AX.t 9)) none 1 false true)]) AC.ret) AC.skip)) (AC.seq (AC.ops [(AOp.mk (some 10) (AK.mv (AX.t 1)) none 0 false true), (AOp.mk (some 11) (AK.fadr 0 (AX.t 2)) none 1 false true), (AOp.mk (some 12) (AK.fadr 5 (AX.t 11)) none 2 false true), (AOp.mk (some 13) (AK.ld none (AX.t 12)) none 3 false true), (AOp.mk (some 14) (AK.mx false [(AX.t 10), (AX.t 13)]) none 4 false true), (AOp.mk (some 4) (AK.mv (AX.t 14)) none 5 false true)]) AC.ret)))
theorem ac123_ok : cCode Tryz.prog (fun _ => false) Tryz.f123.ntmps (Tryz.f123.body.getD .skip) = some ac123 := by kernel_rfl
def ac124 : AC := (AC.seq (AC.ops [(AOp.mk (some 2) (AK.box 6 (AX.t 0)) none 0 false true), (AOp.mk (some 4) (AK.mv (AX.c (PV.val (Value.int IntKind.i64 0)))) none 1 false true)]) (AC.seq (AC.ops [(AOp.mk (some 5) (AK.mv (AX.t 1)) none 0 false true), (AOp.mk (some 6) (AK.ld (some 6) (AX.t 2)) none 1 false true), (AOp.mk (some 7) (AK.mv (AX.t 1)) none 2 false true), (AOp.mk (some 8) (AK.call 123 [(AX.t 6), (AX.t 7)]) none 3 false true), (AOp.mk (some 9) (AK.bin false BinOp.sub (AX.t 5) (AX.t 8)) none 4 false true), (AOp.mk (some 4) (AK.mv (AX.t 9)) none 5 false true)]) AC.ret))
theorem ac124_ok : cCode Tryz.prog (fun _ => false) Tryz.f124.ntmps (Tryz.f124.body.getD .skip) = some ac124 := by kernel_rfl
def ac85 : AC := (AC.seq (AC.ops [(AOp.mk (some 0) (AK.mv (AX.c (PV.sl SK.full 0 []))) none 0 false true)]) (AC.seq (AC.ops [(AOp.mk (some 1) (AK.build [(PV.val Value.nilFunc)] [(0, (1, (AX.c (PV.val (Value.func (Fn.func 122) #[] #[])))))]) none 0 false true), (AOp.mk (some 2) (AK.build [(PV.val Value.nilFunc)] [(0, (1, (AX.c (PV.val (Value.func (Fn.func 123) #[] #[])))))]) none 1 false true), (AOp.mk (some 3) (AK.build [(PV.val Value.nilFunc)] [(0, (1, (AX.c (PV.val (Value.func (Fn.func 124) #[] #[])))))]) none 2 false true), (AOp.mk (some 4) (AK.bslice false 109 1 3 [(PV.val Value.nilFunc)] [(0, (1, (AX.t 1))), (1, (1, (AX.t 2))), (2, (1, (AX.t 3)))]) none 3 false true), (AOp.mk (some 0) (AK.mv (AX.t 4)) none 4 false true)]) AC.ret))
theorem ac85_ok : cCode Tryz.prog (fun _ => false) Tryz.f85.ntmps (Tryz.f85.body.getD .skip) = some ac85 := by kernel_rfl
def ac127 : AC := (AC.seq (AC.ops [(AOp.mk (some 1) (AK.box 2 (AX.t 0)) none 0 false true), (AOp.mk (some 2) (AK.mv (AX.c (PV.val (Value.int IntKind.i64 0)))) none 1 false true)]) (AC.seq (AC.ops [(AOp.mk (some 3) (AK.fadr 0 (AX.t 1)) none 0 false true), (AOp.mk (some 4) (AK.ld none (AX.t 3)) none 1 false true), (AOp.mk (some 2) (AK.mv (AX.t 4)) none 2 false true)]) AC.ret))
theorem ac127_ok : cCode Tryz.prog (fun _ => false) Tryz.f127.ntmps (Tryz.f127.body.getD .skip) = some ac127 := by kernel_rfl
def ac129 : AC := (AC.seq (AC.ops [(AOp.mk (some 1) (AK.box 2 (AX.t 0)) none 0 false true), (AOp.mk (some 2) (AK.mv (AX.c (PV.val (Value.int IntKind.i64 0)))) none 1 false true)]) (AC.seq (AC.ops [(AOp.mk (some 3) (AK.fadr 1 (AX.t 1)) none 0 false true), (AOp.mk (some 4) (AK.ld none (AX.t 3)) none 1 false true), (AOp.mk (some 2) (AK.mv (AX.t 4)) none 2 false true)]) AC.ret))
theorem ac129_ok : cCode Tryz.prog (fun _ => false) Tryz.f129.ntmps (Tryz.f129.body.getD .skip) = some ac129 := by kernel_rfl
def ac87 : AC := (AC.seq (AC.ops [(AOp.mk (some 0) (AK.new (PV.agg [(PV.val Value.nilFunc), (PV.val Value.nilFunc)])) none 0 false true)]) (AC.seq (AC.ops [(AOp.mk (some 1) (AK.build [(PV.val Value.nilFunc), (PV.val Value.nilFunc)] [(0, (1, (AX.c (PV.val (Value.func (Fn.func 127) #[] #[]))))), (1, (1, (AX.c (PV.val (Value.func (Fn.func 128) #[] #[])))))]) none 0 false true), (AOp.mk none (AK.st 2 (AX.t 0) (AX.t 1)) none 1 false true)]) AC.ret))
theorem ac87_ok : cCode Tryz.prog (fun _ => false) Tryz.f87.ntmps (Tryz.f87.body.getD .skip) = some ac87 := by kernel_rfl
def ac88 : AC := (AC.seq (AC.ops [(AOp.mk (some 0) (AK.new (PV.agg [(PV.val Value.nilFunc), (PV.val Value.nilFunc)])) none 0 false true)]) (AC.seq (AC.ops [(AOp.mk (some 1) (AK.build [(PV.val Value.nilFunc), (PV.val Value.nilFunc)] [(0, (1, (AX.c (PV.val (Value.func (Fn.func 129) #[] #[]))))), (1, (1, (AX.c (PV.val (Value.func (Fn.func 130) #[] #[])))))]) none 0 false true), (AOp.mk none (AK.st 2 (AX.t 0) (AX.t 1)) none 1 false true)]) AC.ret))
theorem ac88_ok : cCode Tryz.prog (fun _ => false) Tryz.f88.ntmps (Tryz.f88.body.getD .skip) = some ac88 := by kernel_rfl
def ac128 : AC := (AC.seq (AC.ops [(AOp.mk (some 2) (AK.mv (AX.c (PV.val (Value.int IntKind.i64 0)))) none 0 false true)]) (AC.seq (AC.seq (AC.ops [(AOp.mk (some 5) (AK.mv (AX.t 0)) none 0 false true), (AOp.mk (some 6) (AK.len (AX.t 5)) none 1 false true), (AOp.mk (some 7) (AK.bin false BinOp.lss (AX.t 6) (AX.c (PV.val (Value.int IntKind.i64 1)))) none 2 false true)]) (AC.cond (AX.t 7) AC.stop AC.skip)) (AC.seq (AC.ops [(AOp.mk (some 9) (AK.mv (AX.t 0)) none 0 false true), (AOp.mk (some 10) (AK.iadrS 1 (AX.t 9) (AX.c (PV.val (Value.int IntKind.i64 0)))) none 1 false true), (AOp.mk (some 11) (AK.ld none (AX.t 10)) none 2 false true), (AOp.mk (some 3) (AK.mv (AX.t 11)) none 3 false true)]) (AC.seq (AC.seq (AC.ops [(AOp.mk (some 4) (AK.mv (AX.c (PV.val (Value.int IntKind.i64 1)))) none 0 false true)]) (AC.block 0 (AC.loop (AC.seq (AC.seq (AC.ops [(AOp.mk (some 12) (AK.mv (AX.t 4)) none 0 false true), (AOp.mk (some 13) (AK.mv (AX.t 0)) none 1 false true), (AOp.mk (some 14) (AK.len (AX.t 13)) none 2 false true), (AOp.mk (some 15) (AK.bin false BinOp.lss (AX.t 12) (AX.t 14)) none 3 false true)]) (AC.cond (AX.t 15) AC.skip (AC.exit 0))) (AC.seq (AC.block 1 (AC.ops [(AOp.mk (some 18) (AK.mv (AX.t 3)) none 0 false true), (AOp.mk (some 19) (AK.mv (AX.t 0)) none 1 false true), (AOp.mk (some 20) (AK.mv (AX.t 4)) none 2 false true), (AOp.mk (some 21) (AK.iadrS 1 (AX.t 19) (AX.t 20)) none 3 false true), (AOp.mk (some 22) (AK.ld none (AX.t 21)) none 4 false true), (AOp.mk (some 23) (AK.mx false [(AX.t 18), (AX.t 22)]) none 5 false true), (AOp.mk (some 3) (AK.mv (AX.t 23)) none 6 false true)])) (AC.ops [(AOp.mk (some 16) (AK.mv (AX.t 4)) none 0 false true), (AOp.mk (some 17) (AK.bin false BinOp.add (AX.t 16) (AX.c (PV.val (Value.int IntKind.i64 1)))) none 1 false true), (AOp.mk (some 4) (AK.mv (AX.t 17)) none 2 false true)])))))) (AC.seq (AC.ops [(AOp.mk (some 24) (AK.mv (AX.t 3)) none 0 false true), (AOp.mk (some 2) (AK.mv (AX.t 24)) none 1 false true)]) AC.ret)))))
theorem ac128_ok : cCode Tryz.prog (fun _ => false) Tryz.f128.ntmps (Tryz.f128.body.getD .skip) = some ac128 := by kernel_rfl
def ac130 : AC := (AC.seq (AC.ops [(AOp.mk (some 2) (AK.mv (AX.c (PV.val (Value.int IntKind.i64 0)))) none 0 false true)]) (AC.seq (AC.seq (AC.ops [(AOp.mk (some 5) (AK.mv (AX.t 0)) none 0 false true), (AOp.mk (some 6) (AK.len (AX.t 5)) none 1 false true), (AOp.mk (some 7) (AK.bin false BinOp.lss (AX.t 6) (AX.c (PV.val (Value.int IntKind.i64 1)))) none 2 false true)]) (AC.cond (AX.t 7) AC.stop AC.skip)) (AC.seq (AC.ops [(AOp.mk (some 9) (AK.mv (AX.t 0)) none 0 false true), (AOp.mk (some 10) (AK.iadrS 1 (AX.t 9) (AX.c (PV.val (Value.int IntKind.i64 0)))) none 1 false true), (AOp.mk (some 11) (AK.ld none (AX.t 10)) none 2 false true), (AOp.mk (some 3) (AK.mv (AX.t 11)) none 3 false true)]) (AC.seq (AC.seq (AC.ops [(AOp.mk (some 4) (AK.mv (AX.c (PV.val (Value.int IntKind.i64 1)))) none 0 false true)]) (AC.block 0 (AC.loop (AC.seq (AC.seq (AC.ops [(AOp.mk (some 12) (AK.mv (AX.t 4)) none 0 false true), (AOp.mk (some 13) (AK.mv (AX.t 0)) none 1 false true), (AOp.mk (some 14) (AK.len (AX.t 13)) none 2 false true), (AOp.mk (some 15) (AK.bin false BinOp.lss (AX.t 12) (AX.t 14)) none 3 false true)]) (AC.cond (AX.t 15) AC.skip (AC.exit 0))) (AC.seq (AC.block 1 (AC.ops [(AOp.mk (some 18) (AK.mv (AX.t 3)) none 0 false true), (AOp.mk (some 19) (AK.mv (AX.t 0)) none 1 false true), (AOp.mk (some 20) (AK.mv (AX.t 4)) none 2 false true), (AOp.mk (some 21) (AK.iadrS 1 (AX.t 19) (AX.t 20)) none 3 false true), (AOp.mk (some 22) (AK.ld none (AX.t 21)) none 4 false true), (AOp.mk (some 23) (AK.mx true [(AX.t 18), (AX.t 22)]) none 5 false true), (AOp.mk (some 3) (AK.mv (AX.t 23)) none 6 false true)])) (AC.ops [(AOp.mk (some 16) (AK.mv (AX.t 4)) none 0 false true), (AOp.mk (some 17) (AK.bin false BinOp.add (AX.t 16) (AX.c (PV.val (Value.int IntKind.i64 1)))) none 1 false true), (AOp.mk (some 4) (AK.mv (AX.t 17)) none 2 false true)])))))) (AC.seq (AC.ops [(AOp.mk (some 24) (AK.mv (AX.t 3)) none 0 false true), (AOp.mk (some 2) (AK.mv (AX.t 24)) none 1 false true)]) AC.ret)))))
theorem ac130_ok : cCode Tryz.prog (fun _ => false) Tryz.f130.ntmps (Tryz.f130.body.getD .skip) = some ac130 := by kernel_rfl
abbrev ints (l : List Int) : List (List PV) := l.map fun x => [pi x]
theorem take_bound {l : List Int} {m : Int} (hx : ∀ x ∈ l, 0 ≤ x ∧ x ≤ m) (hl : l.length ≤ 1000) (hm : m ≤ 1000000) (hm0 : 0 ≤ m) (i : Nat) : 0 ≤ sumI (l.take i) ∧ sumI (l.take i) ≤ 1000000000 := by
  have h1 := sum_bound (m := m) (l := l.take i) fun x hx2 => hx x (List.mem_of_mem_take hx2)
  have h2 : (l.take i).length ≤ 1000 := by rw [List.length_take]; omega
  have h3 : ((l.take i).length : Int) * m ≤ 1000 * 1000000 := by
    have a1 : ((l.take i).length : Int) * m ≤ 1000 * m := Int.mul_le_mul_of_nonneg_right (by omega) hm0
    omega
  omega
theorem sum_sem (k : SK) (l : List Int) (hx : ∀ x ∈ l, 0 ≤ x ∧ x ≤ 1000000) (hl : l.length ≤ 1000) : Sem1 126 [.sl k 1 (ints l)] (pi (sumI l)) := by
  refine semC_of_exec' mixed Tryz.func126 (by kernel_rfl) (by kernel_rfl) ac126_ok 1 rfl (by decide) [(.tmp 2)] (by kernel_rfl) ?_
  intro hr C hC hI
  unfold ac126
  simp only [go_sem, Nat.reduceBEq, List.length_map]
  refine loop_k l.length (fun _ => True) [5, 6] (fun j => [(2, .p (pi (sumI (l.take j)))), (7, .p (pi j))]) trivial rfl ⟨rfl, by simp, by simp⟩ (by simp [sumI, wkT, look, AV.lo]) ?_
  rintro j ⟨hj, -⟩
  simp only [go_sem, Nat.reduceBEq]
  refine ⟨fun h5 => ?_, fun h5 => ?_⟩
  · have hj2 : j < l.length := by omega
    have hb := take_bound hx hl (Int.le_refl _) (by decide) j
    have hxj := hx _ (List.getElem_mem hj2)
    simp only [go_sem, Nat.reduceBEq, iadr_map (f := fun x : Int => [pi x]) (kd := k) (sz := 1) hj2, wrap_id (n := sumI (l.take j) + l[j]) (by omega) (by omega), wrap_succ (k := j) (by omega)]
    refine ⟨⟨j + 1, hj2, trivial⟩, by simp only; omega, ?_⟩
    rw [sum_take hj2]
    exact by simp [Wk, wkT, wkL, look, AV.lo]
  · have hjn : j = l.length := by omega
    subst hjn
    rw [List.take_length]
    exact retQ_one rfl rfl
theorem whole_sem (j : Job) (c : Int) : Sem1 122 [.agg (jobC j), pi c] (pi (shareI 0 j c)) := by
  refine semC_of_exec' mixed Tryz.func122 (by kernel_rfl) (by kernel_rfl) ac122_ok 2 rfl (by decide) [(.tmp 4)] (by kernel_rfl) ?_
  intro hr C hC hI
  unfold ac122
  simp only [go_sem, Nat.reduceBEq, Nat.reduceAdd]
  exact retQ_one rfl rfl
theorem paid_sem (j : Job) (c : Int) : Sem1 123 [.agg (jobC j), pi c] (pi (paidI j c)) := by
  unfold paidI
  by_cases h : j.cap = -1
  · rw [if_pos h]
    refine semC_of_exec' mixed Tryz.func123 (by kernel_rfl) (by kernel_rfl) ac123_ok 2 rfl (by decide) [(.tmp 4)] (by kernel_rfl) ?_
    intro hr C hC hI
    unfold ac123
    simp only [go_sem, Nat.reduceBEq, Nat.reduceAdd, eq_true h, decide_true, Int.reduceNeg]
    exact retQ_one rfl rfl
  · rw [if_neg h]
    refine semC_of_exec' mixed Tryz.func123 (by kernel_rfl) (by kernel_rfl) ac123_ok 2 rfl (by decide) [(.tmp 4)] (by kernel_rfl) ?_
    intro hr C hC hI
    unfold ac123
    simp only [go_sem, Nat.reduceBEq, Nat.reduceAdd, eq_false h, decide_false, Int.reduceNeg]
    refine retQ_one rfl (congrArg pi ?_)
    simp only [maxI, Bool.false_eq_true, if_false]
    split <;> omega
theorem share1_sem (j : Job) (c : Int) : Sem1 123 [.agg (jobC j), pi c] (pi (shareI 1 j c)) := paid_sem j c
theorem lost_sem {j : Job} {c : Int} (hj : -1 ≤ j.cap) (hc : 0 ≤ c ∧ c ≤ 1000000) : Sem1 124 [.agg (jobC j), pi c] (pi (shareI 2 j c)) := by
  have := paid_le hj hc.1
  refine semC_of_exec' mixed Tryz.func124 (by kernel_rfl) (by kernel_rfl) ac124_ok 2 rfl (by decide) [(.tmp 4)] (by kernel_rfl) ?_
  intro hr C hC hI
  unfold ac124
  simp only [go_sem, Nat.reduceBEq, Nat.reduceAdd]
  refine call_pure2 hC (paid_sem j c) rfl (PVleL_refl _) ?_
  rintro r rfl
  simp only [go_sem, Nat.reduceBEq, wrap_id (n := c - paidI j c) (by omega) (by omega)]
  exact retQ_one rfl rfl
abbrev bookK (κ : KS) (b : EBook) : PV := bookP κ b [.sl .sh 2 ((known b).map trC)]
theorem cost_sem (κ : KS) {b : EBook} (ho : okE b) {t : Nat × Nat} (ht : t.1 < b.mb.makers.length) {j : Job} (hj : okJob b j) {h p : Int} (h1 : 0 ≤ h ∧ h ≤ 20) (h2 : 0 ≤ p ∧ p ≤ 99) : Sem1 125 [bookK κ b, .agg (trC t), .agg (jobC j), pi h, pi p] (pi (costI b t j h p)) := by
  have hx : t.1 < b.extra.length := by rw [ho.2.2.1]; exact ht
  have e1 := iadr_map (f := fun x : Int => [pi x]) (kd := κ.d) (sz := 1) hx
  have eg : b.extra[t.1] = b.extra.getD t.1 0 := by rw [List.getD_eq_getElem?_getD, List.getElem?_eq_getElem hx]; rfl
  rw [eg] at e1
  obtain ⟨k, hk⟩ : ∃ k : Nat, j.kind = k := ⟨j.kind.toNat, by have := hj.1; omega⟩
  have hk6 : k ≤ 64 := by have := hj.1; have := ho.1.1.2.1; omega
  have hc := cost_le ho t j h1 h2
  have hxl := extra_le ho t j
  have hr := ho.2.2.2.2.2.1
  have hsum : ∀ e : Int, 0 ≤ e ∧ e ≤ 50 → Sem1 126 [.sl .full 1 (ints [h * b.rate, p, e])] (pi (h * b.rate + p + e)) := fun e he => by
    have := sum_sem .full [h * b.rate, p, e] (fun x hx => by simp only [List.mem_cons, List.not_mem_nil, or_false] at hx; rcases hx with rfl | rfl | rfl <;> omega) (by simp)
    simpa [sumI] using this
  have hmul : IntKind.i64.wrap (h * b.rate) = h * b.rate := wrap_id (by omega) (by omega)
  have hkt : j.kind.toNat = k := by omega
  unfold costI
  unfold extraI at hxl ⊢
  rw [hkt] at hxl ⊢
  cases hb : t.2.testBit k
  · rw [hb, if_neg (by decide)] at hxl
    rw [if_neg (by decide)]
    refine semC_of_exec' mixed Tryz.func125 (by kernel_rfl) (by kernel_rfl) ac125_ok 5 rfl (by decide) [(.tmp 10)] (by kernel_rfl) ?_
    intro hr C hC hI
    unfold ac125
    simp only [go_sem, Nat.reduceBEq, Nat.reduceAdd, e1, hk]
    refine call_pure2 hC (has_sem t.2 k hk6) rfl (PVleL_refl _) ?_
    rintro r rfl
    simp only [go_sem, Nat.reduceBEq, Nat.reduceAdd, Nat.reduceLeDiff, hmul, hb]
    refine call_pure2 hC (hsum _ hxl) rfl (PVleL_refl _) ?_
    rintro _ rfl
    simp only [go_sem, Nat.reduceBEq]
    exact retQ_one rfl rfl
  · rw [if_pos rfl]
    refine semC_of_exec' mixed Tryz.func125 (by kernel_rfl) (by kernel_rfl) ac125_ok 5 rfl (by decide) [(.tmp 10)] (by kernel_rfl) ?_
    intro hr C hC hI
    unfold ac125
    simp only [go_sem, Nat.reduceBEq, Nat.reduceAdd, e1, hk]
    refine call_pure2 hC (has_sem t.2 k hk6) rfl (PVleL_refl _) ?_
    rintro r rfl
    simp only [go_sem, Nat.reduceBEq, Nat.reduceAdd, Nat.reduceLeDiff, hmul, hb]
    refine call_pure2 hC (hsum 0 (by omega)) rfl (PVleL_refl _) ?_
    rintro _ rfl
    simp only [go_sem, Nat.reduceBEq]
    exact retQ_one rfl rfl
theorem shares_sem : Sem1 85 [] (.sl .full 1 [[fnV 122], [fnV 123], [fnV 124]]) := by
  refine semC_of_exec' mixed Tryz.func85 (by kernel_rfl) (by kernel_rfl) ac85_ok 0 rfl (by decide) [(.tmp 0)] (by kernel_rfl) ?_
  intro hr C hC hI
  unfold ac85
  simp only [go_sem, Nat.reduceBEq, Nat.reduceAdd, Nat.reduceLeDiff]
  exact retQ_one rfl rfl
theorem low_sem (a b : Int) : Sem1 127 [.agg [pi a, pi b]] (pi a) := by
  refine semC_of_exec' mixed Tryz.func127 (by kernel_rfl) (by kernel_rfl) ac127_ok 1 rfl (by decide) [(.tmp 2)] (by kernel_rfl) ?_
  intro hr C hC hI
  unfold ac127
  simp only [go_sem, Nat.reduceBEq, Nat.reduceAdd]
  exact retQ_one rfl rfl
theorem high_sem (a b : Int) : Sem1 129 [.agg [pi a, pi b]] (pi b) := by
  refine semC_of_exec' mixed Tryz.func129 (by kernel_rfl) (by kernel_rfl) ac129_ok 1 rfl (by decide) [(.tmp 2)] (by kernel_rfl) ?_
  intro hr C hC hI
  unfold ac129
  simp only [go_sem, Nat.reduceBEq, Nat.reduceAdd]
  exact retQ_one rfl rfl
theorem lowest_sem : Sem1 87 [] (.agg [fnV 127, fnV 128]) := by
  refine semC_of_exec' mixed Tryz.func87 (by kernel_rfl) (by kernel_rfl) ac87_ok 0 rfl (by decide) [(.cell 0 115)] (by kernel_rfl) ?_
  intro hr C hC hI
  unfold ac87
  simp only [go_sem, Nat.reduceBEq, Nat.reduceAdd, Nat.reduceLeDiff, putCells]
  exact retQ_cell (n := some 2) (by kernel_rfl) rfl rfl
theorem highest_sem : Sem1 88 [] (.agg [fnV 129, fnV 130]) := by
  refine semC_of_exec' mixed Tryz.func88 (by kernel_rfl) (by kernel_rfl) ac88_ok 0 rfl (by decide) [(.cell 0 115)] (by kernel_rfl) ?_
  intro hr C hC hI
  unfold ac88
  simp only [go_sem, Nat.reduceBEq, Nat.reduceAdd, Nat.reduceLeDiff, putCells]
  exact retQ_cell (n := some 2) (by kernel_rfl) rfl rfl
theorem Min_sem (l : List Int) (hne : l ≠ []) (hl : l.length ≤ 1000) : Sem1 128 [.sl .sh 1 (ints l)] (pi (minF l)) := by
  obtain ⟨x, r, rfl⟩ := List.exists_cons_of_ne_nil hne
  have hlr : r.length + 1 ≤ 1000 := hl
  have key : ∀ L : List Int, L = x :: r → Sem1 128 [.sl .sh 1 (ints L)] (pi (r.foldl min x)) := by
    intro L hL
    have hLl : L.length = r.length + 1 := by rw [hL]; rfl
    have e0 : iadrS' 1 (.p (.sl .sh 1 (ints L))) (.p (.val (.int .i64 0))) = some (.p (.ptr [pi x] 0)) := by
      subst hL
      exact iadr_map (f := fun x : Int => [pi x]) (kd := .sh) (sz := 1) (l := x :: r) (k := 0) (by simp)
    refine semC_of_exec' mixed Tryz.func128 (by kernel_rfl) (by kernel_rfl) ac128_ok 1 rfl (by decide) [(.tmp 2)] (by kernel_rfl) ?_
    intro hr C hC hI
    unfold ac128
    simp only [go_sem, Nat.reduceBEq, List.length_map]
    refine ⟨fun h => absurd h (by omega), fun _ => ?_⟩
    simp only [go_sem, Nat.reduceBEq, e0]
    refine loop_k r.length (fun _ => True) [0] (fun j => [(3, .p (pi ((r.take j).foldl min x))), (4, .p (pi ((j + 1 : Nat) : Int)))]) trivial rfl ⟨rfl, by simp, by simp⟩ (by simp [wkT, look, AV.lo]) ?_
    rintro j ⟨hj, -⟩
    simp only [go_sem, Nat.reduceBEq, List.length_map]
    refine ⟨fun h5 => ?_, fun h5 => ?_⟩
    · have hj2 : j < r.length := by omega
      have e1 : iadrS' 1 (.p (.sl .sh 1 (ints L))) (.p (pi ((j + 1 : Nat) : Int))) = some (.p (.ptr [pi r[j]] 0)) := by
        subst hL
        exact iadr_map (f := fun x : Int => [pi x]) (kd := .sh) (sz := 1) (l := x :: r) (k := j + 1) (by simp; omega)
      have hst := foldl_take (min : Int → Int → Int) x r j hj2
      have hmx : (if r[j] < (r.take j).foldl min x then r[j] else (r.take j).foldl min x) = min ((r.take j).foldl min x) r[j] := by split <;> omega
      simp only [go_sem, Nat.reduceBEq, e1, wrap_succ (k := j + 1) (by omega)]
      refine ⟨⟨j + 1, hj2, trivial⟩, by simp only; omega, ?_⟩
      simp only [hst]
      simp [Wk, wkT, wkL, look, AV.lo, maxI, hmx]
    · have hjn : j = r.length := by omega
      subst hjn
      rw [List.take_length]
      exact retQ_one rfl rfl
  exact key _ rfl
theorem Max_sem (l : List Int) (hne : l ≠ []) (hl : l.length ≤ 1000) : Sem1 130 [.sl .sh 1 (ints l)] (pi (maxF l)) := by
  obtain ⟨x, r, rfl⟩ := List.exists_cons_of_ne_nil hne
  have hlr : r.length + 1 ≤ 1000 := hl
  have key : ∀ L : List Int, L = x :: r → Sem1 130 [.sl .sh 1 (ints L)] (pi (r.foldl max x)) := by
    intro L hL
    have hLl : L.length = r.length + 1 := by rw [hL]; rfl
    have e0 : iadrS' 1 (.p (.sl .sh 1 (ints L))) (.p (.val (.int .i64 0))) = some (.p (.ptr [pi x] 0)) := by
      subst hL
      exact iadr_map (f := fun x : Int => [pi x]) (kd := .sh) (sz := 1) (l := x :: r) (k := 0) (by simp)
    refine semC_of_exec' mixed Tryz.func130 (by kernel_rfl) (by kernel_rfl) ac130_ok 1 rfl (by decide) [(.tmp 2)] (by kernel_rfl) ?_
    intro hr C hC hI
    unfold ac130
    simp only [go_sem, Nat.reduceBEq, List.length_map]
    refine ⟨fun h => absurd h (by omega), fun _ => ?_⟩
    simp only [go_sem, Nat.reduceBEq, e0]
    refine loop_k r.length (fun _ => True) [0] (fun j => [(3, .p (pi ((r.take j).foldl max x))), (4, .p (pi ((j + 1 : Nat) : Int)))]) trivial rfl ⟨rfl, by simp, by simp⟩ (by simp [wkT, look, AV.lo]) ?_
    rintro j ⟨hj, -⟩
    simp only [go_sem, Nat.reduceBEq, List.length_map]
    refine ⟨fun h5 => ?_, fun h5 => ?_⟩
    · have hj2 : j < r.length := by omega
      have e1 : iadrS' 1 (.p (.sl .sh 1 (ints L))) (.p (pi ((j + 1 : Nat) : Int))) = some (.p (.ptr [pi r[j]] 0)) := by
        subst hL
        exact iadr_map (f := fun x : Int => [pi x]) (kd := .sh) (sz := 1) (l := x :: r) (k := j + 1) (by simp; omega)
      have hst := foldl_take (max : Int → Int → Int) x r j hj2
      have hmx : (if (r.take j).foldl max x < r[j] then r[j] else (r.take j).foldl max x) = max ((r.take j).foldl max x) r[j] := by split <;> omega
      simp only [go_sem, Nat.reduceBEq, e1, wrap_succ (k := j + 1) (by omega)]
      refine ⟨⟨j + 1, hj2, trivial⟩, by simp only; omega, ?_⟩
      simp only [hst]
      simp [Wk, wkT, wkL, look, AV.lo, maxI, hmx]
    · have hjn : j = r.length := by omega
      subst hjn
      rw [List.take_length]
      exact retQ_one rfl rfl
  exact key _ rfl
end Go.Proofs.YtlcpplkbmlmmbaaGreat.Mk.Me
namespace Go.Proofs.YtlcpplkbmlmmbaaGreat
open Go.RowKit
section
variable {C : Con} {rd : List Nat} {d : Option Nat} {i : Nat} {tk lst : Bool} {s : AS} {K : List Nat → AS → Prop}
theorem gs_newA {cs : List PV} : gstep C rd ⟨d, .new (.agg cs), none, i, tk, lst⟩ s K = K (bif lst then [] else rd) ((mkOwn s (cs.map .p)).put d (.loc s.loc.length 0)) := by
  rw [gs_eff rfl]; rfl
theorem gs_newV {v : Value} : gstep C rd ⟨d, .new (.val v), none, i, tk, lst⟩ s K = K (bif lst then [] else rd) ((mkOwn s [.p (.val v)]).put d (.loc s.loc.length 0)) := by
  rw [gs_eff rfl]; rfl
def stGB (lst : Bool) (id off n : Nat) (k : Option ABlk) (c : List AV) (rd : List Nat) (d : Option Nat) (s : AS) (K : AS → Prop) : Prop :=
  match k with
  | some (.cells cs) => (lst = true ∨ id ∉ rd) ∧ off + n ≤ cs.length ∧ K (({ s with loc := s.loc.set id (.cells (putCells cs off c)) } : AS).put d (.p .und))
  | some (.prt m cs) => (lst = true ∨ id ∉ rd) ∧ m ≤ off ∧ off + n ≤ cs.length ∧ K (({ s with loc := s.loc.set id (.prt m (putCells cs off c)) } : AS).put d (.p .und))
  | _ => False
def stG (v : AV) (u : Option (List AV)) (lst : Bool) (n : Nat) (rd : List Nat) (d : Option Nat) (s : AS) (K : AS → Prop) : Prop :=
  match v, u with
  | .loc id off, some c => stGB lst id off n s.loc[id]? c rd d s K
  | _, _ => False
theorem gs_stA {n : Nat} {a x : AX} : gstep C rd ⟨d, .st n a x, none, i, tk, lst⟩ s K = stG (a.ev s) (cellsA n (x.ev s)) lst n (bif lst then [] else rd) d s (K (bif lst then [] else rd)) := by
  rw [gs_eff rfl]
  simp only [effQ, stG, stGB]
  cases a.ev s with
  | loc id off =>
    cases cellsA n (x.ev s) with
    | none => rfl
    | some v =>
      simp only
      cases s.loc[id]? with
      | none => rfl
      | some k => cases k <;> rfl
  | _ => rfl
theorem stG_loc {id off n : Nat} {c : List AV} {K : AS → Prop} : stG (.loc id off) (some c) lst n rd d s K = stGB lst id off n s.loc[id]? c rd d s K := rfl
theorem stGB_cells {id off n : Nat} {cs c : List AV} {K : AS → Prop} : stGB lst id off n (some (.cells cs)) c rd d s K = ((lst = true ∨ id ∉ rd) ∧ off + n ≤ cs.length ∧ K (({ s with loc := s.loc.set id (.cells (putCells cs off c)) } : AS).put d (.p .und))) := rfl
end
end Go.Proofs.YtlcpplkbmlmmbaaGreat
