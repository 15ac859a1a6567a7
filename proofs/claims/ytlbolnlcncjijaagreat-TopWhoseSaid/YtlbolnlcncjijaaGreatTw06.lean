/- Contracts of maker: a book in the calculation. Contracts of maker: how many kinds; truths. -/
import Derived.Test.YtlbolnlcncjijaaGreatTw05
namespace Go.Proofs.YtlbolnlcncjijaaGreat.Mk
open Go.RowKit Ls
def ac63 : AC := (AC.seq (AC.ops [(AOp.mk (some 1) (AK.box 4 (AX.t 0)) none 0 false true), (AOp.mk (some 2) (AK.mv (AX.c PV.nilp)) none 1 false true)]) (AC.seq (AC.tree (AT.op (AOp.mk (some 10) (AK.ld (some 4) (AX.t 1)) none 0 true false) (AT.fk (AOp.mk (some 11) (AK.call 83 []) none 1 false false) (AOp.mk (some 12) AK.mkm none 2 false false) (AT.op (AOp.mk (some 12) AK.mkm none 2 false false) (AT.op (AOp.mk (some 13) (AK.build [(PV.sl SK.full 0 []), (PV.sl SK.full 0 []), (PV.val (Value.int IntKind.i64 0)), (PV.val (Value.int IntKind.i64 0)), (PV.val (Value.int IntKind.i64 0)), (PV.val (Value.int IntKind.i64 0)), (PV.val (Value.int IntKind.i64 0)), (PV.val (Value.int IntKind.i64 0)), (PV.val (Value.int IntKind.i64 0)), (PV.val (Value.int IntKind.i64 0)), PV.any] [(0, (4, (AX.t 10))), (4, (6, (AX.t 11))), (10, (1, (AX.t 12)))]) none 3 true false) (AT.op (AOp.mk (some 14) (AK.box 11 (AX.t 13)) none 4 false true) (AT.op (AOp.mk (some 3) (AK.mv (AX.t 14)) none 5 true false) AT.fin)))) (AT.op (AOp.mk (some 11) (AK.call 83 []) none 1 false false) (AT.op (AOp.mk (some 13) (AK.build [(PV.sl SK.full 0 []), (PV.sl SK.full 0 []), (PV.val (Value.int IntKind.i64 0)), (PV.val (Value.int IntKind.i64 0)), (PV.val (Value.int IntKind.i64 0)), (PV.val (Value.int IntKind.i64 0)), (PV.val (Value.int IntKind.i64 0)), (PV.val (Value.int IntKind.i64 0)), (PV.val (Value.int IntKind.i64 0)), (PV.val (Value.int IntKind.i64 0)), PV.any] [(0, (4, (AX.t 10))), (4, (6, (AX.t 11))), (10, (1, (AX.t 12)))]) none 3 true false) (AT.op (AOp.mk (some 14) (AK.box 11 (AX.t 13)) none 4 false true) (AT.op (AOp.mk (some 3) (AK.mv (AX.t 14)) none 5 true false) AT.fin))))))) (AC.seq (AC.seq (AC.ops [(AOp.mk (some 15) (AK.mv (AX.t 3)) none 0 false true), (AOp.mk (some 16) (AK.nilc (AX.t 15)) none 1 false true), (AOp.mk (some 17) (AK.fadr 0 (AX.t 16)) none 2 false true), (AOp.mk (some 18) (AK.fadr 1 (AX.t 17)) none 3 false true), (AOp.mk (some 19) (AK.ld none (AX.t 18)) none 4 false true), (AOp.mk (some 20) (AK.len (AX.t 19)) none 5 false true), (AOp.mk (some 21) (AK.mv (AX.c (PV.val (Value.int IntKind.i64 0)))) none 6 false true)]) (AC.block 0 (AC.loop (AC.seq (AC.ops [(AOp.mk (some 22) (AK.bin false BinOp.lss (AX.t 21) (AX.t 20)) none 0 false true)]) (AC.seq (AC.cond (AX.t 22) AC.skip (AC.exit 0)) (AC.seq (AC.block 1 (AC.seq (AC.ops [(AOp.mk (some 23) (AK.iadrS 2 (AX.t 19) (AX.t 21)) none 0 false true), (AOp.mk (some 24) (AK.ld (some 2) (AX.t 23)) none 1 false true), (AOp.mk (some 5) (AK.new (PV.agg [(PV.val (Value.int IntKind.i64 0)), (PV.val (Value.int IntKind.i64 0))])) none 2 false true), (AOp.mk none (AK.st 2 (AX.t 5) (AX.t 24)) none 3 false true)]) (AC.ops [(AOp.mk (some 25) (AK.mv (AX.t 3)) none 0 true false), (AOp.mk (some 26) (AK.fadr 0 (AX.t 5)) none 1 true false), (AOp.mk (some 27) (AK.ld none (AX.t 26)) none 2 true false), (AOp.mk (some 28) (AK.nilc (AX.t 25)) none 3 true false), (AOp.mk (some 29) (AK.fadr 4 (AX.t 28)) none 4 true false), (AOp.mk (some 30) (AK.iadrA 1 6 (AX.t 29) (AX.t 27)) none 5 true false), (AOp.mk (some 31) (AK.ld none (AX.t 30)) none 6 true false), (AOp.mk (some 32) (AK.fadr 1 (AX.t 5)) none 7 true false), (AOp.mk (some 33) (AK.ld none (AX.t 32)) none 8 true false), (AOp.mk (some 34) (AK.bin false BinOp.and (AX.t 31) (AX.t 33)) none 9 true false), (AOp.mk (some 35) (AK.nilc (AX.t 25)) none 10 true false), (AOp.mk (some 36) (AK.fadr 4 (AX.t 35)) none 11 true false), (AOp.mk (some 37) (AK.iadrA 1 6 (AX.t 36) (AX.t 27)) none 12 true true), (AOp.mk none (AK.st 1 (AX.t 37) (AX.t 34)) none 13 false true)]))) (AC.ops [(AOp.mk (some 38) (AK.bin false BinOp.add (AX.t 21) (AX.c (PV.val (Value.int IntKind.i64 1)))) none 0 false true), (AOp.mk (some 21) (AK.mv (AX.t 38)) none 1 false true)]))))))) (AC.seq (AC.seq (AC.ops [(AOp.mk (some 39) (AK.mv (AX.t 3)) none 0 false true), (AOp.mk (some 40) (AK.nilc (AX.t 39)) none 1 false true), (AOp.mk (some 41) (AK.fadr 0 (AX.t 40)) none 2 false true), (AOp.mk (some 42) (AK.fadr 0 (AX.t 41)) none 3 false true), (AOp.mk (some 43) (AK.ld none (AX.t 42)) none 4 false true), (AOp.mk (some 44) (AK.len (AX.t 43)) none 5 false true), (AOp.mk (some 45) (AK.mv (AX.c (PV.val (Value.int IntKind.i64 0)))) none 6 false true)]) (AC.block 2 (AC.loop (AC.seq (AC.ops [(AOp.mk (some 46) (AK.bin false BinOp.lss (AX.t 45) (AX.t 44)) none 0 false true)]) (AC.seq (AC.cond (AX.t 46) AC.skip (AC.exit 2)) (AC.seq (AC.block 3 (AC.seq (AC.ops [(AOp.mk (some 47) (AK.mv (AX.t 45)) none 0 false true), (AOp.mk (some 48) (AK.iadrS 1 (AX.t 43) (AX.t 45)) none 1 false true), (AOp.mk (some 49) (AK.ld none (AX.t 48)) none 2 false true), (AOp.mk (some 6) (AK.mv (AX.t 47)) none 3 false true), (AOp.mk (some 7) (AK.mv (AX.t 49)) none 4 false true)]) (AC.seq (AC.ops [(AOp.mk (some 50) (AK.mv (AX.t 7)) none 0 false true), (AOp.mk (some 51) (AK.len (AX.t 50)) none 1 false true), (AOp.mk (some 52) (AK.mv (AX.c (PV.val (Value.int IntKind.i64 0)))) none 2 false true)]) (AC.block 4 (AC.loop (AC.seq (AC.ops [(AOp.mk (some 53) (AK.bin false BinOp.lss (AX.t 52) (AX.t 51)) none 0 false true)]) (AC.seq (AC.cond (AX.t 53) AC.skip (AC.exit 4)) (AC.seq (AC.block 5 (AC.seq (AC.ops [(AOp.mk (some 54) (AK.mv (AX.t 52)) none 0 false true), (AOp.mk (some 55) (AK.iadrS 1 (AX.t 50) (AX.t 52)) none 1 false true), (AOp.mk (some 56) (AK.ld none (AX.t 55)) none 2 false true), (AOp.mk (some 8) (AK.mv (AX.t 54)) none 3 false true), (AOp.mk (some 9) (AK.mv (AX.t 56)) none 4 false true)]) (AC.ops [(AOp.mk (some 57) (AK.mv (AX.t 3)) none 0 true false), (AOp.mk (some 58) (AK.nilc (AX.t 57)) none 1 true false), (AOp.mk (some 59) (AK.fadr 10 (AX.t 58)) none 2 true false), (AOp.mk (some 60) (AK.ld none (AX.t 59)) none 3 true false), (AOp.mk (some 61) (AK.mv (AX.t 6)) none 4 true false), (AOp.mk (some 62) (AK.mv (AX.t 8)) none 5 true false), (AOp.mk (some 63) (AK.build [(PV.val (Value.int IntKind.i64 0)), (PV.val (Value.int IntKind.i64 0))] [(0, (1, (AX.t 61))), (1, (1, (AX.t 62)))]) none 6 true false), (AOp.mk (some 64) (AK.mv (AX.t 9)) none 7 true false), (AOp.mk (some 65) (AK.mv (AX.t 3)) none 8 true false), (AOp.mk (some 66) (AK.mv (AX.t 8)) none 9 true false), (AOp.mk (some 67) (AK.nilc (AX.t 65)) none 10 true false), (AOp.mk (some 68) (AK.fadr 4 (AX.t 67)) none 11 true false), (AOp.mk (some 69) (AK.iadrA 1 6 (AX.t 68) (AX.t 66)) none 12 true false), (AOp.mk (some 70) (AK.ld none (AX.t 69)) none 13 true false), (AOp.mk (some 71) (AK.bin false BinOp.and (AX.t 64) (AX.t 70)) none 14 true false), (AOp.mk none (AK.mup [CK.i, CK.i] true (AX.t 60) (AX.t 63) (AX.t 71)) none 15 false true)]))) (AC.ops [(AOp.mk (some 72) (AK.bin false BinOp.add (AX.t 52) (AX.c (PV.val (Value.int IntKind.i64 1)))) none 0 false true), (AOp.mk (some 52) (AK.mv (AX.t 72)) none 1 false true)]))))))))) (AC.ops [(AOp.mk (some 73) (AK.bin false BinOp.add (AX.t 45) (AX.c (PV.val (Value.int IntKind.i64 1)))) none 0 false true), (AOp.mk (some 45) (AK.mv (AX.t 73)) none 1 false true)]))))))) (AC.seq (AC.ops [(AOp.mk (some 74) (AK.mv (AX.t 3)) none 0 false true), (AOp.mk (some 2) (AK.mv (AX.t 74)) none 1 false true)]) AC.ret)))))
theorem ac63_ok : cCode Tryz.prog (fun _ => false) Tryz.f63.ntmps (Tryz.f63.body.getD .skip) = some ac63 := by kernel_rfl
def ac65 : AC := (AC.seq (AC.ops [(AOp.mk (some 4) (AK.mv (AX.c PV.nilp)) none 0 false true)]) (AC.seq (AC.ops [(AOp.mk (some 6) (AK.mv (AX.t 0)) none 0 false true), (AOp.mk (some 7) (AK.nilc (AX.t 6)) none 1 false true), (AOp.mk (some 8) (AK.fadr 0 (AX.t 7)) none 2 false true), (AOp.mk (some 9) (AK.ld (some 4) (AX.t 8)) none 3 false true), (AOp.mk (some 5) (AK.new (PV.agg [(PV.sl SK.full 0 []), (PV.sl SK.full 0 []), (PV.val (Value.int IntKind.i64 0)), (PV.val (Value.int IntKind.i64 0))])) none 4 false true), (AOp.mk none (AK.st 4 (AX.t 5) (AX.t 9)) none 5 false true)]) (AC.seq (AC.ops [(AOp.mk (some 10) (AK.mv (AX.t 1)) none 0 false true), (AOp.mk (some 11) (AK.fadr 1 (AX.t 5)) none 1 false true), (AOp.mk none (AK.st 1 (AX.t 11) (AX.t 10)) none 2 false true)]) (AC.seq (AC.ops [(AOp.mk (some 12) (AK.ld (some 4) (AX.t 5)) none 0 false true), (AOp.mk (some 13) (AK.call 63 [(AX.t 12)]) none 1 false true), (AOp.mk (some 4) (AK.mv (AX.t 13)) none 2 false true)]) AC.ret))))
theorem ac65_ok : cCode Tryz.prog (fun _ => false) Tryz.f65.ntmps (Tryz.f65.body.getD .skip) = some ac65 := by kernel_rfl
theorem view_key {b : MBook} {h t : Nat} : ∀ v ∈ worksL b, keyEq [.i, .i] true (.agg [pi h, pi t]) (.agg [pi v.1, pi v.2]) = some (decide (v = (h, t))) := by
  intro v _
  have : decide (v = (h, t)) = (decide ((h : Int) = v.1) && (decide ((t : Int) = v.2) && true)) := by
    rw [Bool.and_true, dec_and]
    refine decide_eq_decide.2 ⟨?_, ?_⟩
    · rintro rfl; exact ⟨rfl, rfl⟩
    · rintro ⟨h1, h2⟩
      exact Prod.ext (by omega) (by omega)
  rw [this]
  simp only [keyEq, eqCs_i, eqCs_nil, Option.map_some]
theorem view_self {h t : Int} : (keyEq [.i, .i] true (.agg [pi h, pi t]) (.agg [pi h, pi t])).isSome = true := by
  simp only [keyEq, eqCs_i, eqCs_nil, Option.map_some, Option.isSome_some]
theorem mem_works {b : MBook} {h t : Nat} (hh : h < b.makers.length) (ht : t < nK b) : (h, t) ∈ worksL b := by
  unfold worksL
  rw [List.mem_map]
  refine ⟨h * nK b + t, List.mem_range.2 ?_, ?_⟩
  · have : (h + 1) * nK b ≤ b.makers.length * nK b := Nat.mul_le_mul_right _ hh
    rw [Nat.add_mul] at this
    omega
  · rw [Nat.mul_comm, Nat.mul_add_div (by omega), Nat.div_eq_of_lt ht, Nat.add_zero, Nat.mul_add_mod, Nat.mod_eq_of_lt ht]
theorem look_own {b : MBook} {h t : Nat} (hh : h < b.makers.length) (ht : t < nK b) (z : PV) : lkpV [.i, .i] true z false (ownE b) (.agg [pi h, pi t]) = some (pi (ownN b h t)) := by
  unfold ownE
  rw [lkpV_map (p := fun v => decide (v = (h, t))) view_self view_key]
  have hf : (worksL b).find? (fun v => decide (v = (h, t))) = some (h, t) := by
    cases e : (worksL b).find? (fun v => decide (v = (h, t))) with
    | none =>
      have := List.find?_eq_none.1 e _ (mem_works hh ht)
      simp at this
    | some v =>
      have := List.find?_some e
      simp only [decide_eq_true_eq] at this
      rw [this]
  rw [hf]
  rfl
theorem works_nodup (b : MBook) : (worksL b).Nodup := by
  unfold worksL
  rw [List.Nodup, List.pairwise_map]
  refine List.Pairwise.imp ?_ (List.pairwise_lt_range (n := b.makers.length * nK b))
  intro x y hlt he
  simp only [Prod.mk.injEq] at he
  have h1 := Nat.div_add_mod x (nK b)
  have h2 := Nat.div_add_mod y (nK b)
  rw [he.1, he.2] at h1
  omega
theorem works_len (b : MBook) : (worksL b).length = b.makers.length * nK b := by simp [worksL]
theorem own_put {b : MBook} {i h t : Nat} (hi : i < (worksL b).length) (hv : (worksL b)[i] = (h, t)) : mput [.i, .i] true (.agg [pi h, pi t]) (pi (ownN b h t)) ((ownE b).take i) = some ((ownE b).take (i + 1)) := by
  have hE : ∀ j, (ownE b).take j = ((worksL b).take j).map fun v => (.agg [pi v.1, pi v.2], pi (ownN b v.1 v.2)) := fun j => by unfold ownE; rw [List.map_take]
  have hsub : ∀ v ∈ (worksL b).take i, v ∈ worksL b := fun v hv => List.mem_of_mem_take hv
  rw [hE, hE, mput_new (p := fun v => decide (v = (h, t))) view_self (fun v hv => view_key v (hsub v hv)), List.take_succ_eq_append_getElem hi, List.map_append, hv]
  · rfl
  · intro v hv2
    refine decide_eq_false fun he => ?_
    subst he
    obtain ⟨j, hj, e⟩ := List.mem_iff_getElem.1 hv2
    rw [List.length_take] at hj
    rw [List.getElem_take] at e
    have := (List.getElem_inj (h₀ := by omega) (h₁ := hi) (works_nodup b)).1 (e.trans hv.symm)
    omega
theorem seen_step {b : MBook} {j : Nat} (hj : j < b.seen.length) (k : Nat) : seenL (b.seen.take (j + 1)) k = if b.seen[j].1 = (k : Int) then seenL (b.seen.take j) k &&& b.seen[j].2.toNat else seenL (b.seen.take j) k := by
  unfold seenL
  rw [List.take_succ_eq_append_getElem hj, List.foldl_append]
  rfl
theorem seenL_le (l : List (Int × Int)) (k : Nat) : seenL l k ≤ 31 := seen_le ⟨[], l, 0, 0⟩ k
theorem bookOf_sem (k k2 : SK) {b : MBook} (ho : okC b) (hl : b.seen.length ≤ 1000) : Sem1 63 [.agg (bookC k k2 b)] (bookP k k2 b) := by
  obtain ⟨h1, h2, h3, h4, h5⟩ := ho
  have hwl := works_len b
  have hEl : (ownE b).length = (worksL b).length := by simp [ownE]
  have hMn : b.makers.length * nK b ≤ 30 := Nat.mul_le_mul h1.2 h2.2
  refine semC_of_exec' mixed Tryz.func63 (by kernel_rfl) (by kernel_rfl) ac63_ok 1 rfl (by decide) [(.tmp 2)] (by kernel_rfl) ?_
  intro hr C hC hI
  unfold ac63
  simp only [go_sem, Nat.reduceBEq, Nat.reduceAdd]
  refine ⟨?_, ?_⟩
  all_goals (
    refine call_pure2 hC (allValues_sem) rfl (PVleL_refl _) ?_
    rintro r rfl
    simp only [go_sem, Nat.reduceBEq, Nat.reduceAdd, Nat.reduceLeDiff, List.length_map]
    refine loop_kl b.seen.length (fun _ => True) [3, 19, 20] (fun j => [(21, .p (pi j))]) (fun j => [.cells ((bookC k k2 b).map .p), .mp [], .cells [.p (.sl k 1 (rowsC b.makers)), .p (.sl k2 2 (seenC b.seen)), .p (pi b.repairs), .p (pi b.fixed), .p (pi (seenL (b.seen.take j) 0)), .p (pi (seenL (b.seen.take j) 1)), .p (pi (seenL (b.seen.take j) 2)), .p (pi (seenL (b.seen.take j) 3)), .p (pi (seenL (b.seen.take j) 4)), .p (pi (seenL (b.seen.take j) 5)), .mpl 1]]) trivial (by simp [Wk, wkT, wkL, look, AV.lo, AV.lo.loL, ABlk.toZ, upS_eq, keepS_nil, keepS_cons, seenL]) ?_
    rintro j ⟨hj, -⟩
    simp only [go_sem, Nat.reduceBEq]
    refine ⟨fun c5 => ?_, fun c5 => ?_⟩
    · have hj2 : j < b.seen.length := by omega
      obtain ⟨⟨q1, q2⟩, q3, q4⟩ := h4 _ (List.getElem_mem hj2)
      obtain ⟨c, v, ec, hc⟩ : ∃ c v : Nat, b.seen[j] = ((c : Int), (v : Int)) ∧ c < 6 := ⟨b.seen[j].1.toNat, b.seen[j].2.toNat, Prod.ext (by simp only; omega) (by simp only; omega), by omega⟩
      have hv31 : v ≤ 31 := by rw [ec] at q4; simp only at q4; omega
      have hst := seen_step hj2
      rw [ec] at hst
      simp only [Int.toNat_natCast] at hst
      have hand : ∀ q, binS false .and (.p (pi (seenL (b.seen.take j) q))) (.p (pi (v : Nat))) = some (.p (pi ((seenL (b.seen.take j) q &&& v : Nat) : Int))) := fun q => bin_andN (by have := seenL_le (b.seen.take j) q; omega) (by omega)
      have hiad := iadr_map (f := fun m : Int × Int => [pi m.1, pi m.2]) (kd := k2) (sz := 2) hj2
      rw [ec] at hiad
      rcases lt6 hc with rfl | rfl | rfl | rfl | rfl | rfl
      · have g0 : seenL (b.seen.take (j + 1)) 0 = seenL (b.seen.take j) 0 &&& v := by rw [hst]; exact if_pos rfl
        have g1 : seenL (b.seen.take (j + 1)) 1 = seenL (b.seen.take j) 1 := by rw [hst]; exact if_neg (by decide)
        have g2 : seenL (b.seen.take (j + 1)) 2 = seenL (b.seen.take j) 2 := by rw [hst]; exact if_neg (by decide)
        have g3 : seenL (b.seen.take (j + 1)) 3 = seenL (b.seen.take j) 3 := by rw [hst]; exact if_neg (by decide)
        have g4 : seenL (b.seen.take (j + 1)) 4 = seenL (b.seen.take j) 4 := by rw [hst]; exact if_neg (by decide)
        have g5 : seenL (b.seen.take (j + 1)) 5 = seenL (b.seen.take j) 5 := by rw [hst]; exact if_neg (by decide)
        simp only [go_sem, Nat.reduceBEq, Nat.reduceAdd, Nat.reduceLeDiff, hiad, putCells, Int.cast_ofNat_Int, ia6_0, hand, wrap_succ (k := j) (by omega)]
        exact ⟨⟨j + 1, hj2, trivial⟩, by simp only; omega, by simp [Wk, wkT, wkL, look, AV.lo, AV.lo.loL, ABlk.toZ, g0, g1, g2, g3, g4, g5]⟩
      · have g0 : seenL (b.seen.take (j + 1)) 0 = seenL (b.seen.take j) 0 := by rw [hst]; exact if_neg (by decide)
        have g1 : seenL (b.seen.take (j + 1)) 1 = seenL (b.seen.take j) 1 &&& v := by rw [hst]; exact if_pos rfl
        have g2 : seenL (b.seen.take (j + 1)) 2 = seenL (b.seen.take j) 2 := by rw [hst]; exact if_neg (by decide)
        have g3 : seenL (b.seen.take (j + 1)) 3 = seenL (b.seen.take j) 3 := by rw [hst]; exact if_neg (by decide)
        have g4 : seenL (b.seen.take (j + 1)) 4 = seenL (b.seen.take j) 4 := by rw [hst]; exact if_neg (by decide)
        have g5 : seenL (b.seen.take (j + 1)) 5 = seenL (b.seen.take j) 5 := by rw [hst]; exact if_neg (by decide)
        simp only [go_sem, Nat.reduceBEq, Nat.reduceAdd, Nat.reduceLeDiff, hiad, putCells, Int.cast_ofNat_Int, ia6_1, hand, wrap_succ (k := j) (by omega)]
        exact ⟨⟨j + 1, hj2, trivial⟩, by simp only; omega, by simp [Wk, wkT, wkL, look, AV.lo, AV.lo.loL, ABlk.toZ, g0, g1, g2, g3, g4, g5]⟩
      · have g0 : seenL (b.seen.take (j + 1)) 0 = seenL (b.seen.take j) 0 := by rw [hst]; exact if_neg (by decide)
        have g1 : seenL (b.seen.take (j + 1)) 1 = seenL (b.seen.take j) 1 := by rw [hst]; exact if_neg (by decide)
        have g2 : seenL (b.seen.take (j + 1)) 2 = seenL (b.seen.take j) 2 &&& v := by rw [hst]; exact if_pos rfl
        have g3 : seenL (b.seen.take (j + 1)) 3 = seenL (b.seen.take j) 3 := by rw [hst]; exact if_neg (by decide)
        have g4 : seenL (b.seen.take (j + 1)) 4 = seenL (b.seen.take j) 4 := by rw [hst]; exact if_neg (by decide)
        have g5 : seenL (b.seen.take (j + 1)) 5 = seenL (b.seen.take j) 5 := by rw [hst]; exact if_neg (by decide)
        simp only [go_sem, Nat.reduceBEq, Nat.reduceAdd, Nat.reduceLeDiff, hiad, putCells, Int.cast_ofNat_Int, ia6_2, hand, wrap_succ (k := j) (by omega)]
        exact ⟨⟨j + 1, hj2, trivial⟩, by simp only; omega, by simp [Wk, wkT, wkL, look, AV.lo, AV.lo.loL, ABlk.toZ, g0, g1, g2, g3, g4, g5]⟩
      · have g0 : seenL (b.seen.take (j + 1)) 0 = seenL (b.seen.take j) 0 := by rw [hst]; exact if_neg (by decide)
        have g1 : seenL (b.seen.take (j + 1)) 1 = seenL (b.seen.take j) 1 := by rw [hst]; exact if_neg (by decide)
        have g2 : seenL (b.seen.take (j + 1)) 2 = seenL (b.seen.take j) 2 := by rw [hst]; exact if_neg (by decide)
        have g3 : seenL (b.seen.take (j + 1)) 3 = seenL (b.seen.take j) 3 &&& v := by rw [hst]; exact if_pos rfl
        have g4 : seenL (b.seen.take (j + 1)) 4 = seenL (b.seen.take j) 4 := by rw [hst]; exact if_neg (by decide)
        have g5 : seenL (b.seen.take (j + 1)) 5 = seenL (b.seen.take j) 5 := by rw [hst]; exact if_neg (by decide)
        simp only [go_sem, Nat.reduceBEq, Nat.reduceAdd, Nat.reduceLeDiff, hiad, putCells, Int.cast_ofNat_Int, ia6_3, hand, wrap_succ (k := j) (by omega)]
        exact ⟨⟨j + 1, hj2, trivial⟩, by simp only; omega, by simp [Wk, wkT, wkL, look, AV.lo, AV.lo.loL, ABlk.toZ, g0, g1, g2, g3, g4, g5]⟩
      · have g0 : seenL (b.seen.take (j + 1)) 0 = seenL (b.seen.take j) 0 := by rw [hst]; exact if_neg (by decide)
        have g1 : seenL (b.seen.take (j + 1)) 1 = seenL (b.seen.take j) 1 := by rw [hst]; exact if_neg (by decide)
        have g2 : seenL (b.seen.take (j + 1)) 2 = seenL (b.seen.take j) 2 := by rw [hst]; exact if_neg (by decide)
        have g3 : seenL (b.seen.take (j + 1)) 3 = seenL (b.seen.take j) 3 := by rw [hst]; exact if_neg (by decide)
        have g4 : seenL (b.seen.take (j + 1)) 4 = seenL (b.seen.take j) 4 &&& v := by rw [hst]; exact if_pos rfl
        have g5 : seenL (b.seen.take (j + 1)) 5 = seenL (b.seen.take j) 5 := by rw [hst]; exact if_neg (by decide)
        simp only [go_sem, Nat.reduceBEq, Nat.reduceAdd, Nat.reduceLeDiff, hiad, putCells, Int.cast_ofNat_Int, ia6_4, hand, wrap_succ (k := j) (by omega)]
        exact ⟨⟨j + 1, hj2, trivial⟩, by simp only; omega, by simp [Wk, wkT, wkL, look, AV.lo, AV.lo.loL, ABlk.toZ, g0, g1, g2, g3, g4, g5]⟩
      · have g0 : seenL (b.seen.take (j + 1)) 0 = seenL (b.seen.take j) 0 := by rw [hst]; exact if_neg (by decide)
        have g1 : seenL (b.seen.take (j + 1)) 1 = seenL (b.seen.take j) 1 := by rw [hst]; exact if_neg (by decide)
        have g2 : seenL (b.seen.take (j + 1)) 2 = seenL (b.seen.take j) 2 := by rw [hst]; exact if_neg (by decide)
        have g3 : seenL (b.seen.take (j + 1)) 3 = seenL (b.seen.take j) 3 := by rw [hst]; exact if_neg (by decide)
        have g4 : seenL (b.seen.take (j + 1)) 4 = seenL (b.seen.take j) 4 := by rw [hst]; exact if_neg (by decide)
        have g5 : seenL (b.seen.take (j + 1)) 5 = seenL (b.seen.take j) 5 &&& v := by rw [hst]; exact if_pos rfl
        simp only [go_sem, Nat.reduceBEq, Nat.reduceAdd, Nat.reduceLeDiff, hiad, putCells, Int.cast_ofNat_Int, ia6_5, hand, wrap_succ (k := j) (by omega)]
        exact ⟨⟨j + 1, hj2, trivial⟩, by simp only; omega, by simp [Wk, wkT, wkL, look, AV.lo, AV.lo.loL, ABlk.toZ, g0, g1, g2, g3, g4, g5]⟩
    · have hjn : j = b.seen.length := by omega
      subst hjn
      rw [List.take_length]
      simp only [go_sem, List.length_map]
      refine loop_kl b.makers.length (fun _ => True) [3, 43, 44] (fun m => [(45, .p (pi m))]) (fun m => [.cells ((bookC k k2 b).map .p), if m < b.makers.length then .mp ((ownE b).take (m * nK b)) else .mpz (ownE b), .cells [.p (.sl k 1 (rowsC b.makers)), .p (.sl k2 2 (seenC b.seen)), .p (pi b.repairs), .p (pi b.fixed), .p (pi (seenN b 0)), .p (pi (seenN b 1)), .p (pi (seenN b 2)), .p (pi (seenN b 3)), .p (pi (seenN b 4)), .p (pi (seenN b 5)), .mpl 1]]) trivial (by rw [if_pos (show 0 < b.makers.length by omega)]; simp [Wk, wkT, wkL, look, AV.lo, AV.lo.loL, ABlk.toZ, upS_eq, keepS_nil, keepS_cons, seenN]) ?_
      rintro m ⟨hm, -⟩
      simp only [go_sem, Nat.reduceBEq]
      refine ⟨fun d5 => ?_, fun d5 => ?_⟩
      · have hm2 : m < b.makers.length := by omega
        have hrow : b.makers[m].length = nK b := (h3 _ (List.getElem_mem hm2)).1
        rw [if_pos hm2]
        simp only [go_sem, Nat.reduceBEq, iadr_map (f := fun h => [pis h]) (kd := k) (sz := 1) hm2, List.length_map, hrow]
        refine loop_kl (nK b) (fun _ => True) [3, 6, 43, 44, 45, 50, 51] (fun q => [(52, .p (pi q))]) (fun q => [.cells ((bookC k k2 b).map .p), .mp ((ownE b).take (m * nK b + q)), .cells [.p (.sl k 1 (rowsC b.makers)), .p (.sl k2 2 (seenC b.seen)), .p (pi b.repairs), .p (pi b.fixed), .p (pi (seenN b 0)), .p (pi (seenN b 1)), .p (pi (seenN b 2)), .p (pi (seenN b 3)), .p (pi (seenN b 4)), .p (pi (seenN b 5)), .mpl 1]]) trivial (by simp [Wk, wkT, wkL, look, AV.lo, AV.lo.loL, ABlk.toZ, upS_eq, keepS_nil, keepS_cons]) ?_
        rintro q ⟨hq, -⟩
        simp only [go_sem, Nat.reduceBEq]
        refine ⟨fun e5 => ?_, fun e5 => ?_⟩
        · have hq2 : q < nK b := by omega
          have hql : q < b.makers[m].length := by omega
          have hiw : m * nK b + q < (worksL b).length := by
            rw [hwl]
            have : (m + 1) * nK b ≤ b.makers.length * nK b := Nat.mul_le_mul_right _ hm2
            rw [Nat.add_mul] at this
            omega
          have hv : (worksL b)[m * nK b + q] = (m, q) := by
            simp only [worksL, List.getElem_map, List.getElem_range]
            rw [Nat.mul_comm, Nat.mul_add_div (by omega), Nat.div_eq_of_lt hq2, Nat.add_zero, Nat.mul_add_mod, Nat.mod_eq_of_lt hq2]
          have hput := own_put hiw hv
          obtain ⟨k1, k2', k3⟩ := okC.mk ⟨h1, h2, h3, h4, h5⟩ hm2 hq2
          have hval := mk_get hm2 hql
          rw [k3] at hval
          have hand : binS false .and (.p (pi (mkN b m q : Nat))) (.p (pi (seenN b q : Nat))) = some (.p (pi (ownN b m q : Nat))) := bin_andN (by omega) (by have := seen_le b q; omega)
          have hiad := iadr_pis (kd := .sh) hql
          rw [hval] at hiad
          rcases lt6 (show q < 6 by omega) with rfl | rfl | rfl | rfl | rfl | rfl
          · simp only [go_sem, Nat.reduceBEq, Nat.reduceAdd, Nat.reduceLeDiff, hiad, putCells, ia6 (i := 0) (by decide), Nat.reduceAdd, hand, wrap_succ (k := 0) (by omega)]
            exact ⟨_, hput, ⟨1, hq2, trivial⟩, by simp only; omega, by simp [Wk, wkT, wkL, look, AV.lo, AV.lo.loL, ABlk.toZ]⟩
          · simp only [go_sem, Nat.reduceBEq, Nat.reduceAdd, Nat.reduceLeDiff, hiad, putCells, ia6 (i := 1) (by decide), Nat.reduceAdd, hand, wrap_succ (k := 1) (by omega)]
            exact ⟨_, hput, ⟨2, hq2, trivial⟩, by simp only; omega, by simp [Wk, wkT, wkL, look, AV.lo, AV.lo.loL, ABlk.toZ, Nat.add_assoc]⟩
          · simp only [go_sem, Nat.reduceBEq, Nat.reduceAdd, Nat.reduceLeDiff, hiad, putCells, ia6 (i := 2) (by decide), Nat.reduceAdd, hand, wrap_succ (k := 2) (by omega)]
            exact ⟨_, hput, ⟨3, hq2, trivial⟩, by simp only; omega, by simp [Wk, wkT, wkL, look, AV.lo, AV.lo.loL, ABlk.toZ, Nat.add_assoc]⟩
          · simp only [go_sem, Nat.reduceBEq, Nat.reduceAdd, Nat.reduceLeDiff, hiad, putCells, ia6 (i := 3) (by decide), Nat.reduceAdd, hand, wrap_succ (k := 3) (by omega)]
            exact ⟨_, hput, ⟨4, hq2, trivial⟩, by simp only; omega, by simp [Wk, wkT, wkL, look, AV.lo, AV.lo.loL, ABlk.toZ, Nat.add_assoc]⟩
          · simp only [go_sem, Nat.reduceBEq, Nat.reduceAdd, Nat.reduceLeDiff, hiad, putCells, ia6 (i := 4) (by decide), Nat.reduceAdd, hand, wrap_succ (k := 4) (by omega)]
            exact ⟨_, hput, ⟨5, hq2, trivial⟩, by simp only; omega, by simp [Wk, wkT, wkL, look, AV.lo, AV.lo.loL, ABlk.toZ, Nat.add_assoc]⟩
          · simp only [go_sem, Nat.reduceBEq, Nat.reduceAdd, Nat.reduceLeDiff, hiad, putCells, ia6 (i := 5) (by decide), Nat.reduceAdd, hand, wrap_succ (k := 5) (by omega)]
            exact ⟨_, hput, ⟨6, hq2, trivial⟩, by simp only; omega, by simp [Wk, wkT, wkL, look, AV.lo, AV.lo.loL, ABlk.toZ, Nat.add_assoc]⟩
        · have hqn : q = nK b := by omega
          simp only [go_sem, wrap_succ (k := m) (by omega)]
          refine ⟨⟨m + 1, hm2, trivial⟩, by simp only; omega, ?_⟩
          have e1 : m * nK b + q = (m + 1) * nK b := by rw [hqn, Nat.add_mul]; omega
          rw [e1]
          by_cases hlast : m + 1 < b.makers.length
          · simp only [if_pos hlast]
            simp [Wk, wkT, wkL, look, AV.lo, AV.lo.loL, ABlk.toZ]
          · simp only [if_neg hlast]
            have e2 : (ownE b).take ((m + 1) * nK b) = ownE b := List.take_of_length_le (by rw [hEl, hwl, show m + 1 = b.makers.length by omega]; exact Nat.le_refl _)
            rw [e2]
            simp [Wk, wkT, wkL, look, AV.lo, AV.lo.loL, ABlk.toZ]
      · have hmn : m = b.makers.length := by omega
        subst hmn
        rw [if_neg (Nat.lt_irrefl _)]
        exact retQ_pur rfl rfl (PVle.refl _) rfl
  )
end Go.Proofs.YtlbolnlcncjijaaGreat.Mk
namespace Go.Proofs.YtlbolnlcncjijaaGreat.Mk
open Go.RowKit Ls
def ac103 : AC := (AC.seq (AC.ops [(AOp.mk (some 2) (AK.mv (AX.c (PV.val (Value.int IntKind.i64 0)))) none 0 false true)]) (AC.seq (AC.cond (AX.c (PV.val (Value.bool false))) (AC.seq (AC.ops [(AOp.mk (some 3) (AK.mv (AX.t 0)) none 0 false true), (AOp.mk (some 4) (AK.conv IntKind.u32 (AX.t 3)) none 1 false true), (AOp.mk (some 5) (AK.call 106 [(AX.t 4)]) none 2 false true), (AOp.mk (some 2) (AK.mv (AX.t 5)) none 3 false true)]) AC.ret) AC.skip) (AC.seq (AC.ops [(AOp.mk (some 6) (AK.mv (AX.t 0)) none 0 false true), (AOp.mk (some 7) (AK.call 107 [(AX.t 6)]) none 1 false true), (AOp.mk (some 2) (AK.mv (AX.t 7)) none 2 false true)]) AC.ret)))
theorem ac103_ok : cCode Tryz.prog (fun _ => false) Tryz.f103.ntmps (Tryz.f103.body.getD .skip) = some ac103 := by kernel_rfl
def ac107 : AC := (AC.seq (AC.ops [(AOp.mk (some 2) (AK.mv (AX.c (PV.val (Value.int IntKind.i64 0)))) none 0 false true)]) (AC.seq (AC.ops [(AOp.mk (some 3) (AK.mv (AX.t 0)) none 0 false true), (AOp.mk (some 4) (AK.bin false BinOp.shr (AX.t 3) (AX.c (PV.val (Value.int IntKind.u64 1)))) none 1 false true), (AOp.mk (some 5) (AK.bin false BinOp.and (AX.t 4) (AX.c (PV.val (Value.int IntKind.u64 6148914691236517205)))) none 2 false true), (AOp.mk (some 6) (AK.mv (AX.t 0)) none 3 false true), (AOp.mk (some 7) (AK.bin false BinOp.and (AX.t 6) (AX.c (PV.val (Value.int IntKind.u64 6148914691236517205)))) none 4 false true), (AOp.mk (some 8) (AK.bin false BinOp.add (AX.t 5) (AX.t 7)) none 5 false true), (AOp.mk (some 0) (AK.mv (AX.t 8)) none 6 false true)]) (AC.seq (AC.ops [(AOp.mk (some 9) (AK.mv (AX.t 0)) none 0 false true), (AOp.mk (some 10) (AK.bin false BinOp.shr (AX.t 9) (AX.c (PV.val (Value.int IntKind.u64 2)))) none 1 false true), (AOp.mk (some 11) (AK.bin false BinOp.and (AX.t 10) (AX.c (PV.val (Value.int IntKind.u64 3689348814741910323)))) none 2 false true), (AOp.mk (some 12) (AK.mv (AX.t 0)) none 3 false true), (AOp.mk (some 13) (AK.bin false BinOp.and (AX.t 12) (AX.c (PV.val (Value.int IntKind.u64 3689348814741910323)))) none 4 false true), (AOp.mk (some 14) (AK.bin false BinOp.add (AX.t 11) (AX.t 13)) none 5 false true), (AOp.mk (some 0) (AK.mv (AX.t 14)) none 6 false true)]) (AC.seq (AC.ops [(AOp.mk (some 15) (AK.mv (AX.t 0)) none 0 false true), (AOp.mk (some 16) (AK.bin false BinOp.shr (AX.t 15) (AX.c (PV.val (Value.int IntKind.u64 4)))) none 1 false true), (AOp.mk (some 17) (AK.mv (AX.t 0)) none 2 false true), (AOp.mk (some 18) (AK.bin false BinOp.add (AX.t 16) (AX.t 17)) none 3 false true), (AOp.mk (some 19) (AK.bin false BinOp.and (AX.t 18) (AX.c (PV.val (Value.int IntKind.u64 1085102592571150095)))) none 4 false true), (AOp.mk (some 0) (AK.mv (AX.t 19)) none 5 false true)]) (AC.seq (AC.ops [(AOp.mk (some 20) (AK.mv (AX.t 0)) none 0 false true), (AOp.mk (some 21) (AK.mv (AX.t 0)) none 1 false true), (AOp.mk (some 22) (AK.bin false BinOp.shr (AX.t 21) (AX.c (PV.val (Value.int IntKind.u64 8)))) none 2 false true), (AOp.mk (some 23) (AK.bin false BinOp.add (AX.t 20) (AX.t 22)) none 3 false true), (AOp.mk (some 0) (AK.mv (AX.t 23)) none 4 false true)]) (AC.seq (AC.ops [(AOp.mk (some 24) (AK.mv (AX.t 0)) none 0 false true), (AOp.mk (some 25) (AK.mv (AX.t 0)) none 1 false true), (AOp.mk (some 26) (AK.bin false BinOp.shr (AX.t 25) (AX.c (PV.val (Value.int IntKind.u64 16)))) none 2 false true), (AOp.mk (some 27) (AK.bin false BinOp.add (AX.t 24) (AX.t 26)) none 3 false true), (AOp.mk (some 0) (AK.mv (AX.t 27)) none 4 false true)]) (AC.seq (AC.ops [(AOp.mk (some 28) (AK.mv (AX.t 0)) none 0 false true), (AOp.mk (some 29) (AK.mv (AX.t 0)) none 1 false true), (AOp.mk (some 30) (AK.bin false BinOp.shr (AX.t 29) (AX.c (PV.val (Value.int IntKind.u64 32)))) none 2 false true), (AOp.mk (some 31) (AK.bin false BinOp.add (AX.t 28) (AX.t 30)) none 3 false true), (AOp.mk (some 0) (AK.mv (AX.t 31)) none 4 false true)]) (AC.seq (AC.ops [(AOp.mk (some 32) (AK.mv (AX.t 0)) none 0 false true), (AOp.mk (some 33) (AK.conv IntKind.i64 (AX.t 32)) none 1 false true), (AOp.mk (some 34) (AK.bin false BinOp.and (AX.t 33) (AX.c (PV.val (Value.int IntKind.i64 127)))) none 2 false true), (AOp.mk (some 2) (AK.mv (AX.t 34)) none 3 false true)]) AC.ret))))))))
theorem ac107_ok : cCode Tryz.prog (fun _ => false) Tryz.f107.ntmps (Tryz.f107.body.getD .skip) = some ac107 := by kernel_rfl
theorem Ones64_sem {c : Nat} (hc : c < 64) : Sem1 107 [.val (.int .u64 c)] (pi (cntN c 6 : Nat)) := by
  refine semC_of_exec' mixed Tryz.func107 (by kernel_rfl) (by kernel_rfl) ac107_ok 1 rfl (by decide) [(.tmp 2)] (by kernel_rfl) ?_
  intro hr C hC hI
  unfold ac107
  simp only [go_sem, Nat.reduceBEq, bin_shr (show ¬ (1 : Int) < 0 by decide), bin_shr (show ¬ (2 : Int) < 0 by decide), bin_shr (show ¬ (4 : Int) < 0 by decide), bin_shr (show ¬ (8 : Int) < 0 by decide), bin_shr (show ¬ (16 : Int) < 0 by decide), bin_shr (show ¬ (32 : Int) < 0 by decide), bin_and, bin_add, convS_int]
  refine retQ_one rfl (congrArg pi ?_)
  obtain ⟨i, rfl⟩ : ∃ i : Fin 64, c = i.val := ⟨⟨c, hc⟩, rfl⟩
  clear hC hI hr
  revert i
  decide +kernel
def ac88 : AC := (AC.seq (AC.ops [(AOp.mk (some 6) (AK.new (PV.agg [(PV.val (Value.int IntKind.i64 0)), (PV.sl SK.full 0 []), (PV.val (Value.int IntKind.i64 0)), (PV.val (Value.int IntKind.i64 0)), (PV.val (Value.int IntKind.i64 0)), (PV.val (Value.int IntKind.i64 0)), (PV.val (Value.int IntKind.i64 0)), (PV.val (Value.int IntKind.i64 0))])) none 0 false true), (AOp.mk (some 7) (AK.mv (AX.c (PV.val (Value.bool false)))) none 1 false true)]) (AC.seq (AC.seq (AC.ops [(AOp.mk (some 10) (AK.mv (AX.t 2)) none 0 true false), (AOp.mk (some 11) (AK.mv (AX.t 0)) none 1 true true), (AOp.mk (some 12) (AK.call 86 [(AX.t 11)]) none 2 false true), (AOp.mk (some 13) (AK.bin false BinOp.and (AX.t 10) (AX.t 12)) none 3 true true), (AOp.mk (some 14) (AK.bin false BinOp.neq (AX.t 13) (AX.c (PV.val (Value.int IntKind.i64 0)))) none 4 true true), (AOp.mk (some 15) (AK.mv (AX.t 14)) none 5 true true), (AOp.mk (some 16) (AK.mv (AX.t 2)) (some (15, false)) 6 true false), (AOp.mk (some 17) (AK.conv IntKind.u64 (AX.t 16)) (some (15, false)) 7 true false), (AOp.mk (some 19) (AK.mv (AX.t 0)) (some (15, false)) 9 true false), (AOp.mk (some 20) (AK.nilc (AX.t 19)) (some (15, false)) 10 true false), (AOp.mk (some 21) (AK.fadr 0 (AX.t 20)) (some (15, false)) 11 true false), (AOp.mk (some 22) (AK.fadr 2 (AX.t 21)) (some (15, false)) 12 true false), (AOp.mk (some 23) (AK.ld none (AX.t 22)) (some (15, false)) 13 true false), (AOp.mk (some 18) (AK.call 103 [(AX.t 17)]) (some (15, false)) 8 false false), (AOp.mk (some 24) (AK.bin false BinOp.gtr (AX.t 18) (AX.t 23)) (some (15, false)) 14 true true), (AOp.mk (some 25) (AK.pick (AX.t 15) (AX.c (PV.val (Value.bool true))) (AX.t 24)) none 15 true true)]) (AC.cond (AX.t 25) (AC.seq (AC.ops [(AOp.mk (some 26) (AK.build [(PV.val (Value.int IntKind.i64 0)), (PV.sl SK.full 0 []), (PV.val (Value.int IntKind.i64 0)), (PV.val (Value.int IntKind.i64 0)), (PV.val (Value.int IntKind.i64 0)), (PV.val (Value.int IntKind.i64 0)), (PV.val (Value.int IntKind.i64 0)), (PV.val (Value.int IntKind.i64 0))] []) none 0 false true), (AOp.mk none (AK.st 8 (AX.t 6) (AX.t 26)) none 1 false true), (AOp.mk (some 7) (AK.mv (AX.c (PV.val (Value.bool false)))) none 2 false true)]) AC.ret) AC.skip)) (AC.seq (AC.ops [(AOp.mk (some 27) (AK.mv (AX.t 1)) none 0 false true), (AOp.mk (some 28) (AK.mv (AX.t 0)) none 1 false true), (AOp.mk (some 29) (AK.nilc (AX.t 28)) none 2 false true), (AOp.mk (some 30) (AK.fadr 4 (AX.t 29)) none 3 false true), (AOp.mk (some 31) (AK.ld (some 6) (AX.t 30)) none 4 false true), (AOp.mk (some 32) (AK.build [(PV.val (Value.int IntKind.i64 0)), (PV.sl SK.full 0 []), (PV.val (Value.int IntKind.i64 0)), (PV.val (Value.int IntKind.i64 0)), (PV.val (Value.int IntKind.i64 0)), (PV.val (Value.int IntKind.i64 0)), (PV.val (Value.int IntKind.i64 0)), (PV.val (Value.int IntKind.i64 0))] [(0, (1, (AX.t 27))), (2, (6, (AX.t 31)))]) none 5 false true), (AOp.mk none (AK.st 8 (AX.t 6) (AX.t 32)) none 6 false true)]) (AC.seq (AC.seq (AC.ops [(AOp.mk (some 33) (AK.mv (AX.t 0)) none 0 false true), (AOp.mk (some 34) (AK.call 85 [(AX.t 33)]) none 1 false true), (AOp.mk (some 35) (AK.mv (AX.c (PV.val (Value.int IntKind.i64 0)))) none 2 false true)]) (AC.block 0 (AC.loop (AC.seq (AC.ops [(AOp.mk (some 36) (AK.bin false BinOp.lss (AX.t 35) (AX.t 34)) none 0 false true)]) (AC.seq (AC.cond (AX.t 36) AC.skip (AC.exit 0)) (AC.seq (AC.block 1 (AC.seq (AC.ops [(AOp.mk (some 37) (AK.mv (AX.t 35)) none 0 false true), (AOp.mk (some 8) (AK.mv (AX.t 37)) none 1 false true)]) (AC.seq (AC.ops [(AOp.mk (some 38) (AK.mv (AX.t 1)) none 0 false true), (AOp.mk (some 39) (AK.mv (AX.t 8)) none 1 false true), (AOp.mk (some 40) (AK.build [(PV.val (Value.int IntKind.i64 0)), (PV.val (Value.int IntKind.i64 0))] [(0, (1, (AX.t 38))), (1, (1, (AX.t 39)))]) none 2 false true), (AOp.mk (some 9) (AK.new (PV.agg [(PV.val (Value.int IntKind.i64 0)), (PV.val (Value.int IntKind.i64 0))])) none 3 false true), (AOp.mk none (AK.st 2 (AX.t 9) (AX.t 40)) none 4 false true)]) (AC.seq (AC.ops [(AOp.mk (some 41) (AK.mv (AX.t 2)) none 0 false true), (AOp.mk (some 42) (AK.mv (AX.t 8)) none 1 false true), (AOp.mk (some 43) (AK.call 87 [(AX.t 41), (AX.t 42)]) none 2 false true)]) (AC.cond (AX.t 43) (AC.ops [(AOp.mk (some 44) (AK.fadr 1 (AX.t 6)) none 0 false true), (AOp.mk (some 45) (AK.ld none (AX.t 44)) none 1 false true), (AOp.mk (some 46) (AK.ld (some 2) (AX.t 9)) none 2 false true), (AOp.mk (some 47) (AK.bslice false 137 2 1 [(PV.val (Value.int IntKind.i64 0)), (PV.val (Value.int IntKind.i64 0))] [(0, (2, (AX.t 46)))]) none 3 false true), (AOp.mk (some 48) (AK.app false 137 2 16 [(PV.val (Value.int IntKind.i64 0)), (PV.val (Value.int IntKind.i64 0))] (AX.t 45) (AX.t 47)) none 4 false true), (AOp.mk (some 49) (AK.fadr 1 (AX.t 6)) none 5 false true), (AOp.mk none (AK.st 1 (AX.t 49) (AX.t 48)) none 6 false true)]) (AC.ops [(AOp.mk (some 50) (AK.mv (AX.t 8)) none 0 true false), (AOp.mk (some 51) (AK.mv (AX.t 0)) none 1 true false), (AOp.mk (some 52) (AK.nilc (AX.t 51)) none 2 true false), (AOp.mk (some 53) (AK.fadr 10 (AX.t 52)) none 3 true false), (AOp.mk (some 54) (AK.ld none (AX.t 53)) none 4 true false), (AOp.mk (some 55) (AK.ld (some 2) (AX.t 9)) none 5 true false), (AOp.mk (some 56) (AK.lkp [CK.i, CK.i] true (PV.val (Value.int IntKind.i64 0)) false (AX.t 54) (AX.t 55)) none 6 true false), (AOp.mk (some 57) (AK.fadr 2 (AX.t 6)) none 7 true false), (AOp.mk (some 58) (AK.iadrA 1 6 (AX.t 57) (AX.t 50)) none 8 true true), (AOp.mk none (AK.st 1 (AX.t 58) (AX.t 56)) none 9 false true)])))))) (AC.ops [(AOp.mk (some 59) (AK.bin false BinOp.add (AX.t 35) (AX.c (PV.val (Value.int IntKind.i64 1)))) none 0 false true), (AOp.mk (some 35) (AK.mv (AX.t 59)) none 1 false true)]))))))) (AC.seq (AC.ops [(AOp.mk (some 60) (AK.ld (some 8) (AX.t 6)) none 0 true false), (AOp.mk (some 61) (AK.fadr 2 (AX.t 6)) none 1 true false), (AOp.mk (some 62) (AK.ld (some 6) (AX.t 61)) none 2 true false), (AOp.mk (some 63) (AK.call 52 [(AX.t 62)]) none 3 false false), (AOp.mk (some 64) (AK.un UnOp.not (AX.t 63)) none 4 true false), (AOp.mk none (AK.st 8 (AX.t 6) (AX.t 60)) none 5 false true), (AOp.mk (some 7) (AK.mv (AX.t 64)) none 6 true true)]) AC.ret)))))
theorem ac88_ok : cCode Tryz.prog (fun _ => false) Tryz.f88.ntmps (Tryz.f88.body.getD .skip) = some ac88 := by kernel_rfl
theorem retQ_ct_le {P : Program} {t t' : Nat} {ty : TypeId} {n : Option Nat} {Q : PV → Prop} {s : AS} {x y x' : PV} (hs : shapeN P ty = some n) (h : stillV s (.ld n (.t t)) = some (.p x)) (h' : look s.t t' = .p y) (hle : PVle x x') (hQ : Q (.tup [x', y])) : retQ P [.cell t ty, .tmp t'] Q s :=
  ⟨[.p x, .p y], [x, y], s.loc, .tup [x', y], by simp [resA, hs, h, h'], rfl, PVle.tup (show PVleL [x, y] [x', y] from ⟨hle, PVle.refl _, trivial⟩), hQ⟩
theorem Ones_sem {c : Nat} (hc : c < 64) : Sem1 103 [.val (.int .u64 c)] (pi (cntN c 6 : Nat)) := by
  refine semC_of_exec' mixed Tryz.func103 (by kernel_rfl) (by kernel_rfl) ac103_ok 1 rfl (by decide) [(.tmp 2)] (by kernel_rfl) ?_
  intro hr C hC hI
  unfold ac103
  simp only [go_sem, Nat.reduceBEq]
  refine call_pure2 hC (Ones64_sem hc) rfl (PVleL_refl _) ?_
  rintro r rfl
  simp only [go_sem, Nat.reduceBEq]
  exact retQ_one rfl rfl
theorem cnt_six {c n : Nat} (hn : n ≤ 6) (hc : c < 2 ^ n) : cntN c 6 = cntN c n := by
  unfold cntN
  rw [show (6 : Nat) = n + (6 - n) by omega, List.range_add, List.filter_append]
  have : ((List.range (6 - n)).map (n + ·)).filter c.testBit = [] := by
    rw [List.filter_eq_nil_iff]
    intro k hk
    obtain ⟨q, -, rfl⟩ := List.mem_map.1 hk
    rw [Nat.testBit_lt_two_pow (Nat.lt_of_lt_of_le hc (Nat.pow_le_pow_right (by decide) (by omega)))]
    decide
  rw [this, List.append_nil]
def valA (b : MBook) (m c k : Nat) : Nat := if k < nK b then valN b m c k else 31
def chg (c j : Nat) : List Nat := (List.range j).filter c.testBit
def worksR (m : Nat) (l : List Nat) : List (List PV) := l.map fun (k : Nat) => [pi m, pi k]
def truthC (b : MBook) (m c : Nat) : List PV := [pi m, .sl .sh 2 (worksR m (chg c (nK b))), pi (valA b m c 0), pi (valA b m c 1), pi (valA b m c 2), pi (valA b m c 3), pi (valA b m c 4), pi (valA b m c 5)]
def TruthQ (b : MBook) (m c : Nat) (r : PV) : Prop := (truthB b m c = true ∧ r = .tup [.agg (truthC b m c), pb true]) ∨ (truthB b m c = false ∧ ∃ x0 x1 x2 x3 x4 x5 x6 x7, r = .tup [.agg [x0, x1, x2, x3, x4, x5, x6, x7], pb false])
theorem chg_next (m c j : Nat) : worksR m (chg c (j + 1)) = worksR m (chg c j) ++ if c.testBit j then [[pi m, pi j]] else [] := by
  unfold worksR chg
  rw [List.range_succ, List.filter_append, List.map_append]
  congr 1
  simp only [List.filter_cons, List.filter_nil]
  split <;> rfl
theorem valA_le (b : MBook) (m c k : Nat) : valA b m c k ≤ 31 := by
  unfold valA
  split
  · exact val_le b m c k
  · omega
theorem lack_val {b : MBook} (h6 : nK b ≤ 6) (m c : Nat) : lackB (valA b m c) = !((List.range (nK b)).all fun k => decide (valN b m c k ≠ 0)) := by
  rw [Bool.eq_iff_iff, lack_iff, Bool.not_eq_true', Bool.eq_false_iff, Ne, List.all_eq_true]
  constructor
  · rintro ⟨k, hk, h⟩ H
    unfold valA at h
    split at h
    · rename_i hkn
      have := H k (List.mem_range.2 hkn)
      rw [h] at this
      simp at this
    · cases h
  · intro H
    refine Classical.byContradiction fun hn => H fun k hk => ?_
    have hk := List.mem_range.1 hk
    rw [decide_eq_true_eq]
    intro h0
    exact hn ⟨k, by omega, by unfold valA; rw [if_pos hk, h0]⟩
def gV (b : MBook) (m c j q : Nat) : Nat := if q < j then valA b m c q else seenN b q
set_option maxRecDepth 100000 in
theorem truth_sem (k k2 : SK) {b : MBook} (ho : okC b) {m c : Nat} (hm : m < b.makers.length) (hc : c < 2 ^ nK b) : SemC Tryz.prog 88 [bookP k k2 b, pi m, pi c] (TruthQ b m c) := by
  obtain ⟨h1, h2, h3, h4, h5⟩ := ho
  have h64 := pow_le64 ⟨h1, h2, h3, h4, h5⟩
  obtain ⟨hfx, hfl⟩ := okC.fix ⟨h1, h2, h3, h4, h5⟩
  have hand : binS false .and (.p (pi (c : Nat))) (.p (pi b.fixed)) = some (.p (pi ((c &&& fixN b : Nat) : Int))) := by
    rw [hfx]
    exact bin_andN (by omega) (by omega)
  have hwr : IntKind.u64.wrap (c : Int) = c := by
    obtain ⟨i, rfl⟩ : ∃ i : Fin 64, c = i.val := ⟨⟨c, by omega⟩, rfl⟩
    clear hc hand
    revert i
    decide
  have hcs := cnt_six (by omega) hc
  by_cases d1 : c &&& fixN b = 0
  rotate_left
  · have hf : truthB b m c = false := by unfold truthB; rw [decide_eq_false d1]; rfl
    refine semC_of_exec' mixed Tryz.func88 (by kernel_rfl) (by kernel_rfl) ac88_ok 3 rfl (by decide) [(.cell 6 120), (.tmp 7)] (by kernel_rfl) ?_
    intro hr C hC hI
    unfold ac88
    simp only [go_sem, Nat.reduceBEq, Nat.reduceAdd]
    refine call_pure2 hC (fixed_sem k k2 b _) rfl (PVleL_refl _) ?_
    rintro r rfl
    simp only [go_sem, Nat.reduceBEq, Nat.reduceAdd, hand, eq_true (show ¬ ((c &&& fixN b : Nat) : Int) = 0 by omega), decide_true, not_false_eq_true, putCells]
    exact retQ_ct (n := some 8) (by kernel_rfl) rfl rfl (.inr ⟨hf, _, _, _, _, _, _, _, _, rfl⟩)
  by_cases d2 : b.repairs < (cntN c (nK b) : Int)
  · have hf : truthB b m c = false := by unfold truthB; rw [decide_eq_false (show ¬ (cntN c (nK b) : Int) ≤ b.repairs by omega)]; simp
    refine semC_of_exec' mixed Tryz.func88 (by kernel_rfl) (by kernel_rfl) ac88_ok 3 rfl (by decide) [(.cell 6 120), (.tmp 7)] (by kernel_rfl) ?_
    intro hr C hC hI
    unfold ac88
    simp only [go_sem, Nat.reduceBEq, Nat.reduceAdd]
    refine call_pure2 hC (fixed_sem k k2 b _) rfl (PVleL_refl _) ?_
    rintro r rfl
    simp only [go_sem, Nat.reduceBEq, hand, d1, Int.natCast_zero, convS_int, hwr, decide_false, not_true_eq_false, Bool.false_eq_true]
    refine call_pure2 hC (Ones_sem (show c < 64 by omega)) rfl (PVleL_refl _) ?_
    rintro r rfl
    simp only [go_sem, Nat.reduceBEq, Nat.reduceAdd, hcs, eq_true d2, decide_true, not_false_eq_true, putCells]
    exact retQ_ct (n := some 8) (by kernel_rfl) rfl rfl (.inr ⟨hf, _, _, _, _, _, _, _, _, rfl⟩)
  have hlack := lack_val (b := b) (by omega) m c
  have htr : truthB b m c = !lackB (valA b m c) := by
    unfold truthB
    rw [decide_eq_true d1, decide_eq_true (show (cntN c (nK b) : Int) ≤ b.repairs by omega), hlack, Bool.not_not]
    rfl
  refine semC_of_exec' mixed Tryz.func88 (by kernel_rfl) (by kernel_rfl) ac88_ok 3 rfl (by decide) [(.cell 6 120), (.tmp 7)] (by kernel_rfl) ?_
  intro hr C hC hI
  unfold ac88
  simp only [go_sem, Nat.reduceBEq, Nat.reduceAdd]
  refine call_pure2 hC (fixed_sem k k2 b _) rfl (PVleL_refl _) ?_
  rintro r rfl
  simp only [go_sem, Nat.reduceBEq, hand, d1, Int.natCast_zero, convS_int, hwr, decide_false, not_true_eq_false, Bool.false_eq_true]
  refine call_pure2 hC (Ones_sem (show c < 64 by omega)) rfl (PVleL_refl _) ?_
  rintro r rfl
  simp only [go_sem, Nat.reduceBEq, Nat.reduceAdd, Nat.reduceLeDiff, hcs, eq_false d2, decide_false, not_false_eq_true, putCells]
  refine call_pure2 hC (kinds_sem k k2 b _) rfl (PVleL_refl _) ?_
  rintro r rfl
  simp only [go_sem]
  refine loop_g (α := Nat × Option Nat) (fun a => a.1 ≤ nK b ∧ (a.2 = none → worksR m (chg c a.1) = [])) (fun a => nK b - a.1) [0, 1, 2, 6, 34] (fun a => [(35, .p (pi a.1))]) (fun a => [.cells [.p (pi m), .p (slZ 137 2 a.2 (worksR m (chg c a.1))), .p (pi (gV b m c a.1 0 : Nat)), .p (pi (gV b m c a.1 1 : Nat)), .p (pi (gV b m c a.1 2 : Nat)), .p (pi (gV b m c a.1 3 : Nat)), .p (pi (gV b m c a.1 4 : Nat)), .p (pi (gV b m c a.1 5 : Nat))]]) (fun a => a.2.toList) (0, none) ⟨by omega, fun _ => rfl⟩ (by simp [Wk, wkT, wkL, look, AV.lo, AV.lo.loL, ABlk.toZ, upS_eq, keepS_nil, keepS_cons, slZ, gV]) ?_
  rintro ⟨j, o⟩ ⟨hj, h0⟩
  replace hj : j ≤ nK b := hj
  replace h0 : o = none → worksR m (chg c j) = [] := h0
  have hnx := chg_next m c j
  have hwl : (worksR m (chg c j)).length ≤ 999999 := by
    unfold worksR chg
    rw [List.length_map]
    exact Nat.le_trans (List.length_filter_le ..) (by rw [List.length_range]; omega)
  simp only [go_sem, Nat.reduceBEq, Nat.reduceAdd, Nat.reduceLeDiff]
  refine ⟨fun c5 => ?_, fun c5 => ?_⟩
  · have hj2 : j < nK b := by omega
    have hlk := look_own hm hj2 (pi 0)
    have hoth : ∀ q, q ≠ j → gV b m c (j + 1) q = gV b m c j q := fun q hq => by
      unfold gV
      by_cases hlt : q < j
      · rw [if_pos hlt, if_pos (by omega)]
      · rw [if_neg hlt, if_neg (by omega)]
    have hat : gV b m c (j + 1) j = valN b m c j := by
      unfold gV valA
      rw [if_pos (by omega), if_pos hj2]
    have hat0 : gV b m c j j = seenN b j := by
      unfold gV
      rw [if_neg (by omega)]
    refine call_pure2 hC (has_sem c j (by omega)) rfl (PVleL_refl _) ?_
    rintro r rfl
    simp only [go_sem, Nat.reduceBEq]
    cases hb : c.testBit j
    · rw [hb, if_neg (by decide), List.append_nil] at hnx
      have hown : gV b m c (j + 1) j = ownN b m j := by
        rw [hat]
        unfold valN
        rw [hb, if_neg (by decide)]
      rcases lt6 (show j < 6 by omega) with rfl | rfl | rfl | rfl | rfl | rfl
      · have g0 := hown
        have g1 := hoth 1 (by decide)
        have g2 := hoth 2 (by decide)
        have g3 := hoth 3 (by decide)
        have g4 := hoth 4 (by decide)
        have g5 := hoth 5 (by decide)
        simp only [go_sem, Nat.reduceBEq, Nat.reduceAdd, Nat.reduceLeDiff, hlk, putCells, ia6 (i := 0) (by decide), Nat.reduceAdd, wrap_succ (k := 0) (by omega)]
        refine ⟨⟨(1, o), hj2, fun h => hnx.trans (h0 h)⟩, by simp only; omega, ?_⟩
        simp only [hnx, g0, g1, g2, g3, g4, g5]
        cases o <;> simp [Wk, wkT, wkL, look, AV.lo, AV.lo.loL, ABlk.toZ]
      · have g0 := hoth 0 (by decide)
        have g1 := hown
        have g2 := hoth 2 (by decide)
        have g3 := hoth 3 (by decide)
        have g4 := hoth 4 (by decide)
        have g5 := hoth 5 (by decide)
        simp only [go_sem, Nat.reduceBEq, Nat.reduceAdd, Nat.reduceLeDiff, hlk, putCells, ia6 (i := 1) (by decide), Nat.reduceAdd, wrap_succ (k := 1) (by omega)]
        refine ⟨⟨(2, o), hj2, fun h => hnx.trans (h0 h)⟩, by simp only; omega, ?_⟩
        simp only [hnx, g0, g1, g2, g3, g4, g5]
        cases o <;> simp [Wk, wkT, wkL, look, AV.lo, AV.lo.loL, ABlk.toZ]
      · have g0 := hoth 0 (by decide)
        have g1 := hoth 1 (by decide)
        have g2 := hown
        have g3 := hoth 3 (by decide)
        have g4 := hoth 4 (by decide)
        have g5 := hoth 5 (by decide)
        simp only [go_sem, Nat.reduceBEq, Nat.reduceAdd, Nat.reduceLeDiff, hlk, putCells, ia6 (i := 2) (by decide), Nat.reduceAdd, wrap_succ (k := 2) (by omega)]
        refine ⟨⟨(3, o), hj2, fun h => hnx.trans (h0 h)⟩, by simp only; omega, ?_⟩
        simp only [hnx, g0, g1, g2, g3, g4, g5]
        cases o <;> simp [Wk, wkT, wkL, look, AV.lo, AV.lo.loL, ABlk.toZ]
      · have g0 := hoth 0 (by decide)
        have g1 := hoth 1 (by decide)
        have g2 := hoth 2 (by decide)
        have g3 := hown
        have g4 := hoth 4 (by decide)
        have g5 := hoth 5 (by decide)
        simp only [go_sem, Nat.reduceBEq, Nat.reduceAdd, Nat.reduceLeDiff, hlk, putCells, ia6 (i := 3) (by decide), Nat.reduceAdd, wrap_succ (k := 3) (by omega)]
        refine ⟨⟨(4, o), hj2, fun h => hnx.trans (h0 h)⟩, by simp only; omega, ?_⟩
        simp only [hnx, g0, g1, g2, g3, g4, g5]
        cases o <;> simp [Wk, wkT, wkL, look, AV.lo, AV.lo.loL, ABlk.toZ]
      · have g0 := hoth 0 (by decide)
        have g1 := hoth 1 (by decide)
        have g2 := hoth 2 (by decide)
        have g3 := hoth 3 (by decide)
        have g4 := hown
        have g5 := hoth 5 (by decide)
        simp only [go_sem, Nat.reduceBEq, Nat.reduceAdd, Nat.reduceLeDiff, hlk, putCells, ia6 (i := 4) (by decide), Nat.reduceAdd, wrap_succ (k := 4) (by omega)]
        refine ⟨⟨(5, o), hj2, fun h => hnx.trans (h0 h)⟩, by simp only; omega, ?_⟩
        simp only [hnx, g0, g1, g2, g3, g4, g5]
        cases o <;> simp [Wk, wkT, wkL, look, AV.lo, AV.lo.loL, ABlk.toZ]
      · have g0 := hoth 0 (by decide)
        have g1 := hoth 1 (by decide)
        have g2 := hoth 2 (by decide)
        have g3 := hoth 3 (by decide)
        have g4 := hoth 4 (by decide)
        have g5 := hown
        simp only [go_sem, Nat.reduceBEq, Nat.reduceAdd, hlk, putCells, ia6 (i := 5) (by decide), Nat.reduceAdd, wrap_succ (k := 5) (by omega)]
        refine ⟨⟨(6, o), hj2, fun h => hnx.trans (h0 h)⟩, by simp only; omega, ?_⟩
        simp only [hnx, g0, g1, g2, g3, g4, g5]
        cases o <;> simp [Wk, wkT, wkL, look, AV.lo, AV.lo.loL, ABlk.toZ]
    · rw [hb, if_pos rfl] at hnx
      have hsame : ∀ q, gV b m c (j + 1) q = gV b m c j q := fun q => by
        by_cases e : q = j
        · rw [e, hat, hat0]
          unfold valN
          rw [hb, if_pos rfl]
        · exact hoth q e
      simp only [go_sem, Nat.reduceBEq, Nat.reduceAdd, putCells]
      refine app_slZ h0 hwl (by simp) fun tk htk => ?_
      simp only [go_sem, Nat.reduceBEq]
      refine ⟨.inl rfl, by simp, ?_⟩
      simp only [go_sem, Nat.reduceBEq, Nat.reduceAdd, wrap_succ (k := j) (by omega), putCells]
      refine ⟨⟨(j + 1, some tk), hj2, (fun h => by cases h)⟩, by simp only; omega, ?_⟩
      simp only [hnx, hsame]
      simp [Wk, wkT, wkL, look, AV.lo, AV.lo.loL, ABlk.toZ]
  · have hjn : j = nK b := by omega
    subst hjn
    have hge : ∀ q, q < 6 → gV b m c (nK b) q = valA b m c q := fun q _ => by
      unfold gV
      split
      · rfl
      · rename_i hq
        unfold valA
        rw [if_neg hq]
        exact seen_out ⟨h1, h2, h3, h4, h5⟩ (by omega)
    have g0 := hge 0 (by decide)
    have g1 := hge 1 (by decide)
    have g2 := hge 2 (by decide)
    have g3 := hge 3 (by decide)
    have g4 := hge 4 (by decide)
    have g5 := hge 5 (by decide)
    rw [g0, g1, g2, g3, g4, g5]
    refine call_pure2 hC (lacksSome_sem (valA b m c)) rfl (PVleL_refl _) ?_
    rintro r rfl
    simp only [go_sem, Nat.reduceBEq]
    cases hlb : lackB (valA b m c)
    · rw [hlb] at htr
      simp only [go_sem, Nat.reduceBEq, Nat.reduceAdd, putCells]
      refine retQ_ct_le (n := some 8) (by kernel_rfl) rfl rfl (PVle.agg ?_) (.inl ⟨htr, rfl⟩)
      exact ⟨PVle.refl _, slZ_le h0, PVleL.refl _⟩
    · rw [hlb] at htr
      simp only [go_sem, Nat.reduceBEq, Nat.reduceAdd, putCells]
      exact retQ_ct (n := some 8) (by kernel_rfl) rfl rfl (.inr ⟨htr, _, _, _, _, _, _, _, _, rfl⟩)
end Go.Proofs.YtlbolnlcncjijaaGreat.Mk
