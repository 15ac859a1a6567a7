/- Contracts of mend: a book in the calculation. Contracts of mend: for which bills a horse can be mended. Contracts of mend: the fewest coins. -/
import Derived.Test.YtlcpplkbmlmmbaaGreatOri07
import Derived.Test.YtlcpplkbmlmmbaaGreatOri06
namespace Go.Proofs.YtlcpplkbmlmmbaaGreat.Mk.Me
open Go.RowKit Ls
def ac121 : AC := (AC.seq (AC.ops [(AOp.mk (some 2) (AK.mv (AX.c (PV.val (Value.int IntKind.i64 0)))) none 0 false true)]) (AC.seq (AC.seq (AC.ops [(AOp.mk (some 5) (AK.mv (AX.t 0)) none 0 false true), (AOp.mk (some 6) (AK.nilc (AX.t 5)) none 1 false true), (AOp.mk (some 7) (AK.fadr 0 (AX.t 6)) none 2 false true), (AOp.mk (some 8) (AK.fadr 4 (AX.t 7)) none 3 false true), (AOp.mk (some 9) (AK.ld none (AX.t 8)) none 4 false true), (AOp.mk (some 10) (AK.len (AX.t 9)) none 5 false true), (AOp.mk (some 11) (AK.mv (AX.c (PV.val (Value.int IntKind.i64 0)))) none 6 false true)]) (AC.block 0 (AC.loop (AC.seq (AC.ops [(AOp.mk (some 12) (AK.bin false BinOp.lss (AX.t 11) (AX.t 10)) none 0 false true)]) (AC.seq (AC.cond (AX.t 12) AC.skip (AC.exit 0)) (AC.seq (AC.block 1 (AC.seq (AC.ops [(AOp.mk (some 13) (AK.iadrS 6 (AX.t 9) (AX.t 11)) none 0 false true), (AOp.mk (some 14) (AK.ld (some 6) (AX.t 13)) none 1 false true), (AOp.mk (some 4) (AK.new (PV.agg [(PV.val (Value.int IntKind.i64 0)), (PV.val (Value.int IntKind.i64 0)), (PV.val (Value.int IntKind.i64 0)), (PV.val (Value.int IntKind.i64 0)), (PV.val (Value.int IntKind.i64 0)), (PV.val (Value.int IntKind.i64 0))])) none 2 false true), (AOp.mk none (AK.st 6 (AX.t 4) (AX.t 14)) none 3 false true)]) (AC.ops [(AOp.mk (some 15) (AK.mv (AX.t 2)) none 0 false true), (AOp.mk (some 16) (AK.fadr 0 (AX.t 4)) none 1 false true), (AOp.mk (some 17) (AK.ld none (AX.t 16)) none 2 false true), (AOp.mk (some 18) (AK.call 162 [(AX.t 15), (AX.t 17)]) none 3 false true), (AOp.mk (some 2) (AK.mv (AX.t 18)) none 4 false true)]))) (AC.ops [(AOp.mk (some 19) (AK.bin false BinOp.add (AX.t 11) (AX.c (PV.val (Value.int IntKind.i64 1)))) none 0 false true), (AOp.mk (some 11) (AK.mv (AX.t 19)) none 1 false true)]))))))) (AC.seq (AC.ops [(AOp.mk (some 20) (AK.mv (AX.t 2)) none 0 false true), (AOp.mk (some 2) (AK.mv (AX.t 20)) none 1 false true)]) AC.ret)))
theorem ac121_ok : cCode Tryz.prog (fun _ => false) Tryz.f121.ntmps (Tryz.f121.body.getD .skip) = some ac121 := by kernel_rfl
def ac84 : AC := (AC.seq (AC.ops [(AOp.mk (some 2) (AK.box 8 (AX.t 0)) none 0 false true), (AOp.mk (some 4) (AK.mv (AX.c PV.nilp)) none 1 false true)]) (AC.seq (AC.ops [(AOp.mk (some 10) (AK.ld (some 8) (AX.t 2)) none 0 false true), (AOp.mk (some 11) (AK.build [(PV.sl SK.full 0 []), (PV.sl SK.full 0 []), (PV.val (Value.int IntKind.i64 0)), (PV.val (Value.int IntKind.i64 0)), (PV.sl SK.full 0 []), (PV.val (Value.int IntKind.i64 0)), (PV.sl SK.full 0 []), (PV.sl SK.full 0 []), (PV.sl SK.full 0 [])] [(0, (8, (AX.t 10)))]) none 1 false true), (AOp.mk (some 12) (AK.box 9 (AX.t 11)) none 2 false true), (AOp.mk (some 5) (AK.new PV.nilp) none 3 false true), (AOp.mk none (AK.st 1 (AX.t 5) (AX.t 12)) none 4 false true)]) (AC.seq (AC.ops [(AOp.mk (some 13) AK.mkm none 0 false true), (AOp.mk (some 6) (AK.new (PV.tup [PV.any])) none 1 false true), (AOp.mk none (AK.st 1 (AX.t 6) (AX.t 13)) none 2 false true)]) (AC.seq (AC.seq (AC.ops [(AOp.mk (some 14) (AK.mv (AX.t 1)) none 0 false true), (AOp.mk (some 15) (AK.len (AX.t 14)) none 1 false true), (AOp.mk (some 16) (AK.mv (AX.c (PV.val (Value.int IntKind.i64 0)))) none 2 false true)]) (AC.block 0 (AC.loop (AC.seq (AC.ops [(AOp.mk (some 17) (AK.bin false BinOp.lss (AX.t 16) (AX.t 15)) none 0 false true)]) (AC.seq (AC.cond (AX.t 17) AC.skip (AC.exit 0)) (AC.seq (AC.block 1 (AC.seq (AC.ops [(AOp.mk (some 18) (AK.iadrS 1 (AX.t 14) (AX.t 16)) none 0 false true), (AOp.mk (some 19) (AK.ld none (AX.t 18)) none 1 false true), (AOp.mk (some 8) (AK.mv (AX.t 19)) none 2 false true)]) (AC.seq (AC.ops [(AOp.mk (some 20) (AK.ld none (AX.t 5)) none 0 false true), (AOp.mk (some 21) (AK.mv (AX.t 8)) none 1 false true), (AOp.mk (some 22) (AK.build [PV.nilp, (PV.val (Value.int IntKind.i64 0))] [(0, (1, (AX.t 20))), (1, (1, (AX.t 21)))]) none 2 false true), (AOp.mk (some 23) (AK.call 120 [(AX.t 22)]) none 3 false true)]) (AC.block 2 (AC.rng (AX.t 23) [24] (AC.ops [(AOp.mk (some 9) (AK.new (PV.agg [(PV.val (Value.int IntKind.i64 0)), (PV.val (Value.int IntKind.i64 0))])) none 0 false true), (AOp.mk none (AK.st 2 (AX.t 9) (AX.t 24)) none 1 false true)]) (AC.block 3 (AC.seq (AC.ops [(AOp.mk (some 25) (AK.fadr 1 (AX.t 9)) none 0 true false), (AOp.mk (some 26) (AK.ld none (AX.t 25)) none 1 true false), (AOp.mk (some 27) (AK.ld none (AX.t 5)) none 2 true false), (AOp.mk (some 28) (AK.call 121 [(AX.t 27)]) none 3 false false), (AOp.mk (some 29) (AK.bin false BinOp.and (AX.t 26) (AX.t 28)) none 4 true true), (AOp.mk (some 30) (AK.fadr 1 (AX.t 9)) none 5 true true), (AOp.mk none (AK.st 1 (AX.t 30) (AX.t 29)) none 6 false true)]) (AC.seq (AC.ops [(AOp.mk (some 31) (AK.ld none (AX.t 6)) none 0 false true), (AOp.mk (some 32) (AK.ld (some 2) (AX.t 9)) none 1 false true), (AOp.mk (some 33) (AK.lkp [CK.i, CK.i] true (PV.val (Value.bool false)) false (AX.t 31) (AX.t 32)) none 2 false true), (AOp.mk (some 34) (AK.un UnOp.not (AX.t 33)) none 3 false true)]) (AC.cond (AX.t 34) (AC.seq (AC.ops [(AOp.mk (some 35) (AK.ld none (AX.t 6)) none 0 false true), (AOp.mk (some 36) (AK.ld (some 2) (AX.t 9)) none 1 false true), (AOp.mk none (AK.mup [CK.i, CK.i] true (AX.t 35) (AX.t 36) (AX.c (PV.val (Value.bool true)))) none 2 false true)]) (AC.ops [(AOp.mk (some 37) (AK.ld none (AX.t 5)) none 0 true false), (AOp.mk (some 38) (AK.ld none (AX.t 5)) none 1 true false), (AOp.mk (some 39) (AK.nilc (AX.t 38)) none 2 true false), (AOp.mk (some 40) (AK.fadr 8 (AX.t 39)) none 3 true false), (AOp.mk (some 41) (AK.ld none (AX.t 40)) none 4 true false), (AOp.mk (some 42) (AK.ld (some 2) (AX.t 9)) none 5 true false), (AOp.mk (some 43) (AK.bslice false 132 2 1 [(PV.val (Value.int IntKind.i64 0)), (PV.val (Value.int IntKind.i64 0))] [(0, (2, (AX.t 42)))]) none 6 false false), (AOp.mk (some 44) (AK.app false 132 2 16 [(PV.val (Value.int IntKind.i64 0)), (PV.val (Value.int IntKind.i64 0))] (AX.t 41) (AX.t 43)) none 7 false false), (AOp.mk (some 45) (AK.nilc (AX.t 37)) none 8 true true), (AOp.mk (some 46) (AK.fadr 8 (AX.t 45)) none 9 true true), (AOp.mk none (AK.st 1 (AX.t 46) (AX.t 44)) none 10 false true)])) AC.skip))))))))) (AC.ops [(AOp.mk (some 47) (AK.bin false BinOp.add (AX.t 16) (AX.c (PV.val (Value.int IntKind.i64 1)))) none 0 false true), (AOp.mk (some 16) (AK.mv (AX.t 47)) none 1 false true)]))))))) (AC.seq (AC.ops [(AOp.mk (some 48) (AK.ld none (AX.t 5)) none 0 false true), (AOp.mk (some 4) (AK.mv (AX.t 48)) none 1 false true)]) AC.ret)))))
theorem ac84_ok : cCode Tryz.prog (fun _ => false) Tryz.f84.ntmps (Tryz.f84.body.getD .skip) = some ac84 := by kernel_rfl
def mendF (b : EBook) (i : Nat) : Nat := (b.jobs.take i).foldl (fun s j => s ||| 2 ^ j.kind.toNat) 0
theorem mendF_next {b : EBook} {i : Nat} (h : i < b.jobs.length) : mendF b (i + 1) = mendF b i ||| 2 ^ b.jobs[i].kind.toNat := by
  unfold mendF
  rw [foldl_take _ _ _ _ h]
theorem mendF_lt {b : EBook} (hk : ∀ j ∈ b.jobs, 0 ≤ j.kind ∧ j.kind < 6) : ∀ i, mendF b i < 2 ^ 6
  | 0 => by simp [mendF]
  | i + 1 => by
    have ih := mendF_lt hk i
    by_cases h : i < b.jobs.length
    · rw [mendF_next h]
      exact or_lt ih (by have := hk _ (List.getElem_mem h); omega)
    · have e : mendF b (i + 1) = mendF b i := by
        unfold mendF
        rw [List.take_of_length_le (by omega), List.take_of_length_le (by omega)]
      rw [e]
      exact ih
theorem mendF_end (b : EBook) : mendF b b.jobs.length = mendS b := by
  unfold mendF mendS
  rw [List.take_length]
theorem kinds_lt {b : EBook} (ho : okE b) : ∀ j ∈ b.jobs, 0 ≤ j.kind ∧ j.kind < 6 := fun j hj => by
  have h1 := (ho.2.2.2.1 j hj).1
  have h2 := ho.1.1.2.1.2
  omega
theorem mended_sem (κ : KS) {b : EBook} (ho : okE b) : Sem1 121 [bookP κ b []] (pi (mendS b : Nat)) := by
  have h4 := ho.2.1.2
  have hk := kinds_lt ho
  refine semC_of_exec' mixed Tryz.func121 (by kernel_rfl) (by kernel_rfl) ac121_ok 1 rfl (by decide) [(.tmp 2)] (by kernel_rfl) ?_
  intro hr C hC hI
  unfold ac121
  simp only [go_sem, Nat.reduceBEq, List.append_nil, List.length_map]
  refine loop_k b.jobs.length (fun _ => True) [9, 10] (fun j => [(2, .p (pi (mendF b j : Nat))), (11, .p (pi j))]) trivial rfl ⟨rfl, by simp, by simp⟩ (by simp [mendF, wkT, look, AV.lo]) ?_
  rintro j ⟨hj, -⟩
  simp only [go_sem, Nat.reduceBEq]
  refine ⟨fun h5 => ?_, fun h5 => ?_⟩
  · have hj2 : j < b.jobs.length := by omega
    have hkj := hk _ (List.getElem_mem hj2)
    obtain ⟨q, hq⟩ : ∃ q : Nat, b.jobs[j].kind = q := ⟨b.jobs[j].kind.toNat, by omega⟩
    have hnx := mendF_next hj2
    have hlt := mendF_lt hk j
    rw [hq, Int.toNat_natCast] at hnx
    simp only [go_sem, Nat.reduceBEq, Nat.reduceAdd, iadr_map (f := jobC) (kd := κ.c) (sz := 6) hj2, putCells, hq]
    refine call_pure2 hC (with_sem (mendF b j) q (by omega) (by omega)) rfl (PVleL_refl _) ?_
    rintro r rfl
    simp only [go_sem, Nat.reduceBEq, wrap_succ (k := j) (by omega)]
    refine ⟨⟨j + 1, hj2, trivial⟩, by simp only; omega, ?_⟩
    rw [hnx]
    simp [Wk, wkT, wkL, look, AV.lo]
  · have hjn : j = b.jobs.length := by omega
    subst hjn
    rw [mendF_end]
    exact retQ_one rfl rfl
def rowF (b : EBook) (m : Nat) : List (Nat × Nat) := (setsL b.mb m).map fun s => (m, s &&& mendS b)
def doneL (b : EBook) (a i : Nat) : List (Nat × Nat) := ((whoL b.mb).take a).flatMap (rowF b) ++ (rowF b ((whoL b.mb).getD a 0)).take i
def knL (b : EBook) (a i : Nat) : List (Nat × Nat) := ddup (doneL b a i)
theorem ddup_snoc (l : List (Nat × Nat)) (x : Nat × Nat) : ddup (l ++ [x]) = if x ∈ ddup l then ddup l else ddup l ++ [x] := by
  unfold ddup
  rw [List.foldl_append]
  simp only [List.foldl_cons, List.foldl_nil, ddupF]
  by_cases h : x ∈ List.foldl ddupF [] l
  · rw [if_pos h, if_pos h]
  · rw [if_neg h, if_neg h]
theorem knL_next {b : EBook} {a i m s : Nat} (hm : (whoL b.mb).getD a 0 = m) (h : i < (setsL b.mb m).length) (hs : (setsL b.mb m)[i] = s) : knL b a (i + 1) = if (m, s &&& mendS b) ∈ knL b a i then knL b a i else knL b a i ++ [(m, s &&& mendS b)] := by
  have hl : i < (rowF b m).length := by unfold rowF; rw [List.length_map]; exact h
  have hg : (rowF b m)[i] = (m, s &&& mendS b) := by
    have e : (rowF b m)[i]? = some (m, s &&& mendS b) := by
      unfold rowF
      rw [List.getElem?_map, List.getElem?_eq_getElem h, hs]
      rfl
    exact (List.getElem?_eq_some_iff.1 e).2
  unfold knL doneL
  rw [hm, List.take_succ_eq_append_getElem hl, hg, ← List.append_assoc, ddup_snoc]
theorem knL_end {b : EBook} {a m : Nat} (ha : a < (whoL b.mb).length) (hm : (whoL b.mb).getD a 0 = m) : knL b a (setsL b.mb m).length = knL b (a + 1) 0 := by
  have hl : (setsL b.mb m).length = (rowF b m).length := by unfold rowF; rw [List.length_map]
  have hg : (whoL b.mb)[a] = m := by rw [← hm, List.getD_eq_getElem?_getD, List.getElem?_eq_getElem ha]; rfl
  unfold knL doneL
  rw [hm, hl, List.take_length, List.take_zero, List.append_nil, List.take_succ_eq_append_getElem ha, List.flatMap_append, hg]
  simp
theorem knL_zero (b : EBook) : knL b 0 0 = [] := by
  unfold knL doneL
  simp [ddup]
theorem knL_all (b : EBook) : knL b (whoL b.mb).length 0 = known b := by
  unfold knL doneL known allE
  rw [List.take_length, List.take_zero, List.append_nil]
  rfl
theorem knL_len {b : EBook} (ho : okC b.mb) (a i : Nat) : (knL b a i).length ≤ 1000 := by
  have h1 := (ddup_sub (doneL b a i)).length_le
  have h2 := flat_len (f := rowF b) (m := 64) (fun m => by
    unfold rowF
    rw [List.length_map]
    exact Nat.le_trans (sets_len b.mb m) (pow_le64 ho)) ((whoL b.mb).take a)
  have h3 : ((whoL b.mb).take a).length ≤ 5 := by
    have h5 := who_len b.mb
    have h6 := ho.1.2
    rw [List.length_take]
    omega
  have h4 : ((rowF b ((whoL b.mb).getD a 0)).take i).length ≤ 64 := by
    have h5 := sets_len b.mb ((whoL b.mb).getD a 0)
    have h6 := pow_le64 ho
    have h7 : (rowF b ((whoL b.mb).getD a 0)).length = (setsL b.mb ((whoL b.mb).getD a 0)).length := by unfold rowF; rw [List.length_map]
    rw [List.length_take]
    omega
  unfold knL
  unfold doneL at h1 ⊢
  rw [List.length_append] at h1
  omega
theorem key_eq (m s : Nat) (v : Nat × Nat) : keyEq [.i, .i] true (.agg (trC (m, s))) (.agg (trC v)) = some (decide (v = (m, s))) := by
  have : decide (v = (m, s)) = (decide ((m : Int) = v.1) && (decide ((s : Int) = v.2) && true)) := by
    rw [Bool.and_true, dec_and]
    refine decide_eq_decide.2 ⟨?_, ?_⟩
    · rintro rfl; exact ⟨rfl, rfl⟩
    · rintro ⟨h1, h2⟩
      exact Prod.ext (by omega) (by omega)
  rw [this]
  simp only [keyEq, eqCs_i, eqCs_nil, Option.map_some]
abbrev mapK (l : List (Nat × Nat)) : List (PV × PV) := l.map fun t => (.agg (trC t), pb true)
theorem look_k (l : List (Nat × Nat)) (m s : Nat) : lkpV [.i, .i] true (pb false) false (mapK l) (.agg (trC (m, s))) = some (pb (decide ((m, s) ∈ l))) := by
  rw [lkpV_map (p := fun v => decide (v = (m, s))) (view_self) (fun v _ => key_eq m s v)]
  by_cases h : (m, s) ∈ l
  · rw [decide_eq_true h]
    cases e : l.find? (fun v => decide (v = (m, s))) with
    | none => exact absurd (List.find?_eq_none.1 e _ h) (by simp)
    | some v => rfl
  · rw [decide_eq_false h]
    have : l.find? (fun v => decide (v = (m, s))) = none := List.find?_eq_none.2 fun v hv => by
      simp only [decide_eq_true_eq]
      rintro rfl
      exact h hv
    rw [this]
    rfl
theorem put_k {l : List (Nat × Nat)} {m s : Nat} (h : (m, s) ∉ l) : mput [.i, .i] true (.agg (trC (m, s))) (pb true) (mapK l) = some (mapK (l ++ [(m, s)])) := by
  rw [mput_new (p := fun v => decide (v = (m, s))) view_self (fun v _ => key_eq m s v) (fun v hv => decide_eq_false (fun e => h (e ▸ hv)))]
  simp [mapK]
abbrev cellsB (κ : KS) (b : EBook) (o : Option Nat) (l : List (Nat × Nat)) : List AV := (ebC κ b).map .p ++ [.p (slZ 132 2 o (l.map trC))]
def headB (κ : KS) (b : EBook) (a : Nat) (o : Option Nat) (l : List (Nat × Nat)) : ABlk := if a = 0 then .prz 0 8 (cellsB κ b o l) else if a < (whoL b.mb).length then .prt 8 (cellsB κ b o l) else .prz 8 9 (cellsB κ b o l)
def headL (κ : KS) (b : EBook) (h : ABlk) (l : List (Nat × Nat)) : List ABlk := [.cells ((ebC κ b).map .p), h, .cells [.loc 1 0], .mp (mapK l), .cells [.mpl 3]]
set_option maxRecDepth 100000 in
set_option maxHeartbeats 4000000 in
theorem bookOf_sem (κ : KS) {b : EBook} (ho : okE b) (k : SK) (hne : whoL b.mb ≠ []) : Sem1 84 [.agg (ebC κ b), .sl k 1 (ints (natL (whoL b.mb)))] (bookK κ b) := by
  have hlen : 0 < (whoL b.mb).length := List.length_pos_iff.2 hne
  have hw5 : (whoL b.mb).length ≤ 5 := by have := who_len b.mb; have := ho.1.1.1.2; omega
  refine semC_of_exec' mixed Tryz.func84 (by kernel_rfl) (by kernel_rfl) ac84_ok 2 rfl (by decide) [(.tmp 4)] (by kernel_rfl) ?_
  intro hr C hC hI
  unfold ac84
  simp only [go_sem, Nat.reduceBEq, Nat.reduceAdd, Nat.reduceLeDiff, putCells, List.length_map, natL_len]
  refine loop_g (α := Nat × Option Nat) (fun a => a.1 ≤ (whoL b.mb).length ∧ (a.2 = none → (knL b a.1 0).map trC = [])) (fun a => (whoL b.mb).length - a.1) [5, 6, 14, 15] (fun a => [(16, .p (pi a.1))]) (fun a => headL κ b (headB κ b a.1 a.2 (knL b a.1 0)) (knL b a.1 0)) (fun a => a.2.toList) (0, none) ⟨by omega, fun _ => by rw [knL_zero]; rfl⟩ ?_ ?_
  · rw [knL_zero]
    simp [Wk, wkT, wkL, look, AV.lo, AV.lo.loL, ABlk.toZ, upS_eq, keepS_nil, keepS_cons, headL, headB, pures]
    rfl
  rintro ⟨a, o⟩ ⟨ha, h0⟩
  replace ha : a ≤ (whoL b.mb).length := ha
  replace h0 : o = none → (knL b a 0).map trC = [] := h0
  simp only [go_sem, Nat.reduceBEq]
  refine ⟨fun h5 => ?_, fun h5 => ?_⟩
  · have ha2 : a < (whoL b.mb).length := by omega
    obtain ⟨m, hm⟩ : ∃ m, (whoL b.mb).getD a 0 = m := ⟨_, rfl⟩
    have hgm : (whoL b.mb)[a] = m := by rw [← hm, List.getD_eq_getElem?_getD, List.getElem?_eq_getElem ha2]; rfl
    obtain ⟨hml, hmp⟩ := mem_who.1 (hgm ▸ List.getElem_mem ha2 : m ∈ whoL b.mb)
    have e1 : iadrS' 1 (.p (.sl k 1 (ints (natL (whoL b.mb))))) (.p (pi a)) = some (.p (.ptr [pi m] 0)) := by
      have h := iadr_map (f := fun x : Int => [pi x]) (kd := k) (sz := 1) (l := natL (whoL b.mb)) (k := a) (by rw [natL_len]; exact ha2)
      have e : (natL (whoL b.mb))[a]'(by rw [natL_len]; exact ha2) = (m : Int) := by unfold natL; rw [List.getElem_map, hgm]
      rw [e] at h
      exact h
    have hpre : ∀ o l, pures ((cellsB κ b o l).take 8) = some (ebC κ b) := fun o l => rfl
    have hhead : ∀ h, h = headB κ b a o (knL b a 0) → purArgs.purV [.agg [.loc 1 0, .p (pi m)]] (headL κ b h (knL b a 0)) = some ([workC κ b m], headL κ b (.prt 8 (cellsB κ b o (knL b a 0))) (knL b a 0)) := by
      intro h hh
      unfold headB at hh
      by_cases h0a : a = 0
      · rw [if_pos h0a] at hh
        subst hh
        rfl
      · rw [if_neg h0a, if_pos ha2] at hh
        subst hh
        rfl
    obtain ⟨hd, hhd⟩ : ∃ hd, headB κ b a o (knL b a 0) = hd := ⟨_, rfl⟩
    have hpur := hhead hd hhd.symm
    rw [hhd]
    unfold headL at hpur ⊢
    simp only [go_sem, Nat.reduceBEq, Nat.reduceAdd, Nat.reduceLeDiff, e1, putCells]
    refine call_purA hC (truths_clo κ ho.1 hml hmp) (L' := headL κ b (.prt 8 (cellsB κ b o (knL b a 0))) (knL b a 0)) hpur (PVleL_refl _) ?_
    rintro _ rfl
    unfold headL
    simp only [go_sem]
    refine rng_m (ι := Option Nat) (setsL b.mb m) (fun s => encT (m, s)) [5, 6, 14, 15, 16] (fun i o => headL κ b (.prt 8 (cellsB κ b o (knL b a i))) (knL b a i)) (fun _ o => o.toList) (fun _ => some []) (fun i o => o = none → (knL b a i).map trC = []) o rfl rfl (hI _ _ _ (truths_it κ ho.1 m)) ?_ (fun _ => rfl) (by cases o <;> simp [Wk, wkT, wkL, look, AV.lo, AV.lo.loL, ABlk.toZ, keepS, headL, cellsB]) h0 ?_ ?_
    · have hy1 : noY.noYR (encTs m (setsL b.mb m)) = true := noYR_map (fun _ => rfl) _
      have hy2 : noY.noYR (jobsC b.jobs) = true := noYR_map (fun _ => rfl) _
      have hy3 : noY.noYR (ints b.extra) = true := noYR_map (fun _ => rfl) _
      have hy4 : noY.noYR (ints b.coins) = true := noYR_map (fun _ => rfl) _
      simp only [show noY.noYR ((setsL b.mb m).map fun s => encT (m, s)) = true from hy1, noY.noYL, noY, noY_rowsC, noY_seenC, hy2, hy3, hy4, List.append_nil, Bool.and_true]
    · intro i o hi hok
      obtain ⟨s, hs⟩ : ∃ s, (setsL b.mb m)[i] = s := ⟨_, rfl⟩
      have hsl : s < 2 ^ nK b.mb := sets_lt (hs ▸ List.getElem_mem hi)
      have h64 := pow_le64 ho.1.1
      have hml2 := mendF_lt (kinds_lt ho) b.jobs.length
      rw [mendF_end] at hml2
      have hnx := knL_next hm hi hs
      have hand : binS false .and (.p (pi (s : Nat))) (.p (pi (mendS b : Nat))) = some (.p (pi ((s &&& mendS b : Nat) : Int))) := bin_andN (by omega) (by omega)
      have hlk := look_k (knL b a i) m (s &&& mendS b)
      have hkl := knL_len ho.1.1 a i
      rw [hs]
      unfold headL
      simp only [go_sem, Nat.reduceBEq, Nat.reduceAdd, putCells]
      refine call_purA hC (mended_sem κ ho) (L' := [.cells ((ebC κ b).map .p), .prt 8 (cellsB κ b o (knL b a i)), .cells [.loc 1 0], .mp (mapK (knL b a i)), .cells [.mpl 3], .cells [.p (pi m), .p (pi s)]]) rfl (PVleL_refl _) ?_
      rintro _ rfl
      by_cases hk : (m, s &&& mendS b) ∈ knL b a i
      · rw [if_pos hk] at hnx
        simp only [go_sem, Nat.reduceBEq, Nat.reduceAdd, hand, putCells, hlk, eq_true hk, decide_true, not_false_eq_true]
        refine ⟨o, by rw [hnx]; exact hok, ?_⟩
        simp only [hnx]
        cases o <;> simp [Wk, wkT, wkL, look, AV.lo, AV.lo.loL, ABlk.toZ, cellsB]
      · rw [if_neg hk] at hnx
        have hput := put_k hk
        simp only [go_sem, Nat.reduceBEq, Nat.reduceAdd, hand, putCells, hlk, eq_false hk, decide_false, not_false_eq_true]
        refine ⟨_, hput, ?_⟩
        have h8 : (cellsB κ b o (knL b a i))[8]? = some (.p (slZ 132 2 o ((knL b a i).map trC))) := rfl
        have hp8 : ∀ v : AV, (cellsB κ b o (knL b a i)).take 8 ++ [v] ++ (cellsB κ b o (knL b a i)).drop (8 + [v].length) = (ebC κ b).map .p ++ [v] := fun v => rfl
        have hln : (cellsB κ b o (knL b a i)).length = 9 := rfl
        simp only [go_sem, Nat.reduceBEq, Nat.reduceAdd, h8]
        refine app_slZ hok (by rw [List.length_map]; omega) (fun t ht => ht) fun tk htk => ?_
        have hc1 : ∀ rows : List (List PV), cellsA 1 (.p (slZ 132 2 (some tk) rows)) = some [.p (slZ 132 2 (some tk) rows)] := fun _ => rfl
        simp only [go_sem, Nat.reduceBEq, Nat.reduceAdd, hc1, hln, Nat.le_refl, or_true, true_and, putCells]
        refine ⟨some tk, (fun h => by cases h), ?_⟩
        simp only [hnx]
        simp [Wk, wkT, wkL, look, AV.lo, AV.lo.loL, ABlk.toZ, cellsB, List.map_append]
    · intro o hok
      have hle := knL_end ha2 hm
      rw [hle] at hok ⊢
      unfold headL
      simp only [go_sem, Nat.reduceBEq, wrap_succ (k := a) (by omega)]
      refine ⟨⟨(a + 1, o), ha2, hok⟩, by simp only; omega, ?_⟩
      by_cases hlt : a + 1 < (whoL b.mb).length
      · cases o <;> simp [Wk, wkT, wkL, look, AV.lo, AV.lo.loL, ABlk.toZ, headB, cellsB, hlt]
      · cases o <;> simp [Wk, wkT, wkL, look, AV.lo, AV.lo.loL, ABlk.toZ, headB, cellsB, hlt, pures, slZ]
  · have han : a = (whoL b.mb).length := by omega
    subst han
    have hh : headB κ b (whoL b.mb).length o (knL b (whoL b.mb).length 0) = .prz 8 9 (cellsB κ b o (known b)) := by
      unfold headB
      rw [if_neg (by omega), if_neg (Nat.lt_irrefl _), knL_all]
    rw [knL_all] at h0
    rw [hh]
    unfold headL
    simp only [go_sem, Nat.reduceBEq]
    refine retQ_pur rfl (x := .ptr (ebC κ b ++ [slZ 132 2 o ((known b).map trC)]) 0) rfl (PVle.ptr ?_ 0) rfl
    exact ⟨PVle.refl _, PVle.refl _, PVle.refl _, PVle.refl _, PVle.refl _, PVle.refl _, PVle.refl _, PVle.refl _, slZ_le h0, trivial⟩
end Go.Proofs.YtlcpplkbmlmmbaaGreat.Mk.Me
namespace Go.Proofs.YtlcpplkbmlmmbaaGreat.Mk.Me
open Go.RowKit Ls
def ac102 : AC := (AC.seq (AC.ops [(AOp.mk (some 3) (AK.box 1 (AX.t 0)) none 0 false true), (AOp.mk (some 4) (AK.box 2 (AX.t 1)) none 1 false true), (AOp.mk (some 5) (AK.box 1 (AX.t 2)) none 2 false true), (AOp.mk (some 6) (AK.mv (AX.c (PV.val (Value.bool false)))) none 3 false true)]) (AC.seq (AC.ops [(AOp.mk (some 7) (AK.new (PV.val Value.nilFunc)) none 0 false true)]) (AC.seq (AC.ops [(AOp.mk (some 8) (AK.mkf 139 [] [(AX.t 5), (AX.t 3), (AX.t 4), (AX.t 7)]) none 0 false true), (AOp.mk none (AK.st 1 (AX.t 7) (AX.t 8)) none 1 false true)]) (AC.seq (AC.ops [(AOp.mk (some 9) (AK.ld none (AX.t 7)) none 0 true false), (AOp.mk (some 10) (AK.ld none (AX.t 3)) none 1 true false), (AOp.mk (some 11) (AK.call 63 [(AX.t 10)]) none 2 false false), (AOp.mk (some 12) (AK.callv (AX.t 9) [(AX.t 11), (AX.c (PV.val (Value.int IntKind.i64 0))), (AX.c (PV.val (Value.int IntKind.i64 0)))]) none 3 false true), (AOp.mk (some 6) (AK.mv (AX.t 12)) none 4 true true)]) AC.ret))))
theorem ac102_ok : cCode Tryz.prog (fun _ => false) Tryz.f102.ntmps (Tryz.f102.body.getD .skip) = some ac102 := by kernel_rfl
def ac139 : AC := (AC.seq (AC.ops [(AOp.mk (some 10) (AK.mv (AX.c (PV.val (Value.bool false)))) none 0 false true)]) (AC.seq (AC.seq (AC.ops [(AOp.mk (some 16) (AK.mv (AX.t 0)) none 0 false true), (AOp.mk (some 17) (AK.len (AX.t 16)) none 1 false true), (AOp.mk (some 18) (AK.bin false BinOp.eql (AX.t 17) (AX.c (PV.val (Value.int IntKind.i64 0)))) none 2 false true)]) (AC.cond (AX.t 18) (AC.seq (AC.ops [(AOp.mk (some 19) (AK.ld none (AX.t 3)) none 0 false true), (AOp.mk (some 20) (AK.mv (AX.t 1)) none 1 false true), (AOp.mk (some 21) (AK.mv (AX.t 2)) none 2 false true), (AOp.mk (some 22) (AK.call 70 [(AX.t 19), (AX.t 20), (AX.t 21)]) none 3 false true), (AOp.mk (some 10) (AK.mv (AX.t 22)) none 4 false true)]) AC.ret) AC.skip)) (AC.seq (AC.ops [(AOp.mk (some 23) (AK.mv (AX.t 0)) none 0 false true), (AOp.mk (some 24) (AK.iadrS 6 (AX.t 23) (AX.c (PV.val (Value.int IntKind.i64 0)))) none 1 false true), (AOp.mk (some 25) (AK.ld (some 6) (AX.t 24)) none 2 false true), (AOp.mk (some 11) (AK.new (PV.agg [(PV.val (Value.int IntKind.i64 0)), (PV.val (Value.int IntKind.i64 0)), (PV.val (Value.int IntKind.i64 0)), (PV.val (Value.int IntKind.i64 0)), (PV.val (Value.int IntKind.i64 0)), (PV.val (Value.int IntKind.i64 0))])) none 3 false true), (AOp.mk none (AK.st 6 (AX.t 11) (AX.t 25)) none 4 false true)]) (AC.seq (AC.seq (AC.ops [(AOp.mk (some 26) (AK.fadr 0 (AX.t 11)) none 0 false true), (AOp.mk (some 27) (AK.fadr 1 (AX.t 26)) none 1 false true), (AOp.mk (some 28) (AK.fadr 1 (AX.t 27)) none 2 false true), (AOp.mk (some 29) (AK.ld none (AX.t 28)) none 3 false true), (AOp.mk (some 30) (AK.fadr 0 (AX.t 11)) none 4 false true), (AOp.mk (some 31) (AK.fadr 1 (AX.t 30)) none 5 false true), (AOp.mk (some 32) (AK.fadr 0 (AX.t 31)) none 6 false true), (AOp.mk (some 33) (AK.ld none (AX.t 32)) none 7 false true), (AOp.mk (some 34) (AK.bin false BinOp.sub (AX.t 29) (AX.t 33)) none 8 false true), (AOp.mk (some 35) (AK.bin false BinOp.add (AX.t 34) (AX.c (PV.val (Value.int IntKind.i64 1)))) none 9 false true), (AOp.mk (some 36) (AK.mv (AX.c (PV.val (Value.int IntKind.i64 0)))) none 10 false true)]) (AC.block 0 (AC.loop (AC.seq (AC.ops [(AOp.mk (some 37) (AK.bin false BinOp.lss (AX.t 36) (AX.t 35)) none 0 false true)]) (AC.seq (AC.cond (AX.t 37) AC.skip (AC.exit 0)) (AC.seq (AC.block 1 (AC.seq (AC.ops [(AOp.mk (some 38) (AK.mv (AX.t 36)) none 0 false true), (AOp.mk (some 12) (AK.mv (AX.t 38)) none 1 false true)]) (AC.seq (AC.ops [(AOp.mk (some 39) (AK.fadr 0 (AX.t 11)) none 0 false true), (AOp.mk (some 40) (AK.fadr 1 (AX.t 39)) none 1 false true), (AOp.mk (some 41) (AK.fadr 0 (AX.t 40)) none 2 false true), (AOp.mk (some 42) (AK.ld none (AX.t 41)) none 3 false true), (AOp.mk (some 43) (AK.mv (AX.t 12)) none 4 false true), (AOp.mk (some 44) (AK.bin false BinOp.add (AX.t 42) (AX.t 43)) none 5 false true), (AOp.mk (some 13) (AK.mv (AX.t 44)) none 6 false true)]) (AC.seq (AC.ops [(AOp.mk (some 45) (AK.ld none (AX.t 4)) none 0 true false), (AOp.mk (some 46) (AK.ld (some 2) (AX.t 5)) none 1 true false), (AOp.mk (some 47) (AK.ld (some 6) (AX.t 11)) none 2 true false), (AOp.mk (some 48) (AK.mv (AX.t 13)) none 3 true false), (AOp.mk (some 49) (AK.fadr 0 (AX.t 11)) none 4 true false), (AOp.mk (some 50) (AK.fadr 3 (AX.t 49)) none 5 true false), (AOp.mk (some 51) (AK.fadr 0 (AX.t 50)) none 6 true false), (AOp.mk (some 52) (AK.ld none (AX.t 51)) none 7 true false), (AOp.mk (some 54) (AK.ld none (AX.t 4)) none 9 true false), (AOp.mk (some 55) (AK.ld (some 2) (AX.t 5)) none 10 true false), (AOp.mk (some 56) (AK.ld (some 6) (AX.t 11)) none 11 true false), (AOp.mk (some 57) (AK.mv (AX.t 13)) none 12 true false), (AOp.mk (some 58) (AK.fadr 0 (AX.t 11)) none 13 true false), (AOp.mk (some 59) (AK.fadr 3 (AX.t 58)) none 14 true false), (AOp.mk (some 60) (AK.fadr 1 (AX.t 59)) none 15 true false), (AOp.mk (some 61) (AK.ld none (AX.t 60)) none 16 true false), (AOp.mk (some 53) (AK.call 125 [(AX.t 45), (AX.t 46), (AX.t 47), (AX.t 48), (AX.t 52)]) none 8 false false), (AOp.mk (some 62) (AK.call 125 [(AX.t 54), (AX.t 55), (AX.t 56), (AX.t 57), (AX.t 61)]) none 17 false true), (AOp.mk (some 14) (AK.mv (AX.t 53)) none 18 true true), (AOp.mk (some 15) (AK.mv (AX.t 62)) none 19 true true)]) (AC.seq (AC.ops [(AOp.mk (some 63) (AK.ld none (AX.t 6)) none 0 true false), (AOp.mk (some 64) (AK.mv (AX.t 0)) none 1 true false), (AOp.mk (some 65) (AK.slc 6 (AX.t 64) (some (AX.c (PV.val (Value.int IntKind.i64 1)))) none none) none 2 true false), (AOp.mk (some 66) (AK.mv (AX.t 1)) none 3 true false), (AOp.mk (some 67) (AK.ld (some 6) (AX.t 11)) none 4 true false), (AOp.mk (some 68) (AK.mv (AX.t 14)) none 5 true false), (AOp.mk (some 71) (AK.mv (AX.t 2)) none 8 true false), (AOp.mk (some 72) (AK.ld (some 6) (AX.t 11)) none 9 true false), (AOp.mk (some 73) (AK.mv (AX.t 15)) none 10 true false), (AOp.mk (some 69) (AK.call 123 [(AX.t 67), (AX.t 68)]) none 6 false false), (AOp.mk (some 70) (AK.bin false BinOp.add (AX.t 66) (AX.t 69)) none 7 true false), (AOp.mk (some 74) (AK.call 123 [(AX.t 72), (AX.t 73)]) none 11 false false), (AOp.mk (some 75) (AK.bin false BinOp.add (AX.t 71) (AX.t 74)) none 12 true false), (AOp.mk (some 76) (AK.callv (AX.t 63) [(AX.t 65), (AX.t 70), (AX.t 75)]) none 13 false true)]) (AC.cond (AX.t 76) (AC.seq (AC.ops [(AOp.mk (some 10) (AK.mv (AX.c (PV.val (Value.bool true)))) none 0 false true)]) AC.ret) AC.skip)))))) (AC.ops [(AOp.mk (some 77) (AK.bin false BinOp.add (AX.t 36) (AX.c (PV.val (Value.int IntKind.i64 1)))) none 0 false true), (AOp.mk (some 36) (AK.mv (AX.t 77)) none 1 false true)]))))))) (AC.seq (AC.ops [(AOp.mk (some 10) (AK.mv (AX.c (PV.val (Value.bool false)))) none 0 false true)]) AC.ret)))))
theorem ac139_ok : cCode Tryz.prog (fun _ => false) Tryz.f139.ntmps (Tryz.f139.body.getD .skip) = some ac139 := by kernel_rfl
def ac67 : AC := (AC.seq (AC.ops [(AOp.mk (some 4) (AK.mv (AX.c (PV.sl SK.full 0 []))) none 0 false true)]) (AC.seq (AC.ops [(AOp.mk (some 5) (AK.mv (AX.c (PV.sl SK.full 0 []))) none 0 false true)]) (AC.seq (AC.seq (AC.ops [(AOp.mk (some 8) (AK.mv (AX.t 0)) none 0 false true), (AOp.mk (some 9) (AK.nilc (AX.t 8)) none 1 false true), (AOp.mk (some 10) (AK.fadr 8 (AX.t 9)) none 2 false true), (AOp.mk (some 11) (AK.ld none (AX.t 10)) none 3 false true), (AOp.mk (some 12) (AK.len (AX.t 11)) none 4 false true), (AOp.mk (some 13) (AK.mv (AX.c (PV.val (Value.int IntKind.i64 0)))) none 5 false true)]) (AC.block 0 (AC.loop (AC.seq (AC.ops [(AOp.mk (some 14) (AK.bin false BinOp.lss (AX.t 13) (AX.t 12)) none 0 false true)]) (AC.seq (AC.cond (AX.t 14) AC.skip (AC.exit 0)) (AC.seq (AC.block 1 (AC.seq (AC.ops [(AOp.mk (some 15) (AK.iadrS 2 (AX.t 11) (AX.t 13)) none 0 false true), (AOp.mk (some 16) (AK.ld (some 2) (AX.t 15)) none 1 false true), (AOp.mk (some 7) (AK.new (PV.agg [(PV.val (Value.int IntKind.i64 0)), (PV.val (Value.int IntKind.i64 0))])) none 2 false true), (AOp.mk none (AK.st 2 (AX.t 7) (AX.t 16)) none 3 false true)]) (AC.seq (AC.ops [(AOp.mk (some 17) (AK.mv (AX.t 5)) none 0 false true), (AOp.mk (some 18) (AK.fadr 0 (AX.t 7)) none 1 false true), (AOp.mk (some 19) (AK.ld none (AX.t 18)) none 2 false true), (AOp.mk (some 20) (AK.call 101 [(AX.t 17), (AX.t 19)]) none 3 false true), (AOp.mk (some 21) (AK.un UnOp.not (AX.t 20)) none 4 false true), (AOp.mk (some 22) (AK.mv (AX.t 21)) none 5 false true), (AOp.mk (some 23) (AK.mv (AX.t 0)) (some (22, true)) 6 false true), (AOp.mk (some 24) (AK.ld (some 2) (AX.t 7)) (some (22, true)) 7 false true), (AOp.mk (some 25) (AK.mv (AX.t 1)) (some (22, true)) 8 false true), (AOp.mk (some 26) (AK.call 102 [(AX.t 23), (AX.t 24), (AX.t 25)]) (some (22, true)) 9 false true), (AOp.mk (some 27) (AK.pick (AX.t 22) (AX.t 26) (AX.c (PV.val (Value.bool false)))) none 10 false true)]) (AC.cond (AX.t 27) (AC.ops [(AOp.mk (some 28) (AK.mv (AX.t 5)) none 0 false true), (AOp.mk (some 29) (AK.fadr 0 (AX.t 7)) none 1 false true), (AOp.mk (some 30) (AK.ld none (AX.t 29)) none 2 false true), (AOp.mk (some 31) (AK.bslice false 3 1 1 [(PV.val (Value.int IntKind.i64 0))] [(0, (1, (AX.t 30)))]) none 3 false true), (AOp.mk (some 32) (AK.app false 3 1 8 [(PV.val (Value.int IntKind.i64 0))] (AX.t 28) (AX.t 31)) none 4 false true), (AOp.mk (some 5) (AK.mv (AX.t 32)) none 5 false true)]) AC.skip)))) (AC.ops [(AOp.mk (some 33) (AK.bin false BinOp.add (AX.t 13) (AX.c (PV.val (Value.int IntKind.i64 1)))) none 0 false true), (AOp.mk (some 13) (AK.mv (AX.t 33)) none 1 false true)]))))))) (AC.seq (AC.ops [(AOp.mk (some 34) (AK.mv (AX.t 5)) none 0 false true), (AOp.mk (some 35) (AK.call 103 [(AX.t 34)]) none 1 false true), (AOp.mk (some 4) (AK.mv (AX.t 35)) none 2 false true)]) AC.ret))))
theorem ac67_ok : cCode Tryz.prog (fun _ => false) Tryz.f67.ntmps (Tryz.f67.body.getD .skip) = some ac67 := by kernel_rfl
def ac103 : AC := (AC.seq (AC.ops [(AOp.mk (some 2) (AK.mv (AX.c (PV.sl SK.full 0 []))) none 0 false true)]) (AC.seq (AC.ops [(AOp.mk (some 4) (AK.mv (AX.t 0)) none 0 false true), (AOp.mk (some 5) (AK.len (AX.t 4)) none 1 false true), (AOp.mk (some 3) (AK.mv (AX.t 5)) none 2 false true)]) (AC.seq (AC.ops [(AOp.mk (some 6) (AK.mv (AX.t 0)) none 0 false true), (AOp.mk (some 7) (AK.mv (AX.t 3)) none 1 false true), (AOp.mk (some 8) (AK.mv (AX.t 3)) none 2 false true), (AOp.mk (some 9) (AK.slc 1 (AX.t 6) none (some (AX.t 7)) (some (AX.t 8))) none 3 false true), (AOp.mk (some 2) (AK.mv (AX.t 9)) none 4 false true)]) AC.ret)))
theorem ac103_ok : cCode Tryz.prog (fun _ => false) Tryz.f103.ntmps (Tryz.f103.body.getD .skip) = some ac103 := by kernel_rfl
def ac138 : AC := (AC.seq (AC.ops [(AOp.mk (some 4) (AK.mv (AX.c (PV.val (Value.int IntKind.i64 0)))) none 0 false true)]) (AC.seq (AC.seq (AC.ops [(AOp.mk (some 6) (AK.mv (AX.t 0)) none 0 false true), (AOp.mk (some 7) (AK.len (AX.t 6)) none 1 false true), (AOp.mk (some 8) (AK.mv (AX.c (PV.val (Value.int IntKind.i64 0)))) none 2 false true)]) (AC.block 0 (AC.loop (AC.seq (AC.ops [(AOp.mk (some 9) (AK.bin false BinOp.lss (AX.t 8) (AX.t 7)) none 0 false true)]) (AC.seq (AC.cond (AX.t 9) AC.skip (AC.exit 0)) (AC.seq (AC.block 1 (AC.seq (AC.ops [(AOp.mk (some 10) (AK.mv (AX.t 8)) none 0 false true), (AOp.mk (some 5) (AK.mv (AX.t 10)) none 1 false true)]) (AC.seq (AC.ops [(AOp.mk (some 11) (AK.mv (AX.t 1)) none 0 false true), (AOp.mk (some 12) (AK.mv (AX.t 0)) none 1 false true), (AOp.mk (some 13) (AK.mv (AX.t 5)) none 2 false true), (AOp.mk (some 14) (AK.iadrS 1 (AX.t 12) (AX.t 13)) none 3 false true), (AOp.mk (some 15) (AK.ld none (AX.t 14)) none 4 false true), (AOp.mk (some 16) (AK.bin false BinOp.eql (AX.t 11) (AX.t 15)) none 5 false true)]) (AC.cond (AX.t 16) (AC.seq (AC.ops [(AOp.mk (some 17) (AK.mv (AX.t 5)) none 0 false true), (AOp.mk (some 4) (AK.mv (AX.t 17)) none 1 false true)]) AC.ret) AC.skip)))) (AC.ops [(AOp.mk (some 18) (AK.bin false BinOp.add (AX.t 8) (AX.c (PV.val (Value.int IntKind.i64 1)))) none 0 false true), (AOp.mk (some 8) (AK.mv (AX.t 18)) none 1 false true)]))))))) (AC.seq (AC.ops [(AOp.mk (some 4) (AK.mv (AX.c (PV.val (Value.int IntKind.i64 (-1))))) none 0 false true)]) AC.ret)))
theorem ac138_ok : cCode Tryz.prog (fun _ => false) Tryz.f138.ntmps (Tryz.f138.body.getD .skip) = some ac138 := by kernel_rfl
def ac101 : AC := (AC.seq (AC.ops [(AOp.mk (some 4) (AK.mv (AX.c (PV.val (Value.bool false)))) none 0 false true)]) (AC.seq (AC.ops [(AOp.mk (some 5) (AK.mv (AX.t 0)) none 0 false true), (AOp.mk (some 6) (AK.mv (AX.t 1)) none 1 false true), (AOp.mk (some 7) (AK.call 138 [(AX.t 5), (AX.t 6)]) none 2 false true), (AOp.mk (some 8) (AK.bin false BinOp.geq (AX.t 7) (AX.c (PV.val (Value.int IntKind.i64 0)))) none 3 false true), (AOp.mk (some 4) (AK.mv (AX.t 8)) none 4 false true)]) AC.ret))
theorem ac101_ok : cCode Tryz.prog (fun _ => false) Tryz.f101.ntmps (Tryz.f101.body.getD .skip) = some ac101 := by kernel_rfl
def LQ (κ : KS) (b : EBook) (t : Nat × Nat) (pence : Int) : List ABlk := [.cells [.p (bookK κ b)], .cells [.p (pi t.1), .p (pi t.2)], .cells [.p (pi pence)], .cells [.clo 139 [] [.loc 2 0, .loc 0 0, .loc 1 0, .loc 3 0]]]
theorem take_LQ {κ : KS} {b : EBook} {t : Nat × Nat} {pence : Int} {L : List ABlk} (h : L.take 4 = LQ κ b t pence) : ∃ X, L = LQ κ b t pence ++ X := ⟨L.drop 4, by rw [← h, List.take_append_drop]⟩
theorem upd4 {x0 x1 x2 x3 a b c d : ABlk} {M X : List ABlk} : updL (x0 :: x1 :: x2 :: x3 :: M) [0, 1, 2, 3] (a :: b :: c :: d :: X) = a.ren (mAt [0, 1, 2, 3] (M.length + 1 + 1 + 1 + 1)) :: b.ren (mAt [0, 1, 2, 3] (M.length + 1 + 1 + 1 + 1)) :: c.ren (mAt [0, 1, 2, 3] (M.length + 1 + 1 + 1 + 1)) :: d.ren (mAt [0, 1, 2, 3] (M.length + 1 + 1 + 1 + 1)) :: (M ++ X.map (ABlk.ren (mAt [0, 1, 2, 3] (M.length + 1 + 1 + 1 + 1)))) := by simp [updL, setAll, setAll_nil]
theorem mat4_0 {n : Nat} : mAt [0, 1, 2, 3] n 0 = 0 := rfl
theorem mat4_1 {n : Nat} : mAt [0, 1, 2, 3] n 1 = 1 := rfl
theorem mat4_2 {n : Nat} : mAt [0, 1, 2, 3] n 2 = 2 := rfl
theorem mat4_3 {n : Nat} : mAt [0, 1, 2, 3] n 3 = 3 := rfl
def CanOk (κ : KS) (b : EBook) (t : Nat × Nat) (pence : Int) (js : List Job) : Prop := ∀ (k : SK) (lo hi : Int), 0 ≤ lo → 0 ≤ hi → lo + 549 * js.length ≤ 10000 → hi + 549 * js.length ≤ 10000 →
  SemM Tryz.prog Fence.wide 139 [.p (.sl k 6 (jobsC js)), .p (pi lo), .p (pi hi), .loc 2 0, .loc 0 0, .loc 1 0, .loc 3 0] (LQ κ b t pence) (some [])
    (fun v L' ys' => L'.take 4 = LQ κ b t pence ∧ v = .p (pb (canF b t pence js lo hi)) ∧ ys' = some [])
theorem can_nil (κ : KS) (b : EBook) (t : Nat × Nat) (pence : Int) : CanOk κ b t pence [] := by
  intro k lo hi _ _ _ _
  refine semM_of_exec' mixed Tryz.func139 (by kernel_rfl) (by kernel_rfl) ac139_ok 7 rfl (by decide) [(.tmp 10)] (by kernel_rfl) ?_
  intro C hC hI
  unfold ac139
  simp only [go_sem, Nat.reduceBEq, Nat.reduceAdd, LQ, List.length_nil, List.map_nil, Int.natCast_zero, decide_true]
  refine call_pure2 hC (within_sem ..) rfl (PVleL_refl _) ?_
  rintro r rfl
  simp only [go_sem, Nat.reduceBEq]
  exact retMQ_one rfl ⟨rfl, rfl, rfl⟩
set_option maxRecDepth 100000 in
set_option maxHeartbeats 1000000 in
theorem can_cons (κ : KS) {b : EBook} (ho : okE b) {t : Nat × Nat} (ht : t.1 < b.mb.makers.length) (pence : Int) {j : Job} {js : List Job} (hj : okJob b j) (hrec : CanOk κ b t pence js) : CanOk κ b t pence (j :: js) := by
  intro k lo hi h1 h2 h3 h4
  rw [List.length_cons] at h3 h4
  have hln : ∀ L : List (List PV), L = jobsC (j :: js) → ((L.length : Int) = 0 ↔ False) := fun L hL => by subst hL; simp; omega
  obtain ⟨⟨c1, c2⟩, ⟨d1, d2, d3, d4⟩, ⟨e1, e2, e3, e4⟩, f1, f2⟩ := id hj
  obtain ⟨L, hL⟩ : ∃ L, jobsC (j :: js) = L := ⟨_, rfl⟩
  have hLl := hln L hL.symm
  have hL0 : ¬ (L.length : Int) = 0 := fun h => hLl.1 h
  have e0 : iadrS' 6 (.p (.sl k 6 L)) (.p (.val (.int .i64 0))) = some (.p (.ptr (jobC j) 0)) := by
    subst hL
    exact iadr_map (f := jobC) (kd := k) (sz := 6) (l := j :: js) (k := 0) (by simp)
  have hsl : slcS 6 (.p (.sl k 6 L)) (some (some 1)) (some none) (some none) = some (.p (.sl .sh 6 (jobsC js))) := by
    subst hL
    rw [slcS_lo (.inl rfl) ⟨by decide, by simp; omega⟩]
    rfl
  obtain ⟨n, hn⟩ : ∃ n : Nat, (j.hh - j.hl + 1) = n := ⟨(j.hh - j.hl + 1).toNat, by omega⟩
  have hnt : (j.hh - j.hl + 1).toNat = n := by omega
  have w1 : IntKind.i64.wrap (j.hh - j.hl) = j.hh - j.hl := wrap_id (by omega) (by omega)
  have w2 : IntKind.i64.wrap (j.hh - j.hl + 1) = n := by rw [wrap_id (by omega) (by omega), hn]
  have hcf : canF b t pence (j :: js) lo hi = (List.range n).any fun (q : Nat) => canF b t pence js (lo + paidI j (costI b t j (j.hl + q) j.pl)) (hi + paidI j (costI b t j (j.hl + q) j.ph)) := by rw [canF, hnt]
  rw [hL, hcf]
  refine semM_of_exec' mixed Tryz.func139 (by kernel_rfl) (by kernel_rfl) ac139_ok 7 rfl (by decide) [(.tmp 10)] (by kernel_rfl) ?_
  intro C hC hI
  unfold ac139
  simp only [go_sem, Nat.reduceBEq, Nat.reduceAdd, LQ, eq_false hL0, e0, putCells, w1, w2, decide_false, not_false_eq_true]
  refine loop_ky n (fun i => ∀ q, q < i → canF b t pence js (lo + paidI j (costI b t j (j.hl + q) j.pl)) (hi + paidI j (costI b t j (j.hl + q) j.ph)) = false) [0, 1, 2, 4, 5, 6, 11, 35] (fun i => [(36, .p (pi i))]) (fun _ => LQ κ b t pence ++ [.cells [.p (pi j.kind), .p (pi j.hl), .p (pi j.hh), .p (pi j.pl), .p (pi j.ph), .p (pi j.cap)]]) (fun _ => some []) (fun q h => absurd h (by omega)) (by simp [Wk, wkT, wkL, look, AV.lo, AV.lo.loL, keepS, LQ]) ?_
  rintro i ⟨hi2, hok⟩
  unfold LQ
  simp only [go_sem, Nat.reduceBEq, Nat.reduceAdd]
  refine ⟨fun h5 => ?_, fun h5 => ?_⟩
  · have hi3 : i < n := by omega
    have w3 : IntKind.i64.wrap (j.hl + (i : Int)) = j.hl + i := wrap_id (by omega) (by omega)
    have cl := (cost_le ho t j (h := j.hl + i) (p := j.pl) (by omega) (by omega)).2
    have ch := (cost_le ho t j (h := j.hl + i) (p := j.ph) (by omega) (by omega)).2
    have pl := paid_le (j := j) f1 cl.1
    have ph := paid_le (j := j) f1 ch.1
    simp only [go_sem, w3]
    refine call_pure2 hC (cost_sem κ ho ht hj (h := j.hl + i) (p := j.pl) (by omega) (by omega)) rfl (PVleL_refl _) ?_
    rintro _ rfl
    simp only [go_sem, Nat.reduceBEq]
    refine call_pure2 hC (cost_sem κ ho ht hj (h := j.hl + i) (p := j.ph) (by omega) (by omega)) rfl (PVleL_refl _) ?_
    rintro _ rfl
    simp only [go_sem, Nat.reduceBEq, Nat.reduceAdd, hsl]
    refine call_pure2 hC (paid_sem j ..) rfl (PVleL_refl _) ?_
    rintro r rfl
    simp only [go_sem, Nat.reduceBEq, wrap_id (n := lo + paidI j (costI b t j (j.hl + i) j.pl)) (by omega) (by omega)]
    refine call_pure2 hC (paid_sem j ..) rfl (PVleL_refl _) ?_
    rintro r rfl
    simp only [go_sem, Nat.reduceBEq, wrap_id (n := hi + paidI j (costI b t j (j.hl + i) j.ph)) (by omega) (by omega)]
    refine call_mem2 hC [0, 1, 2, 3] (hrec .sh (lo + paidI j (costI b t j (j.hl + i) j.pl)) (hi + paidI j (costI b t j (j.hl + i) j.ph)) (by omega) (by omega) (by omega) (by omega)) rfl (by decide) rfl rfl rfl rfl (by simp) ?_
    rintro v L' ys' ⟨hL2, rfl, rfl⟩ -
    obtain ⟨X, rfl⟩ := take_LQ hL2
    unfold LQ
    cases hc : canF b t pence js (lo + paidI j (costI b t j (j.hl + i) j.pl)) (hi + paidI j (costI b t j (j.hl + i) j.ph))
    · simp only [go_sem, Nat.reduceBEq, Nat.reduceAdd, wrap_succ (k := i) (by omega), upd4, mat4_0, mat4_1, mat4_2, mat4_3]
      refine ⟨⟨i + 1, hi3, fun q hq => ?_⟩, by simp only; omega, by simp [Wk, wkT, wkL, look, AV.lo, AV.lo.loL, ABlk.toZ]⟩
      by_cases e : q = i
      · rw [e]; exact hc
      · exact hok q (by omega)
    · have hany : ((List.range n).any fun (q : Nat) => canF b t pence js (lo + paidI j (costI b t j (j.hl + q) j.pl)) (hi + paidI j (costI b t j (j.hl + q) j.ph))) = true := List.any_eq_true.2 ⟨i, List.mem_range.2 hi3, hc⟩
      rw [hany]
      simp only [go_sem, Nat.reduceBEq, Nat.reduceAdd, upd4, mat4_0, mat4_1, mat4_2, mat4_3]
      exact retMQ_one rfl ⟨rfl, rfl, rfl⟩
  · have hin : i = n := by omega
    subst hin
    have hany : ((List.range i).any fun (q : Nat) => canF b t pence js (lo + paidI j (costI b t j (j.hl + q) j.pl)) (hi + paidI j (costI b t j (j.hl + q) j.ph))) = false := by
      rw [List.any_eq_false]
      intro q hq
      rw [hok q (List.mem_range.1 hq)]
      decide
    rw [hany]
    exact retMQ_one rfl ⟨rfl, rfl, rfl⟩
theorem can_all (κ : KS) {b : EBook} (ho : okE b) {t : Nat × Nat} (ht : t.1 < b.mb.makers.length) (pence : Int) : ∀ js : List Job, (∀ j ∈ js, okJob b j) → CanOk κ b t pence js
  | [], _ => can_nil κ b t pence
  | _ :: js, h => can_cons κ ho ht pence (h _ (List.mem_cons_self ..)) (can_all κ ho ht pence js fun j hj => h j (List.mem_cons_of_mem _ hj))
theorem canPay_sem (κ : KS) {b : EBook} (ho : okE b) {t : Nat × Nat} (ht : t.1 < b.mb.makers.length) (pence : Int) : Sem1 102 [bookK κ b, .agg (trC t), pi pence] (pb (canP b pence t)) := by
  have hl := ho.2.1.2
  have h := can_all κ ho ht pence b.jobs ho.2.2.2.1 .full 0 0 (by omega) (by omega) (by omega) (by omega)
  unfold canP
  refine semC_of_exec' mixed Tryz.func102 (by kernel_rfl) (by kernel_rfl) ac102_ok 3 rfl (by decide) [(.tmp 6)] (by kernel_rfl) ?_
  intro hr C hC hI
  unfold ac102
  simp only [go_sem, Nat.reduceBEq, Nat.reduceAdd, putCells]
  refine call_pure2 hC (jobs_sem κ hl) rfl (PVleL_refl _) ?_
  rintro _ rfl
  simp only [go_sem, Nat.reduceBEq]
  refine call_mem2 hC [0, 1, 2, 3] h rfl (by decide) rfl rfl rfl rfl (by simp) ?_
  rintro v L' ys' ⟨hL2, rfl, rfl⟩ -
  simp only [go_sem, Nat.reduceBEq, Nat.reduceAdd]
  exact retQ_one rfl rfl
theorem handedI_sem (k : SK) (sz : Nat) (l : List Int) (hsz : sz = 1 ∨ l = []) : Sem1 103 [.sl k sz (ints l)] (.sl .full 1 (ints l)) := by
  refine semC_of_exec' mixed Tryz.func103 (by kernel_rfl) (by kernel_rfl) ac103_ok 1 rfl (by decide) [(.tmp 2)] (by kernel_rfl) ?_
  intro hr C hC hI
  unfold ac103
  simp only [go_sem, Nat.reduceBEq, slcS_all (sz := sz) (sz' := 1) (k := k) (es := ints l) (hsz.imp id fun h => by rw [h]; rfl)]
  exact retQ_one rfl rfl
theorem Index_sem (l : List Int) (x : Int) : Sem1 138 [pis l, pi x] (pi (idxI l fun y => decide (x = y))) := by
  refine semC_of_exec' mixed Tryz.func138 (by kernel_rfl) (by kernel_rfl) ac138_ok 2 rfl (by decide) [(.tmp 4)] (by kernel_rfl) ?_
  intro hr C hC hI
  unfold ac138
  simp only [go_sem, Nat.reduceBEq, List.length_map]
  have hl := real_len (i := 0) hr rfl
  rw [List.length_map] at hl
  refine loop_k l.length (fun j => ∀ y ∈ l.take j, decide (x = y) = false) [0, 1, 7] (fun j => [(8, .p (pi j))]) (by simp) rfl ⟨rfl, by simp, by simp⟩ (by simp [wkT, look, AV.lo]) ?_
  rintro j ⟨hj, hok⟩
  simp only [go_sem, Nat.reduceBEq]
  refine ⟨fun h5 => ?_, fun h5 => ?_⟩
  · have hj2 : j < l.length := by omega
    simp only [go_sem, Nat.reduceBEq, iadr_pis hj2]
    refine ⟨fun h6 => ?_, fun h6 => ?_⟩
    · exact retQ_one rfl (by rw [idxI_some hj2 (p := fun y => decide (x = y)) (decide_eq_true h6) hok])
    · simp only [go_sem, wrap_succ (k := j) (by omega)]
      refine ⟨⟨j + 1, hj2, take_next hj2 hok (decide_eq_false h6)⟩, by simp only; omega, by simp [Wk, wkT, wkL, look, AV.lo]⟩
  · have hjn : j = l.length := by omega
    subst hjn
    rw [List.take_length] at hok
    exact retQ_one rfl (by rw [idxI_none hok])
theorem Contains_sem (l : List Int) (x : Int) : Sem1 101 [pis l, pi x] (pb (decide (x ∈ l))) := by
  refine semC_of_exec' mixed Tryz.func101 (by kernel_rfl) (by kernel_rfl) ac101_ok 2 rfl (by decide) [(.tmp 4)] (by kernel_rfl) ?_
  intro hr C hC hI
  unfold ac101
  simp only [go_sem, Nat.reduceBEq]
  refine call_pure2 hC (Index_sem l x) rfl (PVleL_refl _) ?_
  rintro r rfl
  simp only [go_sem, Nat.reduceBEq]
  refine retQ_one rfl (congrArg pb ?_)
  rw [idxI_dec, Bool.eq_iff_iff]
  simp
theorem whose_sem (κ : KS) {b : EBook} (ho : okE b) (hwho : ∀ t ∈ known b, t.1 < b.mb.makers.length) (pence : Int) : Sem1 67 [bookK κ b, pi pence] (.sl .full 1 (ints (natL (whoseL b pence)))) := by
  have hkl := known_len ho.1.1
  have hcan := fun (t : Nat × Nat) (ht : t.1 < b.mb.makers.length) => canPay_sem κ ho ht pence
  unfold whoseL
  unfold bookK at *
  obtain ⟨Kn, hKn⟩ : ∃ Kn, known b = Kn := ⟨_, rfl⟩
  rw [hKn] at hkl hwho hcan ⊢
  have hwl : ∀ i, (whosF (canP b pence) (Kn.take i)).length ≤ 1000 := fun i => by
    have : ∀ (P : Nat × Nat → Bool) (l : List (Nat × Nat)) (acc : List Nat), (l.foldl (whoF P) acc).length ≤ acc.length + l.length := by
      intro P l
      induction l with
      | nil => intro acc; simp
      | cons t l ih =>
        intro acc
        have := ih (whoF P acc t)
        have h2 : (whoF P acc t).length ≤ acc.length + 1 := by
          unfold whoF
          split
          · simp
          · omega
        rw [List.foldl_cons, List.length_cons]
        omega
    have h := this (canP b pence) (Kn.take i) []
    have h2 : (Kn.take i).length ≤ 320 := by rw [List.length_take]; omega
    unfold whosF
    simp only [List.length_nil, Nat.zero_add] at h
    omega
  refine semC_of_exec' mixed Tryz.func67 (by kernel_rfl) (by kernel_rfl) ac67_ok 2 rfl (by decide) [(.tmp 4)] (by kernel_rfl) ?_
  intro hr C hC hI
  unfold ac67
  simp only [go_sem, Nat.reduceBEq, List.length_map]
  refine loop_g (α := Nat × Option Nat) (fun a => a.1 ≤ Kn.length ∧ (a.2 = none → ints (natL (whosF (canP b pence) (Kn.take a.1))) = [])) (fun a => Kn.length - a.1) [0, 1, 11, 12] (fun a => [(5, .p (slZ 3 1 a.2 (ints (natL (whosF (canP b pence) (Kn.take a.1)))))), (13, .p (pi a.1))]) (fun _ => []) (fun a => a.2.toList) (0, none) ⟨by omega, fun _ => rfl⟩ (by simp [Wk, wkT, wkL, look, AV.lo, upS_eq, keepS_nil, keepS_cons, slZ]) ?_
  rintro ⟨i, o⟩ ⟨hi, h0⟩
  replace hi : i ≤ Kn.length := hi
  replace h0 : o = none → ints (natL (whosF (canP b pence) (Kn.take i))) = [] := h0
  have hw := hwl i
  simp only [go_sem, Nat.reduceBEq]
  refine ⟨fun h5 => ?_, fun h5 => ?_⟩
  · have hi2 : i < Kn.length := by omega
    obtain ⟨t, et⟩ : ∃ t, Kn[i] = t := ⟨_, rfl⟩
    have ht : t.1 < b.mb.makers.length := hwho t (et ▸ List.getElem_mem hi2)
    have e1 := iadr_map (f := trC) (kd := .sh) (sz := 2) hi2
    have hnx := whosF_next (canP b pence) hi2
    rw [et] at e1 hnx
    simp only [go_sem, Nat.reduceBEq, Nat.reduceAdd, e1, putCells]
    refine call_pure2 hC (Contains_sem (natL (whosF (canP b pence) (Kn.take i))) t.1) rfl ⟨slZ_le h0, PVle.refl _, trivial⟩ ?_
    rintro _ rfl
    by_cases hm : t.1 ∈ whosF (canP b pence) (Kn.take i)
    · rw [if_neg (fun h => h.1 hm)] at hnx
      rw [decide_eq_true (mem_natL.2 hm)]
      simp only [go_sem, Nat.reduceBEq, wrap_succ (k := i) (by omega)]
      refine ⟨⟨(i + 1, o), hi2, by rw [hnx]; exact h0⟩, by simp only; omega, ?_⟩
      simp only [hnx]
      cases o <;> simp [Wk, wkT, wkL, look, AV.lo, slZ]
    rw [decide_eq_false (fun h => hm (mem_natL.1 h))]
    simp only [go_sem, Nat.reduceBEq, Nat.reduceAdd]
    refine call_pure2 hC (hcan t ht) rfl (PVleL_refl _) ?_
    rintro _ rfl
    cases hc : canP b pence t
    · rw [if_neg (fun h => by rw [hc] at h; exact absurd h.2 (by decide))] at hnx
      simp only [go_sem, Nat.reduceBEq, wrap_succ (k := i) (by omega)]
      refine ⟨⟨(i + 1, o), hi2, by rw [hnx]; exact h0⟩, by simp only; omega, ?_⟩
      simp only [hnx]
      cases o <;> simp [Wk, wkT, wkL, look, AV.lo, slZ]
    · rw [if_pos ⟨hm, hc⟩] at hnx
      have hnx2 : ints (natL (whosF (canP b pence) (Kn.take (i + 1)))) = ints (natL (whosF (canP b pence) (Kn.take i))) ++ [[pi (t.1 : Nat)]] := by
        rw [hnx]
        simp [natL]
      simp only [go_sem, Nat.reduceBEq, putCells]
      refine app_slZ h0 (by rw [List.length_map, natL_len]; omega) (fun t ht => ht) fun tk htk => ?_
      simp only [go_sem, Nat.reduceBEq, wrap_succ (k := i) (by omega)]
      refine ⟨⟨(i + 1, some tk), hi2, (fun h => by cases h)⟩, by simp only; omega, ?_⟩
      simp only [hnx2]
      cases o <;> simp [Wk, wkT, wkL, look, AV.lo, slZ]
  · have hin : i = Kn.length := by omega
    subst hin
    rw [List.take_length] at h0 ⊢
    cases o with
    | none =>
      have he := h0 rfl
      rw [he]
      refine call_pure2 hC (handedI_sem .full 0 [] (.inr rfl)) rfl (PVleL_refl _) ?_
      rintro _ rfl
      simp only [go_sem, Nat.reduceBEq]
      exact retQ_one rfl rfl
    | some t =>
      refine call_pure2 hC (handedI_sem (.own t 3 1) 1 (natL (whosF (canP b pence) Kn)) (.inl rfl)) rfl (PVleL_refl _) ?_
      rintro _ rfl
      simp only [go_sem, Nat.reduceBEq]
      exact retQ_one rfl rfl
end Go.Proofs.YtlcpplkbmlmmbaaGreat.Mk.Me
namespace Go.Proofs.YtlcpplkbmlmmbaaGreat.Mk.Me
open Go.RowKit Ls
def ac71 : AC := (AC.seq (AC.ops [(AOp.mk (some 4) (AK.mv (AX.c (PV.sl SK.full 0 []))) none 0 false true)]) (AC.seq (AC.ops [(AOp.mk (some 12) (AK.build [(PV.val (Value.int IntKind.i64 0)), (PV.val (Value.int IntKind.i64 0)), (PV.val (Value.int IntKind.i64 0)), (PV.val (Value.int IntKind.i64 0))] []) none 0 false true), (AOp.mk (some 13) (AK.bslice false 136 4 1 [(PV.val (Value.int IntKind.i64 0)), (PV.val (Value.int IntKind.i64 0)), (PV.val (Value.int IntKind.i64 0)), (PV.val (Value.int IntKind.i64 0))] [(0, (4, (AX.t 12)))]) none 1 false true), (AOp.mk (some 5) (AK.mv (AX.t 13)) none 2 false true)]) (AC.seq (AC.seq (AC.ops [(AOp.mk (some 6) (AK.mv (AX.c (PV.val (Value.int IntKind.i64 1)))) none 0 false true)]) (AC.block 0 (AC.loop (AC.seq (AC.seq (AC.ops [(AOp.mk (some 14) (AK.mv (AX.t 6)) none 0 false true), (AOp.mk (some 15) (AK.mv (AX.t 1)) none 1 false true), (AOp.mk (some 16) (AK.bin false BinOp.leq (AX.t 14) (AX.t 15)) none 2 false true)]) (AC.cond (AX.t 16) AC.skip (AC.exit 0))) (AC.seq (AC.block 1 (AC.seq (AC.ops [(AOp.mk (some 7) (AK.new (PV.agg [(PV.val (Value.int IntKind.i64 0)), (PV.val (Value.int IntKind.i64 0)), (PV.val (Value.int IntKind.i64 0)), (PV.val (Value.int IntKind.i64 0))])) none 0 false true)]) (AC.seq (AC.seq (AC.ops [(AOp.mk (some 19) (AK.mv (AX.t 0)) none 0 false true), (AOp.mk (some 20) (AK.len (AX.t 19)) none 1 false true), (AOp.mk (some 21) (AK.mv (AX.c (PV.val (Value.int IntKind.i64 0)))) none 2 false true)]) (AC.block 2 (AC.loop (AC.seq (AC.ops [(AOp.mk (some 22) (AK.bin false BinOp.lss (AX.t 21) (AX.t 20)) none 0 false true)]) (AC.seq (AC.cond (AX.t 22) AC.skip (AC.exit 2)) (AC.seq (AC.block 3 (AC.seq (AC.ops [(AOp.mk (some 23) (AK.mv (AX.t 21)) none 0 false true), (AOp.mk (some 24) (AK.iadrS 1 (AX.t 19) (AX.t 21)) none 1 false true), (AOp.mk (some 25) (AK.ld none (AX.t 24)) none 2 false true), (AOp.mk (some 8) (AK.mv (AX.t 23)) none 3 false true), (AOp.mk (some 9) (AK.mv (AX.t 25)) none 4 false true)]) (AC.seq (AC.seq (AC.ops [(AOp.mk (some 26) (AK.mv (AX.t 9)) none 0 false true), (AOp.mk (some 27) (AK.mv (AX.t 6)) none 1 false true), (AOp.mk (some 28) (AK.bin false BinOp.gtr (AX.t 26) (AX.t 27)) none 2 false true)]) (AC.cond (AX.t 28) (AC.exit 2) AC.skip)) (AC.seq (AC.ops [(AOp.mk (some 29) (AK.mv (AX.t 5)) none 0 false true), (AOp.mk (some 30) (AK.mv (AX.t 6)) none 1 false true), (AOp.mk (some 31) (AK.mv (AX.t 9)) none 2 false true), (AOp.mk (some 32) (AK.bin false BinOp.sub (AX.t 30) (AX.t 31)) none 3 false true), (AOp.mk (some 33) (AK.iadrS 4 (AX.t 29) (AX.t 32)) none 4 false true), (AOp.mk (some 34) (AK.ld (some 4) (AX.t 33)) none 5 false true), (AOp.mk (some 35) (AK.mv (AX.t 8)) none 6 false true), (AOp.mk (some 36) (AK.call 104 [(AX.t 34), (AX.t 35)]) none 7 false true), (AOp.mk (some 10) (AK.new (PV.agg [(PV.val (Value.int IntKind.i64 0)), (PV.val (Value.int IntKind.i64 0)), (PV.val (Value.int IntKind.i64 0)), (PV.val (Value.int IntKind.i64 0))])) none 8 false true), (AOp.mk none (AK.st 4 (AX.t 10) (AX.t 36)) none 9 false true)]) (AC.seq (AC.ops [(AOp.mk (some 37) (AK.ld (some 4) (AX.t 7)) none 0 false true), (AOp.mk (some 38) (AK.build [(PV.val (Value.int IntKind.i64 0)), (PV.val (Value.int IntKind.i64 0)), (PV.val (Value.int IntKind.i64 0)), (PV.val (Value.int IntKind.i64 0))] []) none 1 false true), (AOp.mk (some 39) (AK.eqs [CK.i, CK.i, CK.i, CK.i] false (AX.t 37) (AX.t 38)) none 2 false true), (AOp.mk (some 40) (AK.mv (AX.t 39)) none 3 false true), (AOp.mk (some 41) (AK.ld (some 4) (AX.t 10)) (some (40, false)) 4 false true), (AOp.mk (some 42) (AK.ld (some 4) (AX.t 7)) (some (40, false)) 5 false true), (AOp.mk (some 43) (AK.call 105 [(AX.t 41), (AX.t 42)]) (some (40, false)) 6 false true), (AOp.mk (some 44) (AK.pick (AX.t 40) (AX.c (PV.val (Value.bool true))) (AX.t 43)) none 7 false true)]) (AC.cond (AX.t 44) (AC.ops [(AOp.mk (some 45) (AK.ld (some 4) (AX.t 10)) none 0 false true), (AOp.mk none (AK.st 4 (AX.t 7) (AX.t 45)) none 1 false true)]) AC.skip)))))) (AC.ops [(AOp.mk (some 46) (AK.bin false BinOp.add (AX.t 21) (AX.c (PV.val (Value.int IntKind.i64 1)))) none 0 false true), (AOp.mk (some 21) (AK.mv (AX.t 46)) none 1 false true)]))))))) (AC.ops [(AOp.mk (some 47) (AK.mv (AX.t 5)) none 0 false true), (AOp.mk (some 48) (AK.ld (some 4) (AX.t 7)) none 1 false true), (AOp.mk (some 49) (AK.bslice false 136 4 1 [(PV.val (Value.int IntKind.i64 0)), (PV.val (Value.int IntKind.i64 0)), (PV.val (Value.int IntKind.i64 0)), (PV.val (Value.int IntKind.i64 0))] [(0, (4, (AX.t 48)))]) none 2 false true), (AOp.mk (some 50) (AK.app false 136 4 32 [(PV.val (Value.int IntKind.i64 0)), (PV.val (Value.int IntKind.i64 0)), (PV.val (Value.int IntKind.i64 0)), (PV.val (Value.int IntKind.i64 0))] (AX.t 47) (AX.t 49)) none 3 false true), (AOp.mk (some 5) (AK.mv (AX.t 50)) none 4 false true)])))) (AC.ops [(AOp.mk (some 17) (AK.mv (AX.t 6)) none 0 false true), (AOp.mk (some 18) (AK.bin false BinOp.add (AX.t 17) (AX.c (PV.val (Value.int IntKind.i64 1)))) none 1 false true), (AOp.mk (some 6) (AK.mv (AX.t 18)) none 2 false true)])))))) (AC.seq (AC.ops [(AOp.mk (some 51) (AK.mv (AX.t 5)) none 0 false true), (AOp.mk (some 52) (AK.mv (AX.t 1)) none 1 false true), (AOp.mk (some 53) (AK.iadrS 4 (AX.t 51) (AX.t 52)) none 2 false true), (AOp.mk (some 54) (AK.ld (some 4) (AX.t 53)) none 3 false true), (AOp.mk (some 11) (AK.new (PV.agg [(PV.val (Value.int IntKind.i64 0)), (PV.val (Value.int IntKind.i64 0)), (PV.val (Value.int IntKind.i64 0)), (PV.val (Value.int IntKind.i64 0))])) none 4 false true), (AOp.mk none (AK.st 4 (AX.t 11) (AX.t 54)) none 5 false true)]) (AC.seq (AC.ops [(AOp.mk (some 55) (AK.mv (AX.t 0)) none 0 false true), (AOp.mk (some 56) (AK.len (AX.t 55)) none 1 false true), (AOp.mk (some 57) (AK.slcA 1 4 (AX.t 11) none (some (AX.t 56))) none 2 false true), (AOp.mk (some 58) (AK.call 103 [(AX.t 57)]) none 3 false true), (AOp.mk (some 4) (AK.mv (AX.t 58)) none 4 false true)]) AC.ret)))))
abbrev pursC (l : List (List Int)) : List (List PV) := l.map purC
abbrev cell4 (p : List Int) : ABlk := .cells (p.map fun x => .p (pi x))
end Go.Proofs.YtlcpplkbmlmmbaaGreat.Mk.Me
