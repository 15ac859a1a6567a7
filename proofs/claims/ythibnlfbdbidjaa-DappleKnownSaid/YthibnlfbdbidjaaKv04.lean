/- Contracts of dapple: rows that no horse has. Contracts of dapple: what is not known. -/
import Derived.Test.YthibnlfbdbidjaaKv03
namespace Go.Proofs.Ythibnlfbdbidjaa
open Go.RowKit
def ac80 : AC := (AC.seq (AC.ops [(AOp.mk (some 1) (AK.box 1 (AX.t 0)) none 0 false true), (AOp.mk (some 2) (AK.mv (AX.c (PV.val Value.nilFunc))) none 1 false true)]) (AC.seq (AC.ops [(AOp.mk (some 4) (AK.ld none (AX.t 1)) none 0 false true), (AOp.mk (some 5) (AK.call 115 [(AX.t 4)]) none 1 false true), (AOp.mk (some 3) (AK.new (PV.agg [(PV.val (Value.int IntKind.u64 0)), (PV.val (Value.int IntKind.u64 0)), (PV.val (Value.int IntKind.u64 0)), (PV.val (Value.int IntKind.u64 0)), (PV.val (Value.int IntKind.u64 0)), (PV.val (Value.int IntKind.u64 0)), (PV.val (Value.int IntKind.u64 0)), (PV.val (Value.int IntKind.u64 0)), (PV.val (Value.int IntKind.u64 0)), (PV.val (Value.int IntKind.u64 0)), (PV.val (Value.int IntKind.u64 0)), (PV.val (Value.int IntKind.u64 0)), (PV.val (Value.int IntKind.u64 0)), (PV.val (Value.int IntKind.u64 0)), (PV.val (Value.int IntKind.u64 0)), (PV.val (Value.int IntKind.u64 0)), (PV.val (Value.int IntKind.u64 0)), (PV.val (Value.int IntKind.u64 0)), (PV.val (Value.int IntKind.u64 0)), (PV.val (Value.int IntKind.u64 0)), (PV.val (Value.int IntKind.u64 0)), (PV.val (Value.int IntKind.u64 0)), (PV.val (Value.int IntKind.u64 0)), (PV.val (Value.int IntKind.u64 0)), (PV.val (Value.int IntKind.u64 0)), (PV.val (Value.int IntKind.u64 0)), (PV.val (Value.int IntKind.u64 0)), (PV.val (Value.int IntKind.u64 0)), (PV.val (Value.int IntKind.u64 0)), (PV.val (Value.int IntKind.u64 0)), (PV.val (Value.int IntKind.u64 0)), (PV.val (Value.int IntKind.u64 0))])) none 2 false true), (AOp.mk none (AK.st 32 (AX.t 3) (AX.t 5)) none 3 false true)]) (AC.seq (AC.ops [(AOp.mk (some 6) (AK.mkf 116 [] [(AX.t 1), (AX.t 3)]) none 0 false true), (AOp.mk (some 2) (AK.mv (AX.t 6)) none 1 false true)]) AC.ret)))
theorem ac80_ok : cCode Try.prog (fun _ => false) Try.f80.ntmps (Try.f80.body.getD .skip) = some ac80 := by kernel_rfl
def ac116 : AC := (AC.seq (AC.ops [(AOp.mk (some 3) (AK.box 1 (AX.t 0)) none 0 false true)]) (AC.seq (AC.ops [(AOp.mk (some 4) (AK.new (PV.val Value.nilFunc)) none 0 false true)]) (AC.seq (AC.ops [(AOp.mk (some 5) (AK.mkf 117 [] [(AX.t 1), (AX.t 3), (AX.t 4), (AX.t 2)]) none 0 false true), (AOp.mk none (AK.st 1 (AX.t 4) (AX.t 5)) none 1 false true)]) (AC.ops [(AOp.mk (some 6) (AK.ld none (AX.t 4)) none 0 false true), (AOp.mk (some 7) (AK.callv (AX.t 6) [(AX.c (PV.sl SK.full 0 [])), (AX.c (PV.val (Value.int IntKind.u64 18446744073709551615)))]) none 1 false true)]))))
theorem ac116_ok : cCode Try.prog (fun _ => false) Try.f116.ntmps (Try.f116.body.getD .skip) = some ac116 := by kernel_rfl
def ac117 : AC := (AC.seq (AC.ops [(AOp.mk (some 8) (AK.mv (AX.c (PV.val (Value.bool false)))) none 0 false true)]) (AC.seq (AC.ops [(AOp.mk (some 11) (AK.mv (AX.t 0)) none 0 false true), (AOp.mk (some 12) (AK.len (AX.t 11)) none 1 false true), (AOp.mk (some 9) (AK.mv (AX.t 12)) none 2 false true)]) (AC.seq (AC.seq (AC.ops [(AOp.mk (some 13) (AK.mv (AX.t 9)) none 0 false true), (AOp.mk (some 14) (AK.ld none (AX.t 2)) none 1 false true), (AOp.mk (some 15) (AK.nilc (AX.t 14)) none 2 false true), (AOp.mk (some 16) (AK.fadr 0 (AX.t 15)) none 3 false true), (AOp.mk (some 17) (AK.fadr 0 (AX.t 16)) none 4 false true), (AOp.mk (some 18) (AK.ld none (AX.t 17)) none 5 false true), (AOp.mk (some 19) (AK.bin false BinOp.eql (AX.t 13) (AX.t 18)) none 6 false true)]) (AC.cond (AX.t 19) (AC.seq (AC.ops [(AOp.mk (some 20) (AK.mv (AX.t 1)) none 0 true true), (AOp.mk (some 21) (AK.bin false BinOp.neq (AX.t 20) (AX.c (PV.val (Value.int IntKind.u64 0)))) none 1 true true), (AOp.mk (some 22) (AK.mv (AX.t 21)) none 2 true true), (AOp.mk (some 23) (AK.ld none (AX.t 3)) (some (22, false)) 3 true false), (AOp.mk (some 24) (AK.mv (AX.t 0)) (some (22, false)) 4 true false), (AOp.mk (some 25) (AK.call 66 [(AX.t 24)]) (some (22, false)) 5 false false), (AOp.mk (some 26) (AK.callv (AX.t 23) [(AX.t 25)]) (some (22, false)) 6 false true), (AOp.mk (some 27) (AK.pick (AX.t 22) (AX.c (PV.val (Value.bool true))) (AX.t 26)) none 7 true true), (AOp.mk (some 8) (AK.mv (AX.t 27)) none 8 true true)]) AC.ret) AC.skip)) (AC.seq (AC.seq (AC.ops [(AOp.mk (some 28) (AK.mv (AX.c (PV.val (Value.int IntKind.i64 0)))) none 0 false true)]) (AC.block 0 (AC.loop (AC.seq (AC.ops [(AOp.mk (some 29) (AK.bin false BinOp.lss (AX.t 28) (AX.c (PV.val (Value.int IntKind.i64 4)))) none 0 false true)]) (AC.seq (AC.cond (AX.t 29) AC.skip (AC.exit 0)) (AC.seq (AC.block 1 (AC.seq (AC.ops [(AOp.mk (some 30) (AK.mv (AX.t 28)) none 0 false true), (AOp.mk (some 10) (AK.mv (AX.t 30)) none 1 false true)]) (AC.seq (AC.ops [(AOp.mk (some 31) (AK.ld none (AX.t 4)) none 0 true false), (AOp.mk (some 32) (AK.mv (AX.t 0)) none 1 true false), (AOp.mk (some 33) (AK.mv (AX.t 10)) none 2 true false), (AOp.mk (some 35) (AK.mv (AX.t 1)) none 4 true false), (AOp.mk (some 36) (AK.mv (AX.t 9)) none 5 true false), (AOp.mk (some 37) (AK.mv (AX.t 10)) none 6 true false), (AOp.mk (some 38) (AK.iadrA 4 8 (AX.t 5) (AX.t 36)) none 7 true false), (AOp.mk (some 39) (AK.iadrA 1 4 (AX.t 38) (AX.t 37)) none 8 true false), (AOp.mk (some 40) (AK.ld none (AX.t 39)) none 9 true false), (AOp.mk (some 41) (AK.bin false BinOp.and (AX.t 35) (AX.t 40)) none 10 true false), (AOp.mk (some 34) (AK.call 118 [(AX.t 32), (AX.t 33)]) none 3 false false), (AOp.mk (some 42) (AK.callv (AX.t 31) [(AX.t 34), (AX.t 41)]) none 11 false true), (AOp.mk (some 43) (AK.un UnOp.not (AX.t 42)) none 12 true true)]) (AC.cond (AX.t 43) (AC.seq (AC.ops [(AOp.mk (some 8) (AK.mv (AX.c (PV.val (Value.bool false)))) none 0 false true)]) AC.ret) AC.skip)))) (AC.ops [(AOp.mk (some 44) (AK.bin false BinOp.add (AX.t 28) (AX.c (PV.val (Value.int IntKind.i64 1)))) none 0 false true), (AOp.mk (some 28) (AK.mv (AX.t 44)) none 1 false true)]))))))) (AC.seq (AC.ops [(AOp.mk (some 8) (AK.mv (AX.c (PV.val (Value.bool true)))) none 0 false true)]) AC.ret)))))
theorem ac117_ok : cCode Try.prog (fun _ => false) Try.f117.ntmps (Try.f117.body.getD .skip) = some ac117 := by kernel_rfl
def ac79 : AC := (AC.seq (AC.ops [(AOp.mk (some 2) (AK.new (PV.sl SK.full 0 [])) none 0 false true), (AOp.mk (some 3) (AK.new (PV.val (Value.bool false))) none 1 false true)]) (AC.seq (AC.seq (AC.ops [(AOp.mk (some 6) (AK.mv (AX.t 0)) none 0 false true)]) (AC.block 0 (AC.rng (AX.t 6) [7] (AC.ops [(AOp.mk (some 4) (AK.mv (AX.t 7)) none 0 false true)]) (AC.block 1 (AC.seq (AC.ops [(AOp.mk (some 8) (AK.mv (AX.t 4)) none 0 false true), (AOp.mk none (AK.st 1 (AX.t 2) (AX.t 8)) none 1 false true), (AOp.mk none (AK.st 1 (AX.t 3) (AX.c (PV.val (Value.bool true)))) none 2 false true)]) AC.ret))))) (AC.seq (AC.ops [(AOp.mk (some 5) (AK.mv (AX.c (PV.sl SK.full 0 []))) none 0 false true)]) (AC.seq (AC.ops [(AOp.mk (some 9) (AK.mv (AX.t 5)) none 0 false true), (AOp.mk none (AK.st 1 (AX.t 2) (AX.t 9)) none 1 false true), (AOp.mk none (AK.st 1 (AX.t 3) (AX.c (PV.val (Value.bool false)))) none 2 false true)]) AC.ret))))
theorem ac79_ok : cCode Try.prog (fun _ => false) Try.f79.ntmps (Try.f79.body.getD .skip) = some ac79 := by kernel_rfl
def ac28 : AC := (AC.seq (AC.ops [(AOp.mk (some 1) (AK.box 2 (AX.t 0)) none 0 false true), (AOp.mk (some 2) (AK.mv (AX.c (PV.sl SK.full 0 []))) none 1 false true), (AOp.mk (some 3) (AK.mv (AX.c (PV.val (Value.int IntKind.i64 0)))) none 2 false true)]) (AC.seq (AC.ops [(AOp.mk (some 9) (AK.ld (some 2) (AX.t 1)) none 0 false true), (AOp.mk (some 10) (AK.call 64 [(AX.t 9), (AX.c (PV.val (Value.bool true)))]) none 1 false true), (AOp.mk (some 8) (AK.mv (AX.t 10)) none 2 false true), (AOp.mk (some 11) (AK.ext (AX.t 8) 0) none 3 false true), (AOp.mk (some 12) (AK.ext (AX.t 8) 1) none 4 false true), (AOp.mk (some 4) (AK.mv (AX.t 11)) none 5 false true), (AOp.mk (some 5) (AK.mv (AX.t 12)) none 6 false true)]) (AC.seq (AC.seq (AC.ops [(AOp.mk (some 13) (AK.mv (AX.t 5)) none 0 false true), (AOp.mk (some 14) (AK.bin false BinOp.neq (AX.t 13) (AX.c (PV.val (Value.int IntKind.i64 0)))) none 1 false true)]) (AC.cond (AX.t 14) (AC.seq (AC.ops [(AOp.mk (some 15) (AK.mv (AX.t 5)) none 0 false true), (AOp.mk (some 2) (AK.mv (AX.c (PV.sl SK.full 0 []))) none 1 false true), (AOp.mk (some 3) (AK.mv (AX.t 15)) none 2 false true)]) AC.ret) AC.skip)) (AC.seq (AC.ops [(AOp.mk (some 17) (AK.mv (AX.t 4)) none 0 false true), (AOp.mk (some 18) (AK.call 80 [(AX.t 17)]) none 1 false true), (AOp.mk (some 19) (AK.call 79 [(AX.t 18)]) none 2 false true), (AOp.mk (some 16) (AK.mv (AX.t 19)) none 3 false true), (AOp.mk (some 20) (AK.ext (AX.t 16) 0) none 4 false true), (AOp.mk (some 21) (AK.ext (AX.t 16) 1) none 5 false true), (AOp.mk (some 6) (AK.mv (AX.t 20)) none 6 false true), (AOp.mk (some 7) (AK.mv (AX.t 21)) none 7 false true)]) (AC.seq (AC.seq (AC.ops [(AOp.mk (some 22) (AK.mv (AX.t 7)) none 0 false true), (AOp.mk (some 23) (AK.un UnOp.not (AX.t 22)) none 1 false true)]) (AC.cond (AX.t 23) (AC.seq (AC.ops [(AOp.mk (some 2) (AK.mv (AX.c (PV.sl SK.full 0 []))) none 0 false true), (AOp.mk (some 3) (AK.mv (AX.c (PV.val (Value.int IntKind.i64 4)))) none 1 false true)]) AC.ret) AC.skip)) (AC.seq (AC.ops [(AOp.mk (some 24) (AK.mv (AX.t 6)) none 0 false true), (AOp.mk (some 2) (AK.mv (AX.t 24)) none 1 false true), (AOp.mk (some 3) (AK.mv (AX.c (PV.val (Value.int IntKind.i64 0)))) none 2 false true)]) AC.ret))))))
theorem ac28_ok : cCode Try.prog (fun _ => false) Try.f28.ntmps (Try.f28.body.getD .skip) = some ac28 := by kernel_rfl
/-- All rows that go on from one, of r sizes more, that no horse has of those that are left. -/
def freeF (w : Nat → Nat → Nat) : Nat → List Int → Nat → List (List Int)
  | 0, l, m => if m = 0 then [l] else []
  | r + 1, l, m => (List.range 4).flatMap fun (s : Nat) => freeF w r (l ++ [(s : Int)]) (m &&& w l.length s)
def spanS (w : Nat → Nat → Nat) (r : Nat) (l : List Int) (m j : Nat) : List (List PV) := encLs (((List.range 4).drop j).flatMap fun (s : Nat) => freeF w r (l ++ [(s : Int)]) (m &&& w l.length s))
theorem spanS_0 (w : Nat → Nat → Nat) (r : Nat) (l : List Int) (m : Nat) : spanS w r l m 0 = encLs (freeF w (r + 1) l m) := rfl
theorem spanS_next (w : Nat → Nat → Nat) (r : Nat) (l : List Int) (m : Nat) {j : Nat} (h : j < 4) : spanS w r l m j = encLs (freeF w r (l ++ [(j : Int)]) (m &&& w l.length j)) ++ spanS w r l m (j + 1) := by
  unfold spanS
  rw [List.drop_eq_getElem_cons (by simpa using h), List.flatMap_cons, encLs_append]
  simp
theorem spanS_end (w : Nat → Nat → Nat) (r : Nat) (l : List Int) (m : Nat) : spanS w r l m 4 = [] := rfl
def FS (k : SK) (b : DBook) (w : Nat → Nat → Nat) : List ABlk := [.cells [.p .yld], .cells [.clo 117 [] [.p (.ptr [bookP k b] 0), .loc 0 0, .loc 1 0, .p (.ptr (arrO w) 0)]]]
theorem take_FS {k : SK} {b : DBook} {w : Nat → Nat → Nat} {L : List ABlk} (h : L.take 2 = FS k b w) : ∃ X, L = FS k b w ++ X := ⟨L.drop 2, by rw [← h, List.take_append_drop]⟩
def FreeOk (k : SK) (b : DBook) (w : Nat → Nat → Nat) (r : Nat) : Prop := ∀ (k' : SK) (sz : Nat) (l : List Int) (m : Nat) (rest : List (List PV)), (sz = 1 ∨ l = []) → l.length + r = nR b → m < 2 ^ 64 →
  SemM Try.prog Fence.wide 117 [.p (.sl k' sz (l.map fun x => [pi x])), .p (pu m), .p (.ptr [bookP k b] 0), .loc 0 0, .loc 1 0, .p (.ptr (arrO w) 0)] (FS k b w) (some (encLs (freeF w r l m) ++ rest))
    (fun v L' ys' => L'.take 2 = FS k b w ∧ ((v = .p (pb true) ∧ ys' = some rest) ∨ (v = .p (pb false) ∧ ys' = none)))
theorem free_zero (k : SK) {b : DBook} (ho : okBook b) (w : Nat → Nat → Nat) : FreeOk k b w 0 := by
  intro k' sz l m rest hsz hl hm
  obtain ⟨h1, h8, hn⟩ := okR ho
  refine semM_of_exec' mixed Try.func117 (by kernel_rfl) (by kernel_rfl) ac117_ok 6 rfl (by decide) [(.tmp 8)] (by kernel_rfl) ?_
  intro C hC hI
  unfold ac117
  simp only [go_sem, Nat.reduceBEq, Nat.reduceAdd, FS, List.length_map]
  have hlm : (l.length : Int) = b.round := by omega
  refine ⟨fun _ => ?_, fun h => absurd hlm h⟩
  by_cases h0 : m = 0
  · subst h0
    refine ⟨fun _ => ?_, fun h => absurd rfl h⟩
    refine call_pure2 hC (handedOn_sem k' sz l hsz) rfl (PVleL_refl _) ?_
    rintro r rfl
    simp only [go_sem, Nat.reduceBEq]
    rw [show encLs (freeF w 0 l 0) ++ rest = [pis l] :: rest from rfl]
    simp only [go_sem, Nat.reduceBEq]
    refine ⟨⟨PVle.sh _ _ _, trivial⟩, ?_, ?_⟩
    · exact retMQ_one rfl ⟨rfl, .inl ⟨rfl, rfl⟩⟩
    · exact retMQ_one rfl ⟨rfl, .inr ⟨rfl, rfl⟩⟩
  · refine ⟨fun h => absurd (by omega) h0, fun _ => ?_⟩
    rw [show encLs (freeF w 0 l m) = [] by unfold freeF; rw [if_neg h0]; rfl]
    exact retMQ_one rfl ⟨rfl, .inl ⟨rfl, rfl⟩⟩
theorem iadr4p {cs : List PV} {j : Nat} (h : j < 8) : iadrAS 4 8 (.p (.ptr cs 0)) (.p (pi j)) = some (.p (.ptr cs (j * 4))) := by
  rw [iadrA_ptr' h]; simp
theorem iadr1p {cs : List PV} {o j : Nat} (h : j < 4) : iadrAS 1 4 (.p (.ptr cs o)) (.p (pi j)) = some (.p (.ptr cs (o + j))) := by
  rw [iadrA_ptr' h]; simp
theorem free_step (k : SK) {b : DBook} (ho : okBook b) {w : Nat → Nat → Nat} (hw : ∀ p s, w p s < 2 ^ 64) {r : Nat} (hrec : FreeOk k b w r) : FreeOk k b w (r + 1) := by
  intro k' sz l m rest hsz hl hm
  obtain ⟨h1, h8, hn⟩ := okR ho
  have hlm : ¬ (l.length : Int) = b.round := by omega
  refine semM_of_exec' mixed Try.func117 (by kernel_rfl) (by kernel_rfl) ac117_ok 6 rfl (by decide) [(.tmp 8)] (by kernel_rfl) ?_
  intro C hC hI
  unfold ac117
  simp only [go_sem, Nat.reduceBEq, Nat.reduceAdd, FS, List.length_map]
  refine ⟨fun h => absurd h hlm, fun _ => ?_⟩
  refine loop_ky 4 (fun _ => True) [0, 1, 4, 5, 9] (fun j => [(28, .p (pi j))]) (fun _ => FS k b w) (fun j => some (spanS w r l m j ++ rest)) trivial (by simp [Wk, wkT, wkL, look, AV.lo, AV.lo.loL, keepS, FS, spanS_0]) ?_
  rintro j ⟨hj, -⟩
  unfold FS
  simp only [go_sem, Nat.reduceBEq]
  refine ⟨fun h5 => ?_, fun h5 => ?_⟩
  · have hj2 : j < 4 := by omega
    have hl8 : l.length < 8 := by omega
    rw [spanS_next w r l m hj2, List.append_assoc]
    simp only [go_sem, Nat.reduceBEq, iadr4p hl8, iadr1p hj2, arrO_getp w hl8 hj2, and_u hm (hw l.length j), Option.map_some]
    refine call_pure2 hC (with_sem k' sz l (j : Int) hsz (by omega)) rfl (PVleL_refl _) ?_
    rintro r rfl
    simp only [go_sem, Nat.reduceBEq]
    refine call_mem2 hC [0, 1] (hrec .sh 1 (l ++ [(j : Int)]) (m &&& w l.length j) _ (.inl rfl) (by rw [List.length_append, List.length_singleton]; omega) (Nat.and_lt_two_pow m (hw _ _))) rfl (by decide) rfl rfl rfl rfl (by simp) ?_
    rintro v L' ys' ⟨hL2, hcase⟩ -
    obtain ⟨X, rfl⟩ := take_FS hL2
    rcases hcase with ⟨rfl, rfl⟩ | ⟨rfl, rfl⟩
    · unfold FS
      simp only [go_sem, Nat.reduceBEq, Nat.reduceAdd, wrap_succ (k := j) (by omega)]
      refine ⟨⟨j + 1, hj2, trivial⟩, by simp only; omega, ?_⟩
      exact by simp [Wk, wkT, wkL, look, AV.lo, AV.lo.loL, ABlk.toZ]
    · unfold FS
      simp only [go_sem, Nat.reduceBEq, Nat.reduceAdd]
      exact retMQ_one rfl ⟨rfl, .inr ⟨rfl, rfl⟩⟩
  · have hjn : j = 4 := by omega
    subst hjn
    rw [spanS_end]
    exact retMQ_one rfl ⟨rfl, .inl ⟨rfl, rfl⟩⟩
theorem free_ok (k : SK) {b : DBook} (ho : okBook b) {w : Nat → Nat → Nat} (hw : ∀ p s, w p s < 2 ^ 64) : ∀ r, FreeOk k b w r
  | 0 => free_zero k ho w
  | r + 1 => free_step k ho hw (free_ok k ho hw r)
def ownW (b : DBook) : Nat → Nat → Nat := ownF b (viewsL b).length
def freeL (b : DBook) : List (List Int) := freeF (ownW b) (nR b) [] (2 ^ 64 - 1)
theorem free_it (k : SK) {b : DBook} (ho : okBook b) : IterC Try.prog Fence.wide 116 [.yld, .ptr [bookP k b] 0, .ptr (arrO (ownW b)) 0] (encLs (freeL b)) := by
  refine iterC_of_exec' mixed Try.func116 (by kernel_rfl) (by kernel_rfl) ac116_ok 3 rfl (by decide) (by kernel_rfl) ?_
  intro C hC hI
  unfold ac116
  simp only [go_sem, Nat.reduceBEq, Nat.reduceAdd, putCells]
  rw [show encLs (freeL b) = encLs (freeF (ownW b) (nR b) [] (2 ^ 64 - 1)) ++ [] from (List.append_nil _).symm]
  refine call_mem2 hC [0, 1] (free_ok k ho (fun p s => ownF_lt ho _ p s) (nR b) .full 0 [] (2 ^ 64 - 1) [] (.inr rfl) (by simp) (by omega)) rfl (by decide) rfl rfl rfl rfl (by simp) ?_
  rintro v L' ys' ⟨hL2, hcase⟩ -
  rcases hcase with ⟨rfl, rfl⟩ | ⟨rfl, rfl⟩
  · exact .inl rfl
  · exact .inr rfl
theorem free_sem (k : SK) {b : DBook} (ho : okBook b) : Sem1 80 [bookP k b] (.clo 116 [] [.ptr [bookP k b] 0, .ptr (arrO (ownW b)) 0]) := by
  refine semC_of_exec' mixed Try.func80 (by kernel_rfl) (by kernel_rfl) ac80_ok 1 rfl (by decide) [(.tmp 2)] (by kernel_rfl) ?_
  intro hr C hC hI
  unfold ac80
  simp only [go_sem, Nat.reduceBEq]
  refine call_pure2 hC (owning_sem k ho) rfl (PVleL_refl _) ?_
  rintro r rfl
  simp only [go_sem, Nat.reduceBEq, Nat.reduceAdd, putCells, List.length_map, arrO_len]
  exact retQ_pur rfl rfl (PVle.refl _) rfl
theorem retQ_cells2_le {P : Program} {t t' : Nat} {ty ty' : TypeId} {R : PV → Prop} {s : AS} {x x' y : PV} (hs : shapeN P ty = some none) (hs' : shapeN P ty' = some none) (h : stillV s (.ld none (.t t)) = some (.p x)) (h' : stillV s (.ld none (.t t')) = some (.p y)) (hle : PVle x x') (hR : R (.tup [x', y])) : retQ P [.cell t ty, .cell t' ty'] R s :=
  ⟨[.p x, .p y], [x, y], s.loc, .tup [x', y], by simp [resA, hs, hs', h, h'], rfl, PVle.tup ⟨hle, PVle.refl _, trivial⟩, hR⟩
theorem noY_arrO (w : Nat → Nat → Nat) : noY.noYL (arrO w) = true := noYL_map (fun _ => rfl) _
def firstL (zs : List (List Int)) : PV := match zs with | [] => .tup [pis [], pb false] | z :: _ => .tup [pis z, pb true]
theorem firstL_sem {f : FuncId} {fi cap : List PV} {zs : List (List Int)} (hit : IterC Try.prog Fence.wide f (fi ++ .yld :: cap) (encLs zs)) (hno : (noY.noYL fi && noY.noYL cap) = true) : Sem1 79 [.clo f fi cap] (firstL zs) := by
  refine semC_of_exec' mixed Try.func79 (by kernel_rfl) (by kernel_rfl) ac79_ok 1 rfl (by decide) [(.cell 2 26), (.cell 3 4)] (by kernel_rfl) ?_
  intro hr C hC hI
  unfold ac79
  simp only [go_sem, Nat.reduceBEq]
  refine rng_m (ι := Unit) zs (fun l => [pis l]) [2, 3] (fun _ _ => [.cells [.p (.sl .full 0 [])], .cells [.p (pb false)]]) (fun _ _ => []) (fun _ => some []) (fun i _ => i = 0) () rfl rfl (hI _ _ _ hit) ?_ (fun _ => rfl) (by simp [Wk, wkT, wkL, look, AV.lo, AV.lo.loL, keepS]) rfl ?_ ?_
  · simp only [show noY.noYR (zs.map fun l => [pis l]) = true from noY_encLs _, hno, Bool.and_true]
  · rintro q - hq hok
    subst hok
    simp only [go_sem, Nat.reduceBEq, Nat.reduceAdd, Nat.reduceEqDiff, putCells]
    refine retQ_cells2 (by kernel_rfl) (by kernel_rfl) rfl rfl ?_
    match zs, hq with
    | z :: r, _ => rfl
  · rintro - hok
    rw [List.eq_nil_of_length_eq_zero hok]
    simp only [go_sem, Nat.reduceBEq, putCells]
    exact retQ_cells2_le (by kernel_rfl) (by kernel_rfl) rfl rfl (PVle.nil .full 0 1) rfl
def newR (b : DBook) : PV := if okBook b then (match freeL b with | [] => .tup [pis [], pi 4] | z :: _ => .tup [pis z, pi 0]) else .tup [pis [], pi 70]
theorem New_sem (k : SK) (b : DBook) : Sem1 28 [.agg (bookC k b)] (newR b) := by
  unfold newR
  refine semC_of_exec' mixed Try.func28 (by kernel_rfl) (by kernel_rfl) ac28_ok 1 rfl (by decide) [(.tmp 2), (.tmp 3)] (by kernel_rfl) ?_
  intro hr C hC hI
  unfold ac28
  simp only [go_sem, Nat.reduceBEq, Nat.reduceAdd]
  refine askP hC k b true (fun hne => ?_) (fun h0 => ?_)
  · have ho : ¬ okBook b := fun ho => errI_ne hne ⟨ho, rfl⟩
    have he : errI b true = 70 := by unfold errI; rw [if_neg ho]
    rw [he, if_neg ho]
    simp only [go_sem, Nat.reduceBEq]
    exact ⟨fun _ => retQ_two_le rfl rfl (PVle.nil _ _ _) (PVle.refl _) rfl, fun h => absurd h (by decide)⟩
  obtain ⟨ho, -⟩ := errI_ok h0
  rw [if_pos ho]
  simp only [go_sem, Nat.reduceBEq]
  refine ⟨fun h => h.elim, fun _ => ?_⟩
  refine call_pure2 hC (free_sem k ho) rfl (PVleL_refl _) ?_
  rintro r rfl
  simp only [go_sem, Nat.reduceBEq]
  refine call_pure2 hC (firstL_sem (free_it k ho) (by simp only [noY.noYL, noY, noY_rows, noY_rowsE, noY_arrO, Bool.and_true])) rfl (PVleL_refl _) ?_
  rintro r rfl
  simp only [go_sem, Nat.reduceBEq]
  unfold firstL
  split
  · simp only [go_sem, Nat.reduceBEq]
    exact retQ_two_le rfl rfl (PVle.nil _ _ _) (PVle.refl _) rfl
  · simp only [go_sem, Nat.reduceBEq]
    exact retQ_two rfl rfl rfl
end Go.Proofs.Ythibnlfbdbidjaa
namespace Go.Proofs.Ythibnlfbdbidjaa
open Go.RowKit
def ac122 : AC := (AC.seq (AC.ops [(AOp.mk (some 4) (AK.new (PV.agg [(PV.val (Value.int IntKind.i64 0)), (PV.val (Value.int IntKind.i64 0)), (PV.val (Value.int IntKind.i64 0)), (PV.val (Value.int IntKind.i64 0)), (PV.val (Value.int IntKind.i64 0)), (PV.val (Value.int IntKind.i64 0)), (PV.val (Value.int IntKind.i64 0)), (PV.val (Value.int IntKind.i64 0))])) none 0 false true)]) (AC.seq (AC.seq (AC.ops [(AOp.mk (some 7) (AK.mv (AX.t 0)) none 0 true false), (AOp.mk (some 8) (AK.nilc (AX.t 7)) none 1 true false), (AOp.mk (some 9) (AK.fadr 2 (AX.t 8)) none 2 true false), (AOp.mk (some 10) (AK.ld none (AX.t 9)) none 3 true false), (AOp.mk (some 11) (AK.mv (AX.t 1)) none 4 true false), (AOp.mk (some 14) (AK.mv (AX.c (PV.val (Value.int IntKind.i64 0)))) none 7 true false), (AOp.mk (some 12) (AK.call 69 [(AX.t 11)]) none 5 false false), (AOp.mk (some 13) (AK.lkp [CK.i, CK.i] true (PV.agg [(PV.val (Value.int IntKind.i64 0)), (PV.val (Value.int IntKind.i64 0)), (PV.val (Value.int IntKind.i64 0)), (PV.val (Value.int IntKind.i64 0)), (PV.val (Value.int IntKind.i64 0)), (PV.val (Value.int IntKind.i64 0)), (PV.val (Value.int IntKind.i64 0)), (PV.val (Value.int IntKind.i64 0))]) false (AX.t 10) (AX.t 12)) none 6 true false)]) (AC.block 0 (AC.loop (AC.seq (AC.ops [(AOp.mk (some 15) (AK.bin false BinOp.lss (AX.t 14) (AX.c (PV.val (Value.int IntKind.i64 8)))) none 0 false true)]) (AC.seq (AC.cond (AX.t 15) AC.skip (AC.exit 0)) (AC.seq (AC.block 1 (AC.seq (AC.ops [(AOp.mk (some 16) (AK.mv (AX.t 14)) none 0 false true), (AOp.mk (some 17) (AK.idx 1 8 none (AX.t 13) (AX.t 14)) none 1 false true), (AOp.mk (some 5) (AK.mv (AX.t 16)) none 2 false true), (AOp.mk (some 6) (AK.mv (AX.t 17)) none 3 false true)]) (AC.seq (AC.ops [(AOp.mk (some 18) (AK.mv (AX.t 6)) none 0 false true), (AOp.mk (some 19) (AK.call 149 [(AX.t 18)]) none 1 false true)]) (AC.cond (AX.t 19) (AC.ops [(AOp.mk (some 20) (AK.mv (AX.t 5)) none 0 false true), (AOp.mk (some 21) (AK.mv (AX.t 6)) none 1 false true), (AOp.mk (some 22) (AK.iadrA 1 8 (AX.t 4) (AX.t 20)) none 2 false true), (AOp.mk none (AK.st 1 (AX.t 22) (AX.t 21)) none 3 false true)]) AC.skip)))) (AC.ops [(AOp.mk (some 23) (AK.bin false BinOp.add (AX.t 14) (AX.c (PV.val (Value.int IntKind.i64 1)))) none 0 false true), (AOp.mk (some 14) (AK.mv (AX.t 23)) none 1 false true)]))))))) (AC.seq (AC.ops [(AOp.mk (some 24) (AK.ld (some 8) (AX.t 4)) none 0 false true), (AOp.mk none (AK.st 8 (AX.t 4) (AX.t 24)) none 1 false true)]) AC.ret)))
theorem ac122_ok : cCode Try.prog (fun _ => false) Try.f122.ntmps (Try.f122.body.getD .skip) = some ac122 := by kernel_rfl
def ac88 : AC := (AC.seq (AC.ops [(AOp.mk (some 2) (AK.mv (AX.c (PV.val (Value.bool false)))) none 0 false true)]) (AC.seq (AC.seq (AC.ops [(AOp.mk (some 4) (AK.mv (AX.t 0)) none 0 false true), (AOp.mk (some 5) (AK.nilc (AX.t 4)) none 1 false true), (AOp.mk (some 6) (AK.fadr 0 (AX.t 5)) none 2 false true), (AOp.mk (some 7) (AK.fadr 1 (AX.t 6)) none 3 false true), (AOp.mk (some 8) (AK.ld none (AX.t 7)) none 4 false true), (AOp.mk (some 9) (AK.len (AX.t 8)) none 5 false true), (AOp.mk (some 10) (AK.mv (AX.c (PV.val (Value.int IntKind.i64 0)))) none 6 false true)]) (AC.block 0 (AC.loop (AC.seq (AC.ops [(AOp.mk (some 11) (AK.bin false BinOp.lss (AX.t 10) (AX.t 9)) none 0 false true)]) (AC.seq (AC.cond (AX.t 11) AC.skip (AC.exit 0)) (AC.seq (AC.block 1 (AC.seq (AC.ops [(AOp.mk (some 12) (AK.mv (AX.t 10)) none 0 false true), (AOp.mk (some 3) (AK.mv (AX.t 12)) none 1 false true)]) (AC.seq (AC.ops [(AOp.mk (some 13) (AK.mv (AX.t 0)) none 0 false true), (AOp.mk (some 14) (AK.mv (AX.t 3)) none 1 false true), (AOp.mk (some 15) (AK.call 122 [(AX.t 13), (AX.t 14)]) none 2 false true), (AOp.mk (some 16) (AK.build [(PV.val (Value.int IntKind.i64 0)), (PV.val (Value.int IntKind.i64 0)), (PV.val (Value.int IntKind.i64 0)), (PV.val (Value.int IntKind.i64 0)), (PV.val (Value.int IntKind.i64 0)), (PV.val (Value.int IntKind.i64 0)), (PV.val (Value.int IntKind.i64 0)), (PV.val (Value.int IntKind.i64 0))] []) none 3 false true), (AOp.mk (some 17) (AK.eqs [CK.i, CK.i, CK.i, CK.i, CK.i, CK.i, CK.i, CK.i] true (AX.t 15) (AX.t 16)) none 4 false true)]) (AC.cond (AX.t 17) (AC.seq (AC.ops [(AOp.mk (some 2) (AK.mv (AX.c (PV.val (Value.bool false)))) none 0 false true)]) AC.ret) AC.skip)))) (AC.ops [(AOp.mk (some 18) (AK.bin false BinOp.add (AX.t 10) (AX.c (PV.val (Value.int IntKind.i64 1)))) none 0 false true), (AOp.mk (some 10) (AK.mv (AX.t 18)) none 1 false true)]))))))) (AC.seq (AC.ops [(AOp.mk (some 2) (AK.mv (AX.c (PV.val (Value.bool true)))) none 0 false true)]) AC.ret)))
theorem ac88_ok : cCode Try.prog (fun _ => false) Try.f88.ntmps (Try.f88.body.getD .skip) = some ac88 := by kernel_rfl
def openF (b : DBook) (h p : Nat) : Int := if openB ((rowL b h 0).getD p 0) then (rowL b h 0).getD p 0 else 0
def openL (b : DBook) (h : Nat) : List Int := arrN (openF b h) 8
theorem arrN_skip (f : Nat → Int) {j : Nat} (h : f j = 0) : arrN f (j + 1) = arrN f j := by
  unfold arrN
  refine List.map_congr_left fun p _ => ?_
  by_cases h1 : p < j
  · rw [if_pos h1, if_pos (by omega)]
  · by_cases h2 : p = j
    · subst h2
      rw [if_neg h1, if_pos (by omega), h]
    · rw [if_neg h1, if_neg (by omega)]
theorem open_sem (k : SK) {b : DBook} (ho : okBook b) {h : Nat} (hh : h < b.horses.length) : Sem1 122 [bookP k b, pi h] (.agg ((openL b h).map pi)) := by
  have hrl : (rowL b h 0).length = 8 := rowN_len ..
  refine semC_of_exec' mixed Try.func122 (by kernel_rfl) (by kernel_rfl) ac122_ok 2 rfl (by decide) [(.cell 4 85)] (by kernel_rfl) ?_
  intro hr C hC hI
  unfold ac122
  simp only [go_sem, Nat.reduceBEq]
  refine call_pure2 hC (straight_sem (h : Int)) rfl (PVleL_refl _) ?_
  rintro r rfl
  simp only [go_sem, Nat.reduceBEq, look_str ho hh, Option.map_some]
  refine loop_kl 8 (fun _ => True) [4, 13] (fun j => [(14, .p (pi j))]) (fun j => [.cells (((arrN (openF b h) j).map pi).map .p)]) trivial (by simp [Wk, wkT, wkL, look, AV.lo, AV.lo.loL, upS_eq, keepS_nil, keepS_cons, arrN, List.range, List.range.loop]) ?_
  rintro j ⟨hj, -⟩
  simp only [go_sem, Nat.reduceBEq, List.length_map, arrN_len, arr_take, arr_drop]
  refine ⟨fun h5 => ?_, fun h5 => ?_⟩
  · have hj2 : j < 8 := by omega
    have hrj : ((rowL b h 0).map pi)[j]? = some (pi ((rowL b h 0).getD j 0)) := cell_ints (by omega)
    have hf : openF b h j = if openB ((rowL b h 0).getD j 0) then (rowL b h 0).getD j 0 else 0 := rfl
    obtain ⟨x, hx⟩ : ∃ x, (rowL b h 0).getD j 0 = x := ⟨_, rfl⟩
    rw [hx] at hrj hf
    simp only [go_sem, Nat.reduceBEq, idx8 hj2 hrj]
    refine call_pure2 hC (isOpen_sem x) rfl (PVleL_refl _) ?_
    rintro r rfl
    simp only [go_sem, Nat.reduceBEq]
    cases hp : openB x
    · rw [hp, if_neg (by decide)] at hf
      have hs := arrN_skip _ hf
      simp only [go_sem, Nat.reduceBEq, wrap_succ (k := j) (by omega)]
      refine ⟨⟨j + 1, hj2, trivial⟩, by simp only; omega, ?_⟩
      simp only [hs]
      exact by simp [Wk, wkT, wkL, look, AV.lo, ABlk.toZ, loL_pc]
    · rw [hp, if_pos rfl] at hf
      have hput := arr_put (openF b h) hj2
      rw [hf] at hput
      have hj8 : j + 1 ≤ 8 := by omega
      simp only [go_sem, Nat.reduceBEq, iadr8 hj2, List.length_map, arrN_len, hj8, hput, wrap_succ (k := j) (by omega)]
      exact ⟨⟨j + 1, hj2, trivial⟩, by simp only; omega, by simp [Wk, wkT, wkL, look, AV.lo, ABlk.toZ, loL_pc]⟩
  · have hjn : j = 8 := by omega
    subst hjn
    exact retQ_cell (n := some 8) (by kernel_rfl) (by simp only [go_sem, Nat.reduceBEq, List.length_map, arrN_len, arr_take]; rfl) rfl
def knownH (b : DBook) (h : Nat) : Bool := decide (openL b h = [0, 0, 0, 0, 0, 0, 0, 0])
def knownB (b : DBook) : Bool := (List.range b.horses.length).all (knownH b)
theorem isKnown_sem (k : SK) {b : DBook} (ho : okBook b) : Sem1 88 [bookP k b] (pb (knownB b)) := by
  have h6 := ho.2.1
  refine semC_of_exec' mixed Try.func88 (by kernel_rfl) (by kernel_rfl) ac88_ok 1 rfl (by decide) [(.tmp 2)] (by kernel_rfl) ?_
  intro hr C hC hI
  unfold ac88
  simp only [go_sem, Nat.reduceBEq, List.length_map]
  refine loop_k b.horses.length (fun j => ∀ h < j, knownH b h = true) [0, 9] (fun j => [(10, .p (pi j))]) (fun x h => absurd h (by omega)) rfl ⟨rfl, by simp, by simp⟩ (by simp [wkT, look, AV.lo]) ?_
  rintro j ⟨hj, hok⟩
  simp only [go_sem, Nat.reduceBEq]
  refine ⟨fun h5 => ?_, fun h5 => ?_⟩
  · have hj2 : j < b.horses.length := by omega
    refine call_pure2 hC (open_sem k ho hj2) rfl (PVleL_refl _) ?_
    rintro r rfl
    simp only [go_sem, Nat.reduceBEq]
    obtain ⟨x0, x1, x2, x3, x4, x5, x6, x7, hx⟩ : ∃ x0 x1 x2 x3 x4 x5 x6 x7, openL b j = [x0, x1, x2, x3, x4, x5, x6, x7] := ⟨_, _, _, _, _, _, _, _, rfl⟩
    have hkj : knownH b j = decide (openL b j = [0, 0, 0, 0, 0, 0, 0, 0]) := rfl
    rw [hx] at hkj ⊢
    simp only [go_sem, Nat.reduceBEq, List.map_cons, List.map_nil, wrap_succ (k := j) (by omega)]
    refine ⟨fun hne => retQ_one rfl (congrArg pb ?_), fun he => ?_⟩
    · refine (List.all_eq_false.2 ⟨j, List.mem_range.2 hj2, ?_⟩).symm
      rw [hkj]
      simpa using hne
    · refine ⟨⟨j + 1, hj2, fun h hh => ?_⟩, by simp only; omega, by simp [Wk, wkT, wkL, look, AV.lo]⟩
      by_cases h2 : h = j
      · subst h2
        rw [hkj]
        simpa using he
      · exact hok h (by omega)
  · have hjn : j = b.horses.length := by omega
    subst hjn
    refine retQ_one rfl (congrArg pb ?_)
    exact (List.all_eq_true.2 fun h hh => hok h (List.mem_range.1 hh)).symm
def ac166 : AC := (AC.seq (AC.ops [(AOp.mk (some 4) (AK.box 2 (AX.t 1)) none 0 false true), (AOp.mk (some 6) (AK.mv (AX.c PV.nilp)) none 1 false true)]) (AC.seq (AC.ops [(AOp.mk (some 12) (AK.mv (AX.t 0)) none 0 false true), (AOp.mk (some 13) (AK.nilc (AX.t 12)) none 1 false true), (AOp.mk (some 14) (AK.fadr 0 (AX.t 13)) none 2 false true), (AOp.mk (some 15) (AK.fadr 0 (AX.t 14)) none 3 false true), (AOp.mk (some 16) (AK.ld none (AX.t 15)) none 4 false true), (AOp.mk (some 17) (AK.build [(PV.val (Value.int IntKind.i64 0)), (PV.sl SK.full 0 [])] [(0, (1, (AX.t 16)))]) none 5 false true), (AOp.mk (some 7) (AK.new (PV.agg [(PV.val (Value.int IntKind.i64 0)), (PV.sl SK.full 0 [])])) none 6 false true), (AOp.mk none (AK.st 2 (AX.t 7) (AX.t 17)) none 7 false true)]) (AC.seq (AC.seq (AC.ops [(AOp.mk (some 18) (AK.mv (AX.t 0)) none 0 false true), (AOp.mk (some 19) (AK.nilc (AX.t 18)) none 1 false true), (AOp.mk (some 20) (AK.fadr 0 (AX.t 19)) none 2 false true), (AOp.mk (some 21) (AK.fadr 1 (AX.t 20)) none 3 false true), (AOp.mk (some 22) (AK.ld none (AX.t 21)) none 4 false true), (AOp.mk (some 23) (AK.len (AX.t 22)) none 5 false true), (AOp.mk (some 24) (AK.mv (AX.c (PV.val (Value.int IntKind.i64 0)))) none 6 false true)]) (AC.block 0 (AC.loop (AC.seq (AC.ops [(AOp.mk (some 25) (AK.bin false BinOp.lss (AX.t 24) (AX.t 23)) none 0 false true)]) (AC.seq (AC.cond (AX.t 25) AC.skip (AC.exit 0)) (AC.seq (AC.block 1 (AC.seq (AC.ops [(AOp.mk (some 26) (AK.mv (AX.t 24)) none 0 false true), (AOp.mk (some 8) (AK.mv (AX.t 26)) none 1 false true)]) (AC.seq (AC.ops [(AOp.mk (some 9) (AK.mv (AX.c (PV.sl SK.full 0 []))) none 0 false true)]) (AC.seq (AC.seq (AC.ops [(AOp.mk (some 27) (AK.mv (AX.t 0)) none 0 false true), (AOp.mk (some 28) (AK.nilc (AX.t 27)) none 1 false true), (AOp.mk (some 29) (AK.fadr 0 (AX.t 28)) none 2 false true), (AOp.mk (some 30) (AK.fadr 0 (AX.t 29)) none 3 false true), (AOp.mk (some 31) (AK.ld none (AX.t 30)) none 4 false true), (AOp.mk (some 32) (AK.mv (AX.c (PV.val (Value.int IntKind.i64 0)))) none 5 false true)]) (AC.block 2 (AC.loop (AC.seq (AC.ops [(AOp.mk (some 33) (AK.bin false BinOp.lss (AX.t 32) (AX.t 31)) none 0 false true)]) (AC.seq (AC.cond (AX.t 33) AC.skip (AC.exit 2)) (AC.seq (AC.block 3 (AC.seq (AC.ops [(AOp.mk (some 34) (AK.mv (AX.t 32)) none 0 false true), (AOp.mk (some 10) (AK.mv (AX.t 34)) none 1 false true)]) (AC.seq (AC.ops [(AOp.mk (some 35) (AK.mv (AX.t 0)) none 0 false true), (AOp.mk (some 36) (AK.nilc (AX.t 35)) none 1 false true), (AOp.mk (some 37) (AK.fadr 0 (AX.t 36)) none 2 false true), (AOp.mk (some 38) (AK.fadr 1 (AX.t 37)) none 3 false true), (AOp.mk (some 39) (AK.ld none (AX.t 38)) none 4 false true), (AOp.mk (some 40) (AK.mv (AX.t 8)) none 5 false true), (AOp.mk (some 41) (AK.iadrS 1 (AX.t 39) (AX.t 40)) none 6 false true), (AOp.mk (some 42) (AK.ld none (AX.t 41)) none 7 false true), (AOp.mk (some 43) (AK.mv (AX.t 10)) none 8 false true), (AOp.mk (some 44) (AK.iadrS 1 (AX.t 42) (AX.t 43)) none 9 false true), (AOp.mk (some 45) (AK.ld none (AX.t 44)) none 10 false true), (AOp.mk (some 11) (AK.mv (AX.t 45)) none 11 false true)]) (AC.seq (AC.seq (AC.ops [(AOp.mk (some 46) (AK.mv (AX.t 8)) none 0 false true), (AOp.mk (some 47) (AK.mv (AX.t 10)) none 1 false true), (AOp.mk (some 48) (AK.build [(PV.val (Value.int IntKind.i64 0)), (PV.val (Value.int IntKind.i64 0))] [(0, (1, (AX.t 46))), (1, (1, (AX.t 47)))]) none 2 false true), (AOp.mk (some 49) (AK.ld (some 2) (AX.t 4)) none 3 false true), (AOp.mk (some 50) (AK.eqs [CK.i, CK.i] false (AX.t 48) (AX.t 49)) none 4 false true)]) (AC.cond (AX.t 50) (AC.ops [(AOp.mk (some 51) (AK.mv (AX.t 2)) none 0 false true), (AOp.mk (some 52) (AK.call 113 [(AX.t 51)]) none 1 false true), (AOp.mk (some 11) (AK.mv (AX.t 52)) none 2 false true)]) AC.skip)) (AC.ops [(AOp.mk (some 53) (AK.mv (AX.t 9)) none 0 false true), (AOp.mk (some 54) (AK.mv (AX.t 11)) none 1 false true), (AOp.mk (some 55) (AK.bslice false 3 1 1 [(PV.val (Value.int IntKind.i64 0))] [(0, (1, (AX.t 54)))]) none 2 false true), (AOp.mk (some 56) (AK.app false 3 1 8 [(PV.val (Value.int IntKind.i64 0))] (AX.t 53) (AX.t 55)) none 3 false true), (AOp.mk (some 9) (AK.mv (AX.t 56)) none 4 false true)]))))) (AC.ops [(AOp.mk (some 57) (AK.bin false BinOp.add (AX.t 32) (AX.c (PV.val (Value.int IntKind.i64 1)))) none 0 false true), (AOp.mk (some 32) (AK.mv (AX.t 57)) none 1 false true)]))))))) (AC.ops [(AOp.mk (some 58) (AK.fadr 1 (AX.t 7)) none 0 false true), (AOp.mk (some 59) (AK.ld none (AX.t 58)) none 1 false true), (AOp.mk (some 60) (AK.mv (AX.t 9)) none 2 false true), (AOp.mk (some 61) (AK.bslice false 26 1 1 [(PV.sl SK.full 0 [])] [(0, (1, (AX.t 60)))]) none 3 false true), (AOp.mk (some 62) (AK.app false 26 1 24 [(PV.sl SK.full 0 [])] (AX.t 59) (AX.t 61)) none 4 false true), (AOp.mk (some 63) (AK.fadr 1 (AX.t 7)) none 5 false true), (AOp.mk none (AK.st 1 (AX.t 63) (AX.t 62)) none 6 false true)]))))) (AC.ops [(AOp.mk (some 64) (AK.bin false BinOp.add (AX.t 24) (AX.c (PV.val (Value.int IntKind.i64 1)))) none 0 false true), (AOp.mk (some 24) (AK.mv (AX.t 64)) none 1 false true)]))))))) (AC.seq (AC.ops [(AOp.mk (some 65) (AK.ld (some 2) (AX.t 7)) none 0 false true), (AOp.mk (some 66) (AK.call 97 [(AX.t 65)]) none 1 false true), (AOp.mk (some 6) (AK.mv (AX.t 66)) none 2 false true)]) AC.ret))))
theorem ac166_ok : cCode Try.prog (fun _ => false) Try.f166.ntmps (Try.f166.body.getD .skip) = some ac166 := by kernel_rfl
/-- A book in which a size is known. -/
def knowB (b : DBook) (h p s : Nat) : DBook := ⟨b.round, (List.range b.horses.length).map fun i => (List.range (nR b)).map fun q => if (i, q) = (h, p) then 2 ^ s else (b.horses.getD i []).getD q 0⟩
def rowsO (e : TypeId) (ts : List Nat) (rows : List (List Int)) : List (List PV) := List.zipWith (fun t r => [slN e (some t) r]) ts rows
def slO (e e2 : TypeId) (o : Option Nat) (ts : List Nat) (rows : List (List Int)) : PV :=
  match o with
  | none => .sl .full 0 []
  | some t => .sl (.own t e 1) 1 (rowsO e2 ts rows)
theorem rowsO_le (e : TypeId) : ∀ (ts : List Nat) (rows : List (List Int)), ts.length = rows.length → PVleR (rowsO e ts rows) (rowsC rows)
  | [], [], _ => trivial
  | t :: ts, r :: rows, h => ⟨⟨PVle.sh _ _ _, trivial⟩, rowsO_le e ts rows (by simpa using h)⟩
  | [], _ :: _, h => by simp at h
  | _ :: _, [], h => by simp at h
theorem rowsO_add {e : TypeId} {ts : List Nat} {rows : List (List Int)} (h : ts.length = rows.length) (t : Nat) (r : List Int) : rowsO e (ts ++ [t]) (rows ++ [r]) = rowsO e ts rows ++ [[slN e (some t) r]] := by
  unfold rowsO
  rw [List.zipWith_append h]
  rfl
def knowR (b : DBook) (h p s i j : Nat) : List Int := (List.range j).map fun q => if (i, q) = (h, p) then 2 ^ s else (b.horses.getD i []).getD q 0
theorem knowR_next (b : DBook) (h p s i j : Nat) : knowR b h p s i (j + 1) = knowR b h p s i j ++ [if (i, j) = (h, p) then 2 ^ s else (b.horses.getD i []).getD j 0] := by
  unfold knowR
  rw [List.range_succ, List.map_append]
  rfl
theorem knowR_len (b : DBook) (h p s i j : Nat) : (knowR b h p s i j).length = j := by simp [knowR]
theorem nodup_snoc {o : Option Nat} {t : Nat} (h : (o.toList ++ []).Nodup) (ht : ¬ t ∈ o.toList ++ (none : Option Nat).toList) : (o.toList ++ (some t).toList).Nodup := by
  cases o with
  | none => simp
  | some x => simp at ht ⊢; exact fun e => ht e.symm
theorem nodup_snoc2 {o : Option Nat} {t t2 : Nat} (h : (o.toList ++ (some t).toList).Nodup) (ht : ¬ t2 ∈ o.toList ++ (some t).toList) : (o.toList ++ (some t2).toList).Nodup := by
  cases o with
  | none => simp
  | some x => simp at ht ⊢; exact fun e => ht.1 e.symm
theorem live_a {o : Option Nat} {t : Nat} : ∀ x ∈ o.toList ++ (some t).toList, x ∈ t :: (o.toList ++ (none : Option Nat).toList) := by
  cases o <;> simp
theorem live_b {o : Option Nat} {t t2 : Nat} (h : (o.toList ++ (some t).toList).Nodup) : ∀ x ∈ o.toList ++ (some t2).toList, x ∈ t2 :: (o.toList ++ (some t).toList).erase t := by
  cases o with
  | none => simp
  | some y =>
    simp at h
    simp [h]
def rowsK (b : DBook) (h p s i : Nat) : List (List Int) := (List.range i).map fun i => knowR b h p s i (nR b)
theorem rowsK_len (b : DBook) (h p s i : Nat) : (rowsK b h p s i).length = i := by simp [rowsK]
theorem rowsK_next (b : DBook) (h p s i : Nat) : rowsK b h p s (i + 1) = rowsK b h p s i ++ [knowR b h p s i (nR b)] := by
  unfold rowsK
  rw [List.range_succ, List.map_append]
  rfl
theorem rowsO_len {e : TypeId} {ts : List Nat} {rows : List (List Int)} (h : ts.length = rows.length) : (rowsO e ts rows).length = rows.length := by
  unfold rowsO; simp [h]
theorem live_c {t t0 tk : Nat} : ∀ x ∈ (some t).toList, x ∈ t :: ((some t0).toList ++ (some tk).toList).erase t0 := by simp
theorem knowB_ok {b : DBook} (ho : okBook b) (h p : Nat) {s : Nat} (hs : s < 4) : okBook (knowB b h p s) := by
  obtain ⟨h1, h8, hn⟩ := okR ho
  refine ⟨ho.1, by have := ho.2.1; simpa [knowB] using this, fun r hr => ?_⟩
  obtain ⟨i, hi, rfl⟩ := List.mem_map.1 hr
  have hi := List.mem_range.1 hi
  have hH := ho.2.2 _ (List.getElem_mem hi)
  refine ⟨by rw [List.length_map, List.length_range]; exact hn.symm, fun x hx => ?_⟩
  obtain ⟨q, hq, rfl⟩ := List.mem_map.1 hx
  have hq := List.mem_range.1 hq
  split
  · have : s = 0 ∨ s = 1 ∨ s = 2 ∨ s = 3 := by omega
    rcases this with rfl | rfl | rfl | rfl <;> decide
  · have hq2 : q < b.horses[i].length := by have := hH.1; omega
    have e : (b.horses.getD i []).getD q 0 = b.horses[i][q] := by simp [List.getD_eq_getElem?_getD, List.getElem?_eq_getElem hi, List.getElem?_eq_getElem hq2]
    rw [e]
    exact hH.2 _ (List.getElem_mem hq2)
theorem knowing_sem (k : SK) {b : DBook} (ho : okBook b) (h p : Nat) {s : Nat} (hs : s < 4) : Sem1 166 [bookP k b, .agg [pi h, pi p], pi s] (bookP .sh (knowB b h p s)) := by
  obtain ⟨h1, h8, hn⟩ := okR ho
  have h6 := ho.2.1
  refine semC_of_exec' mixed Try.func166 (by kernel_rfl) (by kernel_rfl) ac166_ok 3 rfl (by decide) [(.tmp 6)] (by kernel_rfl) ?_
  intro hr C hC hI
  unfold ac166
  simp only [go_sem, Nat.reduceBEq, Nat.reduceAdd, Nat.reduceLeDiff, List.length_map, putCells]
  refine loop_g (α := Nat × Option Nat × List Nat) (fun a => a.1 ≤ b.horses.length ∧ a.2.2.length = a.1 ∧ (a.2.1 = none → a.1 = 0)) (fun a => b.horses.length - a.1) [0, 2, 4, 7, 23] (fun a => [(24, .p (pi a.1))]) (fun a => [.cells [.p (pi h), .p (pi p)], .cells [.p (pi b.round), .p (slO 26 3 a.2.1 a.2.2 (rowsK b h p s a.1))]]) (fun a => a.2.1.toList) (0, none, []) ⟨by omega, rfl, fun _ => rfl⟩ (by simp [Wk, wkT, wkL, look, AV.lo, AV.lo.loL, upS_eq, keepS_nil, keepS_cons, slO]) ?_
  rintro ⟨i, o, ts⟩ ⟨hi, hts, hok⟩
  replace hi : i ≤ b.horses.length := hi
  replace hts : ts.length = i := hts
  replace hok : o = none → i = 0 := hok
  simp only [go_sem, Nat.reduceBEq, Nat.reduceAdd]
  refine ⟨fun h5 => ?_, fun h5 => ?_⟩
  · have hi2 : i < b.horses.length := by omega
    have hH := ho.2.2 _ (List.getElem_mem hi2)
    have hHl : b.horses[i].length = nR b := by have := hH.1; omega
    have eh := iadr_map (f := fun h => [pis h]) (kd := k) (sz := 1) hi2
    obtain ⟨V, hV⟩ : ∃ V, slO 26 3 o ts (rowsK b h p s i) = V := ⟨_, rfl⟩
    rw [hV]
    refine loop_g (α := Nat × Option Nat) (fun a => a.1 ≤ nR b ∧ (a.2 = none → a.1 = 0) ∧ (o.toList ++ a.2.toList).Nodup) (fun a => nR b - a.1) [0, 2, 4, 7, 8, 23, 24, 31] (fun a => [(9, .p (slN 3 a.2 (knowR b h p s i a.1))), (32, .p (pi a.1))]) (fun a => [.cells [.p (pi h), .p (pi p)], .cells [.p (pi b.round), .p V]]) (fun a => o.toList ++ a.2.toList) (0, none) ⟨by omega, fun _ => rfl, by cases o <;> simp⟩ (by cases o <;> simp [Wk, wkT, wkL, look, AV.lo, AV.lo.loL, upS_eq, keepS_nil, keepS_cons, slN]) ?_
    rintro ⟨j, o2⟩ ⟨hj, hok2, hnd⟩
    replace hj : j ≤ nR b := hj
    replace hok2 : o2 = none → j = 0 := hok2
    replace hnd : (o.toList ++ o2.toList).Nodup := hnd
    have hnd1 : (o.toList ++ []).Nodup := by cases o <;> simp
    simp only [go_sem, Nat.reduceBEq, Nat.reduceAdd]
    refine ⟨fun h6 => ?_, fun h6 => ?_⟩
    · have hj2 : j < nR b := by omega
      have hj3 : j < b.horses[i].length := by omega
      simp only [go_sem, Nat.reduceBEq, Nat.reduceAdd, Nat.reduceLeDiff, eh, iadr_pis hj3]
      have hel : (b.horses.getD i []).getD j 0 = b.horses[i][j] := by simp [List.getD_eq_getElem?_getD, List.getElem?_eq_getElem hi2, List.getElem?_eq_getElem hj3]
      refine ⟨fun h7 => ?_, fun h7 => ?_⟩
      · have hc : (i, j) = (h, p) := by simp only [Prod.mk.injEq]; omega
        have hnx := knowR_next b h p s i j
        refine call_pure2 hC (alone_sem (show 0 ≤ (s : Int) ∧ (s : Int) ≤ 3 by omega)) rfl (PVleL_refl _) ?_
        rintro r rfl
        simp only [go_sem, Nat.reduceBEq, Int.toNat_natCast]
        rw [if_pos hc] at hnx
        cases o2 with
        | none =>
          have h0 := hok2 rfl
          subst h0
          simp only [slN]
          simp only [go_sem, Nat.reduceBEq, Nat.reduceLeDiff, Nat.reduceEqDiff, wrap_succ (k := 0) (by omega)]
          intro tk htk
          refine ⟨⟨(0 + 1, some tk), by omega, (fun h => by cases h), nodup_snoc hnd1 htk⟩, by simp only; omega, ?_⟩
          simp only [hnx]
          exact ⟨by simp [wkT, look, AV.lo, knowR], by simp [wkL, AV.lo, AV.lo.loL], live_a, nodup_snoc hnd1 htk, rfl, rfl, by simp⟩
        | some tk =>
          simp only [slN]
          simp only [go_sem, Nat.reduceBEq, Nat.reduceLeDiff, wrap_succ (k := j) (by omega), List.length_map]
          refine ⟨by rw [knowR_len]; omega, by simp, fun t2 ht2 => ?_⟩
          refine ⟨⟨(j + 1, some t2), by omega, (fun h => by cases h), nodup_snoc2 hnd ht2⟩, by simp only; omega, ?_⟩
          simp only [hnx]
          exact ⟨by simp [wkT, look, AV.lo], by simp [wkL, AV.lo, AV.lo.loL], live_b hnd, nodup_snoc2 hnd ht2, rfl, rfl, by simp⟩
      · have hc : ¬ (i, j) = (h, p) := by simp only [Prod.mk.injEq]; omega
        have hnx := knowR_next b h p s i j
        rw [if_neg hc, hel] at hnx
        cases o2 with
        | none =>
          have h0 := hok2 rfl
          subst h0
          simp only [slN]
          simp only [go_sem, Nat.reduceBEq, Nat.reduceLeDiff, Nat.reduceEqDiff, wrap_succ (k := 0) (by omega)]
          intro tk htk
          refine ⟨⟨(0 + 1, some tk), by omega, (fun h => by cases h), nodup_snoc hnd1 htk⟩, by simp only; omega, ?_⟩
          simp only [hnx]
          exact ⟨by simp [wkT, look, AV.lo, knowR], by simp [wkL, AV.lo, AV.lo.loL], live_a, nodup_snoc hnd1 htk, rfl, rfl, by simp⟩
        | some tk =>
          simp only [slN]
          simp only [go_sem, Nat.reduceBEq, Nat.reduceLeDiff, wrap_succ (k := j) (by omega), List.length_map]
          refine ⟨by rw [knowR_len]; omega, by simp, fun t2 ht2 => ?_⟩
          refine ⟨⟨(j + 1, some t2), by omega, (fun h => by cases h), nodup_snoc2 hnd ht2⟩, by simp only; omega, ?_⟩
          simp only [hnx]
          exact ⟨by simp [wkT, look, AV.lo], by simp [wkL, AV.lo, AV.lo.loL], live_b hnd, nodup_snoc2 hnd ht2, rfl, rfl, by simp⟩
    · have hjn : j = nR b := by omega
      subst hjn
      cases o2 with
      | none => exact absurd (hok2 rfl) (by omega)
      | some tk =>
        simp only [slN]
        have hV2 : V = slO 26 3 o ts (rowsK b h p s i) := hV.symm
        cases o with
        | none =>
          simp only [slO] at hV2
          subst hV2
          simp only [go_sem, Nat.reduceBEq, Nat.reduceAdd, Nat.reduceLeDiff, Nat.reduceEqDiff, wrap_succ (k := i) (by omega), putCells]
          intro t ht
          have hi0 := hok rfl
          have hts0 : ts = [] := List.eq_nil_of_length_eq_zero (by rw [hts]; exact hi0)
          refine ⟨⟨(i + 1, some t, ts ++ [tk]), hi2, by simp [hts], (fun h => by cases h)⟩, by simp only; omega, ?_⟩
          have hn1 := rowsK_next b h p s i
          subst hi0
          subst hts0
          refine ⟨by simp [wkT, look, AV.lo], ?_, by simp, by simp, rfl, rfl, by simp⟩
          simp only [hn1, slO, rowsO_add (show ([] : List Nat).length = (rowsK b h p s 0).length from rfl)]
          simp [wkL, AV.lo, AV.lo.loL, rowsO, rowsK, slN]
        | some t0 =>
          simp only [slO] at hV2
          subst hV2
          simp only [go_sem, Nat.reduceBEq, Nat.reduceAdd, Nat.reduceLeDiff, wrap_succ (k := i) (by omega), putCells]
          have hrl := rowsK_len b h p s i
          refine ⟨by rw [rowsO_len (by rw [hts, hrl]), hrl]; omega, by simp, fun t ht => ?_⟩
          refine ⟨⟨(i + 1, some t, ts ++ [tk]), hi2, by simp [hts], (fun h => by cases h)⟩, by simp only; omega, ?_⟩
          have hn1 := rowsK_next b h p s i
          refine ⟨by simp [wkT, look, AV.lo], ?_, live_c, by simp, rfl, rfl, by simp⟩
          simp only [hn1, slO, rowsO_add (show ts.length = (rowsK b h p s i).length by rw [hts, hrl])]
          simp [wkL, AV.lo, AV.lo.loL, slN]
  · have hin : i = b.horses.length := by omega
    subst hin
    have hrk : rowsK b h p s b.horses.length = (knowB b h p s).horses := rfl
    cases o with
    | none => exact absurd (hok rfl) (by omega)
    | some t =>
      simp only [slO]
      refine call_pure2 hC (bookOf_sem .sh (knowB_ok ho h p hs)) rfl (show PVleL [_] [_] from ⟨PVle.agg (show PVleL [_, _] [_, _] from ⟨PVle.refl _, PVle.rows (rowsO_le _ _ _ (by rw [hts, rowsK_len])), trivial⟩), trivial⟩) ?_
      rintro r rfl
      simp only [go_sem, Nat.reduceBEq]
      exact retQ_one rfl rfl
end Go.Proofs.Ythibnlfbdbidjaa
