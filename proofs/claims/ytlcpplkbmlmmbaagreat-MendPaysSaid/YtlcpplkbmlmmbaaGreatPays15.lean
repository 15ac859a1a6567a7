/- MendPays returns true for every book and number of pence; no condition. MendPays. Contracts of the reference of mend: the fewest coins. -/
import Derived.Test.YtlcpplkbmlmmbaaGreatPays14
import Derived.Test.YtlcpplkbmlmmbaaGreatPays01
import Derived.Test.YtlcpplkbmlmmbaaGreatGa17
namespace Go.Proofs.YtlcpplkbmlmmbaaGreat.Mk.Me
open Go.RowKit Ls
def ac106 : AC := (AC.seq (AC.ops [(AOp.mk (some 2) (AK.mv (AX.c (PV.val (Value.int IntKind.i64 0)))) none 0 false true)]) (AC.seq (AC.ops [(AOp.mk (some 3) (AK.mv (AX.c (PV.val (Value.int IntKind.i64 0)))) none 0 false true)]) (AC.seq (AC.seq (AC.ops [(AOp.mk (some 4) (AK.mv (AX.c (PV.val (Value.int IntKind.i64 0)))) none 0 false true)]) (AC.block 0 (AC.loop (AC.seq (AC.seq (AC.ops [(AOp.mk (some 5) (AK.mv (AX.t 4)) none 0 false true), (AOp.mk (some 6) (AK.mv (AX.t 0)) none 1 false true), (AOp.mk (some 7) (AK.len (AX.t 6)) none 2 false true), (AOp.mk (some 8) (AK.bin false BinOp.lss (AX.t 5) (AX.t 7)) none 3 false true)]) (AC.cond (AX.t 8) AC.skip (AC.exit 0))) (AC.seq (AC.block 1 (AC.ops [(AOp.mk (some 11) (AK.mv (AX.t 3)) none 0 false true), (AOp.mk (some 12) (AK.mv (AX.t 0)) none 1 false true), (AOp.mk (some 13) (AK.mv (AX.t 4)) none 2 false true), (AOp.mk (some 14) (AK.iadrS 1 (AX.t 12) (AX.t 13)) none 3 false true), (AOp.mk (some 15) (AK.ld none (AX.t 14)) none 4 false true), (AOp.mk (some 16) (AK.bin false BinOp.add (AX.t 11) (AX.t 15)) none 5 false true), (AOp.mk (some 3) (AK.mv (AX.t 16)) none 6 false true)])) (AC.ops [(AOp.mk (some 9) (AK.mv (AX.t 4)) none 0 false true), (AOp.mk (some 10) (AK.bin false BinOp.add (AX.t 9) (AX.c (PV.val (Value.int IntKind.i64 1)))) none 1 false true), (AOp.mk (some 4) (AK.mv (AX.t 10)) none 2 false true)])))))) (AC.seq (AC.ops [(AOp.mk (some 17) (AK.mv (AX.t 3)) none 0 false true), (AOp.mk (some 2) (AK.mv (AX.t 17)) none 1 false true)]) AC.ret))))
theorem ac106_ok : cCode Tryz.prog (fun _ => false) Tryz.f106.ntmps (Tryz.f106.body.getD .skip) = some ac106 := by kernel_rfl
def ac72 : AC := (AC.seq (AC.ops [(AOp.mk (some 3) (AK.box 8 (AX.t 0)) none 0 false true), (AOp.mk (some 6) (AK.mv (AX.c (PV.sl SK.full 0 []))) none 1 false true)]) (AC.seq (AC.seq (AC.ops [(AOp.mk (some 10) (AK.mv (AX.t 1)) none 0 false true), (AOp.mk (some 11) (AK.fadr 7 (AX.t 3)) none 1 false true), (AOp.mk (some 12) (AK.ld none (AX.t 11)) none 2 false true), (AOp.mk (some 13) (AK.len (AX.t 12)) none 3 false true), (AOp.mk (some 14) (AK.bin false BinOp.sub (AX.t 13) (AX.c (PV.val (Value.int IntKind.i64 1)))) none 4 false true), (AOp.mk (some 15) (AK.bin false BinOp.eql (AX.t 10) (AX.t 14)) none 5 false true)]) (AC.cond (AX.t 15) (AC.seq (AC.seq (AC.ops [(AOp.mk (some 16) (AK.mv (AX.t 2)) none 0 false true), (AOp.mk (some 17) (AK.fadr 7 (AX.t 3)) none 1 false true), (AOp.mk (some 18) (AK.ld none (AX.t 17)) none 2 false true), (AOp.mk (some 19) (AK.mv (AX.t 1)) none 3 false true), (AOp.mk (some 20) (AK.iadrS 1 (AX.t 18) (AX.t 19)) none 4 false true), (AOp.mk (some 21) (AK.ld none (AX.t 20)) none 5 false true), (AOp.mk (some 22) (AK.bin false BinOp.rem (AX.t 16) (AX.t 21)) none 6 false true), (AOp.mk (some 23) (AK.bin false BinOp.neq (AX.t 22) (AX.c (PV.val (Value.int IntKind.i64 0)))) none 7 false true)]) (AC.cond (AX.t 23) (AC.seq (AC.ops [(AOp.mk (some 6) (AK.mv (AX.c (PV.sl SK.full 0 []))) none 0 false true)]) AC.ret) AC.skip)) (AC.seq (AC.ops [(AOp.mk (some 24) (AK.mv (AX.t 2)) none 0 false true), (AOp.mk (some 25) (AK.fadr 7 (AX.t 3)) none 1 false true), (AOp.mk (some 26) (AK.ld none (AX.t 25)) none 2 false true), (AOp.mk (some 27) (AK.mv (AX.t 1)) none 3 false true), (AOp.mk (some 28) (AK.iadrS 1 (AX.t 26) (AX.t 27)) none 4 false true), (AOp.mk (some 29) (AK.ld none (AX.t 28)) none 5 false true), (AOp.mk (some 30) (AK.bin false BinOp.quo (AX.t 24) (AX.t 29)) none 6 false true), (AOp.mk (some 31) (AK.bslice false 3 1 1 [(PV.val (Value.int IntKind.i64 0))] [(0, (1, (AX.t 30)))]) none 7 false true), (AOp.mk (some 6) (AK.mv (AX.t 31)) none 8 false true)]) AC.ret)) AC.skip)) (AC.seq (AC.ops [(AOp.mk (some 7) (AK.mv (AX.c (PV.sl SK.full 0 []))) none 0 false true)]) (AC.seq (AC.seq (AC.ops [(AOp.mk (some 8) (AK.mv (AX.c (PV.val (Value.int IntKind.i64 0)))) none 0 false true)]) (AC.block 0 (AC.loop (AC.seq (AC.seq (AC.ops [(AOp.mk (some 32) (AK.mv (AX.t 8)) none 0 false true), (AOp.mk (some 33) (AK.fadr 7 (AX.t 3)) none 1 false true), (AOp.mk (some 34) (AK.ld none (AX.t 33)) none 2 false true), (AOp.mk (some 35) (AK.mv (AX.t 1)) none 3 false true), (AOp.mk (some 36) (AK.iadrS 1 (AX.t 34) (AX.t 35)) none 4 false true), (AOp.mk (some 37) (AK.ld none (AX.t 36)) none 5 false true), (AOp.mk (some 38) (AK.bin false BinOp.mul (AX.t 32) (AX.t 37)) none 6 false true), (AOp.mk (some 39) (AK.mv (AX.t 2)) none 7 false true), (AOp.mk (some 40) (AK.bin false BinOp.leq (AX.t 38) (AX.t 39)) none 8 false true)]) (AC.cond (AX.t 40) AC.skip (AC.exit 0))) (AC.seq (AC.block 1 (AC.seq (AC.ops [(AOp.mk (some 43) (AK.ld (some 8) (AX.t 3)) none 0 true false), (AOp.mk (some 44) (AK.mv (AX.t 1)) none 1 true false), (AOp.mk (some 45) (AK.bin false BinOp.add (AX.t 44) (AX.c (PV.val (Value.int IntKind.i64 1)))) none 2 true false), (AOp.mk (some 46) (AK.mv (AX.t 2)) none 3 true false), (AOp.mk (some 47) (AK.mv (AX.t 8)) none 4 true false), (AOp.mk (some 48) (AK.fadr 7 (AX.t 3)) none 5 true false), (AOp.mk (some 49) (AK.ld none (AX.t 48)) none 6 true false), (AOp.mk (some 50) (AK.mv (AX.t 1)) none 7 true false), (AOp.mk (some 51) (AK.iadrS 1 (AX.t 49) (AX.t 50)) none 8 true false), (AOp.mk (some 52) (AK.ld none (AX.t 51)) none 9 true false), (AOp.mk (some 53) (AK.bin false BinOp.mul (AX.t 47) (AX.t 52)) none 10 true false), (AOp.mk (some 54) (AK.bin false BinOp.sub (AX.t 46) (AX.t 53)) none 11 true false), (AOp.mk (some 55) (AK.call 72 [(AX.t 43), (AX.t 45), (AX.t 54)]) none 12 false true), (AOp.mk (some 9) (AK.mv (AX.t 55)) none 13 true true)]) (AC.seq (AC.ops [(AOp.mk (some 56) (AK.mv (AX.t 9)) none 0 false true), (AOp.mk (some 57) (AK.len (AX.t 56)) none 1 false true), (AOp.mk (some 58) (AK.bin false BinOp.gtr (AX.t 57) (AX.c (PV.val (Value.int IntKind.i64 0)))) none 2 false true), (AOp.mk (some 59) (AK.mv (AX.t 58)) none 3 false true), (AOp.mk (some 60) (AK.mv (AX.t 7)) (some (59, true)) 4 false true), (AOp.mk (some 61) (AK.len (AX.t 60)) (some (59, true)) 5 false true), (AOp.mk (some 62) (AK.bin false BinOp.eql (AX.t 61) (AX.c (PV.val (Value.int IntKind.i64 0)))) (some (59, true)) 6 false true), (AOp.mk (some 63) (AK.mv (AX.t 62)) (some (59, true)) 7 false true), (AOp.mk (some 64) (AK.mv (AX.t 8)) (some (63, false)) 8 false true), (AOp.mk (some 65) (AK.mv (AX.t 9)) (some (63, false)) 9 false true), (AOp.mk (some 66) (AK.call 106 [(AX.t 65)]) (some (63, false)) 10 false true), (AOp.mk (some 67) (AK.bin false BinOp.add (AX.t 64) (AX.t 66)) (some (63, false)) 11 false true), (AOp.mk (some 68) (AK.mv (AX.t 7)) (some (63, false)) 12 false true), (AOp.mk (some 69) (AK.call 106 [(AX.t 68)]) (some (63, false)) 13 false true), (AOp.mk (some 70) (AK.bin false BinOp.lss (AX.t 67) (AX.t 69)) (some (63, false)) 14 false true), (AOp.mk (some 71) (AK.pick (AX.t 63) (AX.c (PV.val (Value.bool true))) (AX.t 70)) (some (59, true)) 15 false true), (AOp.mk (some 72) (AK.pick (AX.t 59) (AX.t 71) (AX.c (PV.val (Value.bool false)))) none 16 false true)]) (AC.cond (AX.t 72) (AC.ops [(AOp.mk (some 73) (AK.mv (AX.t 8)) none 0 false true), (AOp.mk (some 74) (AK.bslice false 3 1 1 [(PV.val (Value.int IntKind.i64 0))] [(0, (1, (AX.t 73)))]) none 1 false true), (AOp.mk (some 75) (AK.mv (AX.t 9)) none 2 false true), (AOp.mk (some 76) (AK.app false 3 1 8 [(PV.val (Value.int IntKind.i64 0))] (AX.t 74) (AX.t 75)) none 3 false true), (AOp.mk (some 7) (AK.mv (AX.t 76)) none 4 false true)]) AC.skip)))) (AC.ops [(AOp.mk (some 41) (AK.mv (AX.t 8)) none 0 false true), (AOp.mk (some 42) (AK.bin false BinOp.add (AX.t 41) (AX.c (PV.val (Value.int IntKind.i64 1)))) none 1 false true), (AOp.mk (some 8) (AK.mv (AX.t 42)) none 2 false true)])))))) (AC.seq (AC.ops [(AOp.mk (some 77) (AK.mv (AX.t 7)) none 0 false true), (AOp.mk (some 6) (AK.mv (AX.t 77)) none 1 false true)]) AC.ret)))))
theorem ac72_ok : cCode Tryz.prog (fun _ => false) Tryz.f72.ntmps (Tryz.f72.body.getD .skip) = some ac72 := by kernel_rfl
def ac30 : AC := (AC.seq (AC.ops [(AOp.mk (some 2) (AK.box 8 (AX.t 0)) none 0 false true), (AOp.mk (some 4) (AK.mv (AX.c (PV.sl SK.full 0 []))) none 1 false true), (AOp.mk (some 5) (AK.mv (AX.c (PV.val (Value.int IntKind.i64 0)))) none 2 false true)]) (AC.seq (AC.seq (AC.ops [(AOp.mk (some 7) (AK.ld (some 8) (AX.t 2)) none 0 false true), (AOp.mk (some 8) (AK.call 14 [(AX.t 7)]) none 1 false true), (AOp.mk (some 6) (AK.mv (AX.t 8)) none 2 false true)]) (AC.seq (AC.ops [(AOp.mk (some 9) (AK.mv (AX.t 6)) none 0 false true), (AOp.mk (some 10) (AK.bin false BinOp.neq (AX.t 9) (AX.c (PV.val (Value.int IntKind.i64 0)))) none 1 false true)]) (AC.cond (AX.t 10) (AC.seq (AC.ops [(AOp.mk (some 11) (AK.mv (AX.t 6)) none 0 false true), (AOp.mk (some 4) (AK.mv (AX.c (PV.sl SK.full 0 []))) none 1 false true), (AOp.mk (some 5) (AK.mv (AX.t 11)) none 2 false true)]) AC.ret) AC.skip))) (AC.seq (AC.seq (AC.ops [(AOp.mk (some 12) (AK.mv (AX.t 1)) none 0 false true), (AOp.mk (some 13) (AK.call 60 [(AX.t 12), (AX.c (PV.val (Value.int IntKind.i64 0))), (AX.c (PV.val (Value.int IntKind.i64 600)))]) none 1 false true), (AOp.mk (some 14) (AK.un UnOp.not (AX.t 13)) none 2 false true)]) (AC.cond (AX.t 14) (AC.seq (AC.ops [(AOp.mk (some 4) (AK.mv (AX.c (PV.sl SK.full 0 []))) none 0 false true), (AOp.mk (some 5) (AK.mv (AX.c (PV.val (Value.int IntKind.i64 81)))) none 1 false true)]) AC.ret) AC.skip)) (AC.seq (AC.ops [(AOp.mk (some 15) (AK.ld (some 8) (AX.t 2)) none 0 false true), (AOp.mk (some 16) (AK.mv (AX.t 1)) none 1 false true), (AOp.mk (some 17) (AK.call 72 [(AX.t 15), (AX.c (PV.val (Value.int IntKind.i64 0))), (AX.t 16)]) none 2 false true), (AOp.mk (some 4) (AK.mv (AX.t 17)) none 3 false true), (AOp.mk (some 5) (AK.mv (AX.c (PV.val (Value.int IntKind.i64 0)))) none 4 false true)]) AC.ret))))
theorem ac30_ok : cCode Tryz.prog (fun _ => false) Tryz.f30.ntmps (Tryz.f30.body.getD .skip) = some ac30 := by kernel_rfl
theorem sum_take_le {l : List Int} (h : ∀ x ∈ l, 0 ≤ x) (i : Nat) : 0 ≤ sumI (l.take i) ∧ sumI (l.take i) ≤ sumI l := by
  have h1 := sum_app2 (l.take i) (l.drop i)
  rw [List.take_append_drop] at h1
  have h2 := sum_pos (q := l.take i) fun x hx => h x (List.mem_of_mem_take hx)
  have h3 := sum_pos (q := l.drop i) fun x hx => h x (List.mem_of_mem_drop hx)
  omega
theorem Total_sem (k : SK) {l : List Int} (h : ∀ x ∈ l, 0 ≤ x) (hs : sumI l ≤ 1000000) (hl : l.length ≤ 1000000) : Sem1 106 [.sl k 1 (l.map fun x => [pi x])] (pi (sumI l)) := by
  refine semC_of_exec' mixed Tryz.func106 (by kernel_rfl) (by kernel_rfl) ac106_ok 1 rfl (by decide) [(.tmp 2)] (by kernel_rfl) ?_
  intro hr C hC hI
  unfold ac106
  simp only [go_sem]
  refine loop_k l.length (fun _ => True) [0] (fun i => [(3, .p (pi (sumI (l.take i)))), (4, .p (pi i))]) trivial rfl ⟨rfl, by simp, by simp⟩ (by simp [wkT, look, AV.lo, sumI]) ?_
  rintro i ⟨hi, -⟩
  simp only [go_sem, Nat.reduceBEq, List.length_map]
  refine ⟨fun d5 => ?_, fun d5 => ?_⟩
  · have hi2 : i < l.length := by omega
    have h1 := sum_take hi2
    have h2 := (sum_take_le h (i + 1))
    rw [h1] at h2
    simp only [go_sem, Nat.reduceBEq, iadr_map (f := fun x : Int => [pi x]) (kd := k) (sz := 1) hi2, wrap_succ (k := i) (by omega), wrap_id (n := sumI (l.take i) + l[i]) (by omega) (by omega)]
    refine ⟨⟨i + 1, hi2, trivial⟩, by simp only; omega, ?_⟩
    simp only [h1]
    simp [Wk, wkT, wkL, look, AV.lo]
  · have hin : i = l.length := by omega
    subst hin
    rw [List.take_length]
    exact retQ_one rfl rfl
theorem sum_dot : ∀ {cs q : List Int}, (∀ c ∈ cs, 1 ≤ c) → (∀ x ∈ q, 0 ≤ x) → q.length = cs.length → sumI q ≤ dotI cs q
  | [], [], _, _, _ => by simp [dotI, sumI]
  | [], _ :: _, _, _, h => absurd h (by simp)
  | _ :: _, [], _, _, h => absurd h (by simp)
  | c :: cs, x :: q, hc, hq, hl => by
    have h1 := hc c (List.mem_cons_self ..)
    have h2 := hq x (List.mem_cons_self ..)
    have h3 := sum_dot (cs := cs) (q := q) (fun y hy => hc y (List.mem_cons_of_mem _ hy)) (fun y hy => hq y (List.mem_cons_of_mem _ hy)) (by simpa using hl)
    have h4 := Int.mul_le_mul_of_nonneg_left h1 h2
    simp only [dotI, sum_cons]
    omega
theorem val_sum {cs q : List Int} {p : Int} (hc : ∀ c ∈ cs, 1 ≤ c) (h : ValL cs p q) : sumI q ≤ p := by
  have := sum_dot hc h.2.1 h.1
  rwa [h.2.2] at this
theorem coins_mem {cs : List Int} (hc : Coins cs) : ∀ c ∈ cs, 1 ≤ c ∧ c ≤ 240 := fun c h => by
  obtain ⟨n, hn, e⟩ := List.mem_iff_getElem.1 h
  have h1 := hc.pos n hn
  have h2 := hc.top n hn
  rw [List.getD_eq_getElem?_getD, List.getElem?_eq_getElem hn, e] at h1 h2
  exact ⟨h1, h2⟩
abbrev CoinsR (b : EBook) (a : Nat) (p : Int) (r : PV) : Prop := ∃ l, r = pis l ∧ BestL (b.coins.drop a) p l
theorem coins_last (κ : KS) {b : EBook} (hc : Coins b.coins) {a : Nat} (ha : a + 1 = b.coins.length) {p : Int} (hp : 0 ≤ p ∧ p ≤ 600) : SemC Tryz.prog 72 [.agg (ebC κ b), pi a, pi p] (CoinsR b a p) := by
  have ha2 : a < b.coins.length := by omega
  have h4 := hc.le
  have ei := iadr_map (f := fun x : Int => [pi x]) (kd := κ.e) (sz := 1) ha2
  obtain ⟨h1, h2⟩ := coins_mem hc _ (List.getElem_mem ha2)
  have hd : b.coins.drop a = [b.coins[a]] := by rw [List.drop_eq_getElem_cons ha2, List.drop_eq_nil_of_le (by omega)]
  have hB := bestL_one h1 hp.1
  rw [← hd] at hB
  obtain ⟨c, ec⟩ : ∃ c, b.coins[a] = c := ⟨_, rfl⟩
  rw [ec] at ei h1 h2 hB
  have e1 : (a : Int) = (b.coins.length : Int) - 1 := by omega
  have w1 : IntKind.i64.wrap ((b.coins.length : Int) - 1) = (a : Int) := (wrap_id (by omega) (by omega)).trans e1.symm
  have hc0 : ¬ c = 0 := by omega
  have hrem := bin_rem (k := .i64) (a := p) (b := c) hc0
  have em : p.tmod c = p % c := Int.tmod_eq_emod_of_nonneg hp.1
  have eq : p.tdiv c = p / c := Int.tdiv_eq_ediv_of_nonneg hp.1
  have hq1 : 0 ≤ p / c := Int.ediv_nonneg hp.1 (by omega)
  have hq2 : p / c ≤ p := Int.ediv_le_self _ hp.1
  have hquo : binS false .quo (.p (pi p)) (.p (pi c)) = some (.p (pi (p / c))) := (bin_quo (k := .i64) (a := p) (b := c) hc0).trans (by rw [eq, wrap_id (by omega) (by omega)])
  rw [em] at hrem
  by_cases h0 : p % c = 0
  · rw [if_pos h0] at hB
    refine semC_of_exec' mixed Tryz.func72 (by kernel_rfl) (by kernel_rfl) ac72_ok 3 rfl (by decide) [(.tmp 6)] (by kernel_rfl) ?_
    intro hr C hC hI
    unfold ac72
    simp only [go_sem, Nat.reduceBEq, Nat.reduceAdd, List.length_map, w1, ei, hrem, h0, hquo, putCells, decide_true, decide_false, not_true_eq_false]
    exact retQ_le rfl (PVle.sh _ _ _) ⟨_, rfl, hB⟩
  · rw [if_neg h0] at hB
    refine semC_of_exec' mixed Tryz.func72 (by kernel_rfl) (by kernel_rfl) ac72_ok 3 rfl (by decide) [(.tmp 6)] (by kernel_rfl) ?_
    intro hr C hC hI
    unfold ac72
    simp only [go_sem, Nat.reduceBEq, Nat.reduceAdd, List.length_map, w1, ei, hrem, eq_false h0, decide_true, not_false_eq_true]
    exact retQ_le rfl (PVle.nil _ _ _) ⟨[], rfl, hB⟩
set_option maxHeartbeats 2000000 in
theorem coins_step (κ : KS) {b : EBook} (hc : Coins b.coins) {a : Nat} (ha : a + 1 < b.coins.length) {p : Int} (hp : 0 ≤ p ∧ p ≤ 600)
    (ih : ∀ q : Int, 0 ≤ q ∧ q ≤ 600 → SemC Tryz.prog 72 [.agg (ebC κ b), pi (a + 1 : Nat), pi q] (CoinsR b (a + 1) q)) : SemC Tryz.prog 72 [.agg (ebC κ b), pi a, pi p] (CoinsR b a p) := by
  have ha2 : a < b.coins.length := by omega
  have h4 := hc.le
  have ei := iadr_map (f := fun x : Int => [pi x]) (kd := κ.e) (sz := 1) ha2
  obtain ⟨h1, h2⟩ := coins_mem hc _ (List.getElem_mem ha2)
  have hd : b.coins.drop a = b.coins[a] :: b.coins.drop (a + 1) := List.drop_eq_getElem_cons ha2
  have hpos : ∀ y ∈ b.coins.drop a, 1 ≤ y := fun y hy => (coins_mem hc y (List.mem_of_mem_drop hy)).1
  have hlenT : (b.coins.drop (a + 1)).length ≤ 4 := by rw [List.length_drop]; omega
  have hneT : b.coins.drop (a + 1) ≠ [] := fun e => by
    have := congrArg List.length e
    rw [List.length_drop, List.length_nil] at this
    omega
  unfold CoinsR
  rw [hd] at hpos ⊢
  obtain ⟨c, ec⟩ : ∃ c, b.coins[a] = c := ⟨_, rfl⟩
  rw [ec] at ei h1 h2 hpos ⊢
  obtain ⟨T, hT⟩ : ∃ T, b.coins.drop (a + 1) = T := ⟨_, rfl⟩
  unfold CoinsR at ih
  rw [hT] at hpos hlenT hneT ih ⊢
  have e1 : ¬ (a : Int) = (b.coins.length : Int) - 1 := by omega
  have w1 : IntKind.i64.wrap ((b.coins.length : Int) - 1) = (b.coins.length : Int) - 1 := wrap_id (by omega) (by omega)
  have wa : IntKind.i64.wrap ((a : Int) + 1) = ((a + 1 : Nat) : Int) := by rw [wrap_id (by omega) (by omega)]; omega
  have hsum : ∀ {q : Int} {l : List Int}, BestL T q l → l ≠ [] → q ≤ 600 → (∀ x ∈ l, 0 ≤ x) ∧ (0 ≤ sumI l ∧ sumI l ≤ 600) ∧ l.length ≤ 4 := fun {q l} hB hne hq => by
    rcases hB with ⟨h, -⟩ | ⟨h, -⟩
    · exact absurd h hne
    · have := val_sum (fun y hy => hpos y (List.mem_cons_of_mem _ hy)) h
      have h5 := sum_pos h.2.1
      have h6 := h.1
      exact ⟨h.2.1, by omega, by omega⟩
  have hsumI : ∀ {n : Int} {l : List Int}, InvC (c :: T) p n l → l ≠ [] → (∀ x ∈ l, 0 ≤ x) ∧ (0 ≤ sumI l ∧ sumI l ≤ 600) ∧ l.length ≤ 5 := fun {n l} hB hne => by
    rcases hB with ⟨h, -⟩ | ⟨h, -⟩
    · exact absurd h hne
    · have := val_sum hpos h
      have h5 := sum_pos h.2.1
      have h6 := h.1
      rw [List.length_cons] at h6
      exact ⟨h.2.1, by omega, by omega⟩
  refine semC_of_exec' mixed Tryz.func72 (by kernel_rfl) (by kernel_rfl) ac72_ok 3 rfl (by decide) [(.tmp 6)] (by kernel_rfl) ?_
  intro hr C hC hI
  unfold ac72
  simp only [go_sem, Nat.reduceBEq, Nat.reduceAdd, List.length_map, w1, eq_false e1, decide_false]
  refine loop_g (α := Nat × Option Nat × List Int) (fun x => x.1 ≤ 601 ∧ InvC (c :: T) p x.1 x.2.2 ∧ (x.2.1 = none → x.2.2 = [])) (fun x => 601 - x.1) [1, 2, 3] (fun x => [(7, .p (slZ 3 1 x.2.1 (x.2.2.map fun y => [pi y]))), (8, .p (pi x.1))]) (fun _ => [.cells ((ebC κ b).map .p)]) (fun x => x.2.1.toList) (0, none, []) ⟨by omega, invC0 c T p, fun _ => rfl⟩ (by simp [Wk, wkT, wkL, look, AV.lo, AV.lo.loL, ABlk.toZ, upS_eq, keepS_nil, keepS_cons, slZ]) ?_
  rintro ⟨n, o, l⟩ ⟨hn, hI, h0⟩
  replace hn : n ≤ 601 := hn
  replace hI : InvC (c :: T) p (n : Int) l := hI
  replace h0 : o = none → l = [] := h0
  obtain ⟨nc, hnc⟩ : ∃ nc, (n : Int) * c = nc := ⟨_, rfl⟩
  have hb1 : 0 ≤ nc := by rw [← hnc]; exact Int.mul_nonneg (by omega) (by omega)
  have hb2 : nc ≤ 601 * 240 := by rw [← hnc]; exact Int.mul_le_mul (by omega) h2 (by omega) (by omega)
  have hb3 : (n : Int) ≤ nc := by
    have := Int.mul_le_mul_of_nonneg_left h1 (show 0 ≤ (n : Int) by omega)
    omega
  simp only [go_sem, Nat.reduceBEq, Nat.reduceAdd, ei, hnc, wrap_id (n := nc) (by omega) (by omega)]
  refine ⟨fun d5 => ?_, fun d5 => ?_⟩
  · have hn2 : n < 601 := by omega
    simp only [go_sem, wa, wrap_id (n := p - nc) (by omega) (by omega)]
    refine call_pure2 hC (ih (p - nc) (by omega)) rfl (PVleL_refl _) ?_
    rintro _ ⟨r, rfl, hB⟩
    have wn := wrap_succ (k := n) (by omega)
    rw [← hnc] at hB
    have hkd : ∃ kd sz, slZ 3 1 o (l.map fun y => [pi y]) = .sl kd sz (l.map fun y => [pi y]) ∧ (l ≠ [] → sz = 1) := by
      cases o with
      | none =>
        have h1 := h0 rfl
        subst h1
        exact ⟨_, _, rfl, fun h => absurd rfl h⟩
      | some t => exact ⟨_, _, rfl, fun _ => rfl⟩
    obtain ⟨kd, sz, ekd, hsz⟩ := hkd
    by_cases hr0 : r = []
    · subst hr0
      have hI2 := invC_none hI hB hneT
      rw [← Int.natCast_succ] at hI2
      simp only [go_sem, Nat.reduceBEq, List.length_nil, List.map_nil, Int.natCast_zero, wn, decide_false, Int.reduceLT]
      refine ⟨⟨(n + 1, o, l), hn2, hI2, h0⟩, by simp only; omega, ?_⟩
      cases o <;> simp [Wk, wkT, wkL, look, AV.lo, AV.lo.loL, ABlk.toZ]
    · have hrp : (0 : Int) < (r.length : Int) := by
        have := List.length_pos_iff.2 hr0
        omega
      obtain ⟨r1, r2, r3⟩ := hsum hB hr0 (by rw [hnc]; omega)
      rw [ekd]
      by_cases hl0 : l = []
      · have hI2 := invC_take hI (by omega) hB hr0 (.inl hl0)
        rw [← Int.natCast_succ] at hI2
        subst hl0
        simp only [go_sem, Nat.reduceBEq, List.length_map, List.length_nil, List.map_nil, Int.natCast_zero, eq_true hrp, wn, decide_true]
        refine ⟨by first | omega | (rw [List.length_map]; omega), fun tk htk => ?_⟩
        refine ⟨⟨(n + 1, some tk, (n : Int) :: r), hn2, hI2, fun h => by cases h⟩, by simp only; omega, ?_⟩
        refine ⟨by simp [wkT, look, AV.lo, slZ], by simp [wkL, AV.lo, AV.lo.loL, ABlk.toZ], by simp, by simp, rfl, rfl, by simp⟩
      · have hlp : ¬ (l.length : Int) = 0 := by
          have := List.length_pos_iff.2 hl0
          omega
        obtain ⟨l1, l2, l3⟩ := hsumI hI hl0
        rw [hsz hl0]
        simp only [go_sem, Nat.reduceBEq, List.length_map, eq_true hrp, eq_false hlp, decide_true, decide_false]
        refine call_pure2 hC (Total_sem .sh r1 (by omega) (by omega)) rfl (PVleL_refl _) ?_
        rintro _ rfl
        simp only [go_sem, Nat.reduceBEq, wrap_id (n := (n : Int) + sumI r) (by omega) (by omega)]
        refine call_pure2 hC (Total_sem kd l1 (by omega) (by omega)) rfl (PVleL_refl _) ?_
        rintro _ rfl
        by_cases hlt : (n : Int) + sumI r < sumI l
        · have hI2 := invC_take hI (by omega) hB hr0 (.inr hlt)
          rw [← Int.natCast_succ] at hI2
          simp only [go_sem, Nat.reduceBEq, eq_true hlt, wn, decide_true]
          refine ⟨by first | omega | (rw [List.length_map]; omega), fun tk htk => ?_⟩
          refine ⟨⟨(n + 1, some tk, (n : Int) :: r), hn2, hI2, fun h => by cases h⟩, by simp only; omega, ?_⟩
          refine ⟨by simp [wkT, look, AV.lo, slZ], by simp [wkL, AV.lo, AV.lo.loL, ABlk.toZ], by simp, by simp, rfl, rfl, by simp⟩
        · have hI2 := invC_keep hI hB hr0 hl0 (by omega)
          rw [← Int.natCast_succ] at hI2
          simp only [go_sem, Nat.reduceBEq, eq_false hlt, wn, decide_false]
          refine ⟨⟨(n + 1, o, l), hn2, hI2, h0⟩, by simp only; omega, ?_⟩
          rw [hsz hl0] at ekd
          simp only [ekd]
          cases o <;> simp [Wk, wkT, wkL, look, AV.lo, AV.lo.loL, ABlk.toZ]
  · have hB := invC_end hpos hI (by omega)
    exact retQ_le rfl (slZ_le fun h => by rw [h0 h]; rfl) ⟨_, rfl, hB⟩
theorem rcoins_sem (κ : KS) {b : EBook} (hc : Coins b.coins) : ∀ (d a : Nat), a + d + 1 = b.coins.length → ∀ p : Int, 0 ≤ p ∧ p ≤ 600 → SemC Tryz.prog 72 [.agg (ebC κ b), pi a, pi p] (CoinsR b a p)
  | 0, a, ha, p, hp => coins_last κ hc (by omega) hp
  | d + 1, a, ha, p, hp => coins_step κ hc (by omega) hp fun q hq => rcoins_sem κ hc d (a + 1) (by omega) q hq
theorem rPay_sem (κ : KS) (b : EBook) (n : Int) : Sem1 30 [.agg (ebC κ b), pi n] (if errE b (okP n) = 0 then .tup [pis ((purP b.coins n.toNat).take b.coins.length), pi 0] else .tup [pis [], pi (errE b (okP n))]) := by
  by_cases ho : okE b
  rotate_left
  · have he : errE b (okP n) = 80 := by unfold errE; rw [if_neg ho]
    rw [he, if_neg (by decide)]
    refine semC_of_exec' mixed Tryz.func30 (by kernel_rfl) (by kernel_rfl) ac30_ok 2 rfl (by decide) [(.tmp 4), (.tmp 5)] (by kernel_rfl) ?_
    intro hr C hC hI
    unfold ac30
    simp only [go_sem, Nat.reduceBEq, Nat.reduceAdd]
    refine call_pure2 hC (rCheck8_sem κ b) rfl (PVleL_refl _) ?_
    rintro r rfl
    simp only [go_sem, Nat.reduceBEq, if_neg ho, decide_true, not_false_eq_true, Int.reduceEq]
    exact retQ_two_le rfl rfl (PVle.nil _ _ _) (PVle.refl _) rfl
  cases hk : okP n
  · have he : errE b false = 81 := by unfold errE; rw [if_pos ho]; rfl
    have hn : ¬ (0 ≤ n ∧ n ≤ 600) := of_decide_eq_false hk
    rw [he, if_neg (by decide)]
    refine semC_of_exec' mixed Tryz.func30 (by kernel_rfl) (by kernel_rfl) ac30_ok 2 rfl (by decide) [(.tmp 4), (.tmp 5)] (by kernel_rfl) ?_
    intro hr C hC hI
    unfold ac30
    simp only [go_sem, Nat.reduceBEq, Nat.reduceAdd]
    refine call_pure2 hC (rCheck8_sem κ b) rfl (PVleL_refl _) ?_
    rintro r rfl
    simp only [go_sem, Nat.reduceBEq, if_pos ho, decide_false, not_true_eq_false]
    refine call_pure2 hC (In_sem n 0 600) rfl (PVleL_refl _) ?_
    rintro r rfl
    simp only [go_sem, Nat.reduceBEq, decide_eq_false hn]
    exact retQ_two_le rfl rfl (PVle.nil _ _ _) (PVle.refl _) rfl
  · have he : errE b true = 0 := by unfold errE; rw [if_pos ho]; rfl
    have hn : 0 ≤ n ∧ n ≤ 600 := of_decide_eq_true hk
    have hc := coins_ok ho.2.2.2.2.2.2
    have h1 := hc.ne
    rw [if_pos he]
    refine semC_of_exec' mixed Tryz.func30 (by kernel_rfl) (by kernel_rfl) ac30_ok 2 rfl (by decide) [(.tmp 4), (.tmp 5)] (by kernel_rfl) ?_
    intro hr C hC hI
    unfold ac30
    simp only [go_sem, Nat.reduceBEq, Nat.reduceAdd]
    refine call_pure2 hC (rCheck8_sem κ b) rfl (PVleL_refl _) ?_
    rintro r rfl
    simp only [go_sem, Nat.reduceBEq, if_pos ho, decide_false, not_true_eq_false]
    refine call_pure2 hC (In_sem n 0 600) rfl (PVleL_refl _) ?_
    rintro r rfl
    simp only [go_sem, Nat.reduceBEq, Nat.reduceAdd, decide_eq_true hn]
    refine call_pure2 hC (rcoins_sem κ hc (b.coins.length - 1) 0 (by omega) n hn) rfl (PVleL_refl _) ?_
    rintro _ ⟨l, rfl, hB⟩
    have hB2 := best_of_pur hc n.toNat
    rw [Int.toNat_of_nonneg hn.1] at hB2
    have := bestL_uniq hB hB2
    subst this
    simp only [go_sem, Nat.reduceBEq]
    exact retQ_two rfl rfl rfl
end Go.Proofs.YtlcpplkbmlmmbaaGreat.Mk.Me
namespace Go.Proofs.YtlcpplkbmlmmbaaGreat.Mk.Me
open Go.RowKit Ls
def ac5 : AC := (AC.seq (AC.ops [(AOp.mk (some 2) (AK.box 8 (AX.t 0)) none 0 false true), (AOp.mk (some 4) (AK.mv (AX.c (PV.val (Value.bool false)))) none 1 false true)]) (AC.seq (AC.ops [(AOp.mk (some 10) (AK.ld (some 8) (AX.t 2)) none 0 false true), (AOp.mk (some 11) (AK.mv (AX.t 1)) none 1 false true), (AOp.mk (some 12) (AK.call 29 [(AX.t 10), (AX.t 11)]) none 2 false true), (AOp.mk (some 9) (AK.mv (AX.t 12)) none 3 false true), (AOp.mk (some 13) (AK.ext (AX.t 9) 0) none 4 false true), (AOp.mk (some 14) (AK.ext (AX.t 9) 1) none 5 false true), (AOp.mk (some 5) (AK.mv (AX.t 13)) none 6 false true), (AOp.mk (some 6) (AK.mv (AX.t 14)) none 7 false true)]) (AC.seq (AC.ops [(AOp.mk (some 16) (AK.ld (some 8) (AX.t 2)) none 0 false true), (AOp.mk (some 17) (AK.mv (AX.t 1)) none 1 false true), (AOp.mk (some 18) (AK.call 30 [(AX.t 16), (AX.t 17)]) none 2 false true), (AOp.mk (some 15) (AK.mv (AX.t 18)) none 3 false true), (AOp.mk (some 19) (AK.ext (AX.t 15) 0) none 4 false true), (AOp.mk (some 20) (AK.ext (AX.t 15) 1) none 5 false true), (AOp.mk (some 7) (AK.mv (AX.t 19)) none 6 false true), (AOp.mk (some 8) (AK.mv (AX.t 20)) none 7 false true)]) (AC.seq (AC.ops [(AOp.mk (some 21) (AK.mv (AX.t 5)) none 0 false true), (AOp.mk (some 22) (AK.mv (AX.t 7)) none 1 false true), (AOp.mk (some 23) (AK.call 28 [(AX.t 21), (AX.t 22)]) none 2 false true), (AOp.mk (some 24) (AK.mv (AX.t 23)) none 3 false true), (AOp.mk (some 25) (AK.mv (AX.t 6)) (some (24, true)) 4 false true), (AOp.mk (some 26) (AK.mv (AX.t 8)) (some (24, true)) 5 false true), (AOp.mk (some 27) (AK.bin false BinOp.eql (AX.t 25) (AX.t 26)) (some (24, true)) 6 false true), (AOp.mk (some 28) (AK.pick (AX.t 24) (AX.t 27) (AX.c (PV.val (Value.bool false)))) none 7 false true), (AOp.mk (some 29) (AK.mv (AX.t 28)) none 8 false true), (AOp.mk (some 30) (AK.call 21 []) (some (29, true)) 9 false true), (AOp.mk (some 31) (AK.pick (AX.t 29) (AX.t 30) (AX.c (PV.val (Value.bool false)))) none 10 false true), (AOp.mk (some 4) (AK.mv (AX.t 31)) none 11 false true)]) AC.ret))))
theorem ac5_ok : cCode Tryz.prog (fun _ => false) Tryz.f5.ntmps (Tryz.f5.body.getD .skip) = some ac5 := by kernel_rfl
theorem Pays_law (κ : KS) (b : EBook) (n : Int) : Sem1 5 [.agg (ebC κ b), pi n] (pb true) := by
  obtain ⟨l, e, h1, h2⟩ : ∃ (l : List Int) (e : Int), Sem1 29 [.agg (ebC κ b), pi n] (.tup [pis l, pi e]) ∧ Sem1 30 [.agg (ebC κ b), pi n] (.tup [pis l, pi e]) := by
    have h1 := Pay_sem κ b n
    have h2 := rPay_sem κ b n
    by_cases h0 : errE b (okP n) = 0
    · rw [if_pos h0] at h1 h2
      exact ⟨_, _, h1, h2⟩
    · rw [if_neg h0] at h1 h2
      exact ⟨_, _, h1, h2⟩
  refine semC_of_exec' mixed Tryz.func5 (by kernel_rfl) (by kernel_rfl) ac5_ok 2 rfl (by decide) [(.tmp 4)] (by kernel_rfl) ?_
  intro hr C hC hI
  unfold ac5
  simp only [go_sem, Nat.reduceBEq, Nat.reduceAdd]
  refine call_pure2 hC (h1) rfl (PVleL_refl _) ?_
  rintro r rfl
  simp only [go_sem, Nat.reduceBEq, Nat.reduceAdd]
  refine call_pure2 hC (h2) rfl (PVleL_refl _) ?_
  rintro r rfl
  simp only [go_sem, Nat.reduceBEq]
  refine call_pure2 hC (Equal_sem l l) rfl (PVleL_refl _) ?_
  rintro r rfl
  simp only [go_sem, Nat.reduceBEq, decide_true]
  refine call_pure2 hC (exs_sem) rfl (PVleL_refl _) ?_
  rintro r rfl
  simp only [go_sem, Nat.reduceBEq]
  exact retQ_one rfl rfl
set_option maxRecDepth 100000 in
theorem Pays_row {l0 l1 : List PV} (T0 : Ty Tryz.prog 10 29 l0) (T1 : Ty Tryz.prog 10 3 l1) : SemC Tryz.prog 5 [argPV Tryz.prog 29 l0, argPV Tryz.prog 3 l1] (fun r => r = pb true) := by
  obtain ⟨b, rfl⟩ := ty_ebook T0
  obtain ⟨n, rfl⟩ := tyInt uInt T1
  rw [argStruct Tryz.underlying29, argInt uInt]
  exact Pays_law shK b n
end Go.Proofs.YtlcpplkbmlmmbaaGreat.Mk.Me
namespace Go.Proofs.YtlcpplkbmlmmbaaGreat
open Go.Proofs.YtlcpplkbmlmmbaaGreat Go.ChangeShapes Go.WideShapes Go.ChangeAt Go.RowKit Go.Deep

set_option maxRecDepth 100000 in
theorem mendPays_lifted (os : Os) (started : os.Started) (H : Type) (enc : TypeId × Value → H) :
    ReturnsInHanded {} Tryz.checked os 5 .any (Rows.mendPaysSpec.pre6 enc Tryz.prog Tryz.f5 Rows.mendPaysRow.domain false) (Rows.mendPaysSpec.post enc Tryz.prog Tryz.f5 false true false false) := by
  refine returnsInHanded_of_change_sized (C := Tryz.checked) ownKnobs started (by kernel_rfl) Tryz.func5
    (ChangeSpec.witness6 (enc := enc) (C := Tryz.checked) false ⟨#[], #[.agg #[.slice none 0 0, .slice none 0 0, .int .i64 0, .int .i64 0, .slice none 0 0, .int .i64 0, .slice none 0 0, .slice none 0 0], .int .i64 0], []⟩ 8 (by kernel_rfl) (by kernel_rfl) (by kernel_rfl) (by kernel_rfl)) ?_
  intro W base args ds gs before hval0 hW hcnd hsz0 _
  have hval : ∀ (j : Nat) t v, Tryz.f5.params[j]? = some t → args[j]? = some v → Value.okWide Tryz.prog W .any base t v := hval0
  have hsz : (DataW.weightsEach Tryz.prog (Tryz.f5.params.toList ++ Rows.mendPaysSpec.plain.varTypes Tryz.prog) (ds ++ gs)).all (· ≤ reachBytes) = true := hsz0
  have hW' := hW
  obtain ⟨p, q, hA0, hV, rfl, hfz, hnd⟩ := hW
  have hA : DataW.TrodAll enc Tryz.prog W 0 (fun _ => true) true Tryz.f5.params.toList args.toList ds p := hA0
  rw [Tryz.params5] at hA hval hsz
  obtain ⟨v0, vs0, d0, ds0, p0, q0, hargs, rfl, rfl, h0, r0⟩ := trodAll_cons hA
  obtain ⟨v1, vs1, d1, ds1, p1, q1, rfl, rfl, rfl, h1, r1⟩ := trodAll_cons r0
  obtain ⟨rfl, rfl, rfl⟩ := trodAll_nil r1
  obtain rfl : args = #[v0, v1] := by cases args; simp_all
  obtain ⟨rfl, rfl⟩ := trodVars_none hV
  have lt0 : ∀ x ∈ p0, x.block < W.heap.size := by obtain ⟨m, hm⟩ := h0; exact DataW.trod_lt m _ _ _ hm
  have lt1 : ∀ x ∈ p1, x.block < W.heap.size := by obtain ⟨m, hm⟩ := h1; exact DataW.trod_lt m _ _ _ hm
  have z0 : SizedP Tryz.prog 29 d0 := sizedP_each hsz (j := 0) rfl rfl
  obtain ⟨l0, T0, R0⟩ := rd_arg 10 (by kernel_rfl) (hval 0 29 v0 rfl rfl) h0 z0
  have z1 : SizedP Tryz.prog 3 d1 := sizedP_each hsz (j := 1) rfl rfl
  obtain ⟨l1, T1, R1⟩ := rd_arg 10 (by kernel_rfl) (hval 1 3 v1 rfl rfl) h1 z1
  clear hA0 hval0 hsz0
  refine (law_calls (Mk.Me.Pays_row T0 T1) (argsP_cons R0 (argsP_cons R1 argsP_nil))).mono fun e W' ⟨he, bel⟩ => ?_
  subst he
  exact ⟨_, rfl, _, _, _, [], _, [], hW', trodAll_mk1 (shut_bool Tryz.underlying4 _), (trodAll_cons_mk (Below.trod laidOut (by kernel_rfl) (of_decide_eq_true (by kernel_rfl)) h0 bel lt0) (trodAll_cons_mk (Below.trod laidOut (by kernel_rfl) (of_decide_eq_true (by kernel_rfl)) h1 bel lt1) trodAll_mk0)), rfl, bel.frame _, fun h => by cases h⟩

theorem mendPays_joined : joinedFacts Tryz.prog 5 Tryz.f5 Rows.mendPaysSpec Rows.mendPaysRow = true := by
  simp only [joinedFacts, Bool.and_eq_true]
  repeat' apply And.intro
  all_goals first | with_reducible exact laidOut | with_reducible exact mapsR | with_reducible exact stopsH | with_reducible exact mayE | (rw [lift0]; kernel_rfl) | (rw [make0]; kernel_rfl) | kernel_rfl

theorem mendPays_holds : Rows.MendPaysSaid :=
  OpenClaim.holds_of_wide 5 Tryz.f5 rfl rfl rfl rfl rfl rfl rfl ⟨rfl, rfl, rfl, rfl, rfl⟩ rfl rfl rfl rfl rfl (by kernel_rfl) Tryz.func5 mendPays_joined
    (of_decide_eq_true (by kernel_rfl)) (by unfold Func.isWrapper; first | (rw [if_pos (by decide +kernel)]; kernel_rfl) | (rw [if_neg (by decide +kernel)]; exact ⟨rfl, rfl⟩))
    (fun os started H enc _ => mendPays_lifted os started H enc)
end Go.Proofs.YtlcpplkbmlmmbaaGreat
