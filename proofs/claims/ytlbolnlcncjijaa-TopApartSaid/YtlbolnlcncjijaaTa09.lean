/- Mathematics of maker: what is told of two makers, and lists of values. Allocation and store within a tree. Theorems over dapple and maker: small books, rows that begin farther on. Contracts of maker: which marks must be wrong. Mathematics of maker: a book without marks. -/
import Derived.Test.YtlbolnlcncjijaaGa16
import Derived.Test.YtlbolnlcncjijaaTa08
import Derived.Test.YtlbolnlcncjijaaTa04
namespace Go.Proofs.Ytlbolnlcncjijaa.Mk
open Go.RowKit Ls
theorem both_iff {b : MBook} (h : okC b) {o u : Nat} : bothB b o u = true ↔ bothP b o u := by
  have h6 := h.2.1.2
  have key : ∀ c1 c2, (!lackB fun q => valA (unseenB b) o c1 q &&& valA (unseenB b) u c2 q) = true ↔ ∀ k, k < nK b → valN (unseenB b) o c1 k &&& valN (unseenB b) u c2 k ≠ 0 := fun c1 c2 => by
    rw [Bool.not_eq_true', Bool.eq_false_iff, ne_eq, lack_iff]
    constructor
    · intro H k hk he
      refine H ⟨k, by omega, ?_⟩
      unfold valA
      rw [if_pos (show k < nK (unseenB b) from hk), if_pos (show k < nK (unseenB b) from hk)]
      exact he
    · rintro H ⟨k, hk, he⟩
      unfold valA at he
      by_cases hn : k < nK b
      · rw [if_pos (show k < nK (unseenB b) from hn), if_pos (show k < nK (unseenB b) from hn)] at he
        exact H k hn he
      · rw [if_neg (show ¬ k < nK (unseenB b) from hn), if_neg (show ¬ k < nK (unseenB b) from hn)] at he
        cases he
  unfold bothB bothP
  rw [List.any_eq_true]
  constructor
  · rintro ⟨c1, h1, h2⟩
    obtain ⟨c2, h3, h4⟩ := List.any_eq_true.1 h2
    exact ⟨c1, h1, c2, h3, (key c1 c2).1 h4⟩
  · rintro ⟨c1, h1, c2, h3, h4⟩
    exact ⟨c1, h1, List.any_eq_true.2 ⟨c2, h3, (key c1 c2).2 h4⟩⟩
def exL (l : List Int) (j : Nat) : List (Int × Int) := (List.range j).map fun (k : Nat) => ((k : Int), 2 ^ exV l k)
theorem exL_next (l : List Int) (j : Nat) : exL l (j + 1) = exL l j ++ [((j : Int), 2 ^ exV l j)] := by
  unfold exL
  rw [List.range_succ, List.map_append]
  rfl
theorem exL_len (l : List Int) (j : Nat) : (exL l j).length = j := by simp [exL]
def pickI (b : MBook) (o u k : Nat) : Int := (listI (pickN b o u k : Nat) 5).getD 0 0
def pickL (b : MBook) (o u j : Nat) : List Int := (List.range j).map (pickI b o u)
def anyL (bits : List Int) (j : Nat) : List Int := (List.range j).map fun (k : Nat) => rndI (takeL bits k) 5
theorem two_ne {len : Nat} {o : Nat} {r : Int} (ho : o < len) (h2 : 2 ≤ len) (hr : 0 ≤ r ∧ r < (len : Int) - 1) : ∃ u : Nat, rndI ((o : Int) + 1 + r) len = u ∧ u < len ∧ u ≠ o := by
  unfold rndI
  rw [if_neg (by omega)]
  by_cases h : (o : Int) + 1 + r < len
  · rw [Int.emod_eq_of_lt (by omega) h]
    exact ⟨((o : Int) + 1 + r).toNat, by omega, by omega, by omega⟩
  · have : ((o : Int) + 1 + r) / len = 1 ∧ ((o : Int) + 1 + r) % len = (o : Int) + 1 + r - len := (Int.ediv_emod_unique (by omega)).2 ⟨by omega, by omega, by omega⟩
    rw [this.2]
    exact ⟨((o : Int) + 1 + r - len).toNat, by omega, by omega, by omega⟩
end Go.Proofs.Ytlbolnlcncjijaa.Mk
namespace Go.Proofs.Ytlbolnlcncjijaa
open Go.RowKit
section
variable {C : Con} {rd : List Nat} {d : Option Nat} {i : Nat} {tk lst : Bool} {s : AS} {K : List Nat → AS → Prop}
theorem gs_newA {cs : List PV} : gstep C rd ⟨d, .new (.agg cs), none, i, tk, lst⟩ s K = K (bif lst then [] else rd) ((mkOwn s (cs.map .p)).put d (.loc s.loc.length 0)) := by
  rw [gs_eff rfl]; rfl
def stGB (lst : Bool) (id off n : Nat) (k : Option ABlk) (c : List AV) (rd : List Nat) (d : Option Nat) (s : AS) (K : AS → Prop) : Prop :=
  match k with
  | some (.cells cs) => (lst = true ∨ id ∉ rd) ∧ off + n ≤ cs.length ∧ K (({ s with loc := s.loc.set id (.cells (putCells cs off c)) } : AS).put d (.p .und))
  | some (.prt m cs) => (lst = true ∨ id ∉ rd) ∧ m ≤ off ∧ off + n ≤ cs.length ∧ K (({ s with loc := s.loc.set id (.prt m (putCells cs off c)) } : AS).put d (.p .und))
  | _ => False
def stG (v : AV) (u : Option (List AV)) (lst : Bool) (n : Nat) (rd : List Nat) (d : Option Nat) (s : AS) (K : AS → Prop) : Prop :=
  match v, u with
  | .loc id off, some c => stGB lst id off n s.loc[id]? c rd d s K
  | _, _ => False
theorem gs_stA {n : Nat} {a x : AX} : gstep C rd ⟨d, .st n a x, none, i, tk, lst⟩ s K = stG (a.ev s) (cellsA n (x.ev s)) lst n (bif lst then [] else rd) d s (K (bif lst then [] else rd)) := by
  rw [gs_eff rfl]
  simp only [effQ, stG, stGB]
  cases a.ev s with
  | loc id off =>
    cases cellsA n (x.ev s) with
    | none => rfl
    | some v =>
      simp only
      cases s.loc[id]? with
      | none => rfl
      | some k => cases k <;> rfl
  | _ => rfl
theorem stG_loc {id off n : Nat} {c : List AV} {K : AS → Prop} : stG (.loc id off) (some c) lst n rd d s K = stGB lst id off n s.loc[id]? c rd d s K := rfl
theorem stGB_cells {id off n : Nat} {cs c : List AV} {K : AS → Prop} : stGB lst id off n (some (.cells cs)) c rd d s K = ((lst = true ∨ id ∉ rd) ∧ off + n ≤ cs.length ∧ K (({ s with loc := s.loc.set id (.cells (putCells cs off c)) } : AS).put d (.p .und))) := rfl
end
end Go.Proofs.Ytlbolnlcncjijaa
namespace Go.Proofs.Ytlbolnlcncjijaa.Tp
open Go.RowKit
def ac26 : AC := (AC.seq (AC.ops [(AOp.mk (some 1) (AK.box 2 (AX.t 0)) none 0 false true), (AOp.mk (some 2) (AK.mv (AX.c (PV.val (Value.bool false)))) none 1 false true)]) (AC.seq (AC.ops [(AOp.mk (some 6) (AK.ld (some 2) (AX.t 1)) none 0 false true), (AOp.mk (some 7) (AK.call 49 [(AX.t 6)]) none 1 false true), (AOp.mk (some 8) (AK.bin false BinOp.eql (AX.t 7) (AX.c (PV.val (Value.int IntKind.i64 0)))) none 2 false true), (AOp.mk (some 9) (AK.mv (AX.t 8)) none 3 false true), (AOp.mk (some 10) (AK.fadr 0 (AX.t 1)) (some (9, true)) 4 false true), (AOp.mk (some 11) (AK.ld none (AX.t 10)) (some (9, true)) 5 false true), (AOp.mk (some 12) (AK.call 33 [(AX.t 11), (AX.c (PV.val (Value.int IntKind.i64 1))), (AX.c (PV.val (Value.int IntKind.i64 6)))]) (some (9, true)) 6 false true), (AOp.mk (some 13) (AK.pick (AX.t 9) (AX.t 12) (AX.c (PV.val (Value.bool false)))) none 7 false true), (AOp.mk (some 14) (AK.mv (AX.t 13)) none 8 false true), (AOp.mk (some 15) (AK.fadr 1 (AX.t 1)) (some (14, true)) 9 false true), (AOp.mk (some 16) (AK.ld none (AX.t 15)) (some (14, true)) 10 false true), (AOp.mk (some 17) (AK.len (AX.t 16)) (some (14, true)) 11 false true), (AOp.mk (some 18) (AK.call 33 [(AX.t 17), (AX.c (PV.val (Value.int IntKind.i64 1))), (AX.c (PV.val (Value.int IntKind.i64 5)))]) (some (14, true)) 12 false true), (AOp.mk (some 19) (AK.pick (AX.t 14) (AX.t 18) (AX.c (PV.val (Value.bool false)))) none 13 false true), (AOp.mk (some 3) (AK.mv (AX.t 19)) none 14 false true)]) (AC.seq (AC.seq (AC.ops [(AOp.mk (some 4) (AK.mv (AX.c (PV.val (Value.int IntKind.i64 0)))) none 0 false true)]) (AC.block 0 (AC.loop (AC.seq (AC.seq (AC.ops [(AOp.mk (some 20) (AK.mv (AX.t 3)) none 0 false true), (AOp.mk (some 21) (AK.mv (AX.t 20)) none 1 false true), (AOp.mk (some 22) (AK.mv (AX.t 4)) (some (21, true)) 2 false true), (AOp.mk (some 23) (AK.fadr 1 (AX.t 1)) (some (21, true)) 3 false true), (AOp.mk (some 24) (AK.ld none (AX.t 23)) (some (21, true)) 4 false true), (AOp.mk (some 25) (AK.len (AX.t 24)) (some (21, true)) 5 false true), (AOp.mk (some 26) (AK.bin false BinOp.lss (AX.t 22) (AX.t 25)) (some (21, true)) 6 false true), (AOp.mk (some 27) (AK.pick (AX.t 21) (AX.t 26) (AX.c (PV.val (Value.bool false)))) none 7 false true)]) (AC.cond (AX.t 27) AC.skip (AC.exit 0))) (AC.seq (AC.block 1 (AC.seq (AC.ops [(AOp.mk (some 30) (AK.fadr 1 (AX.t 1)) none 0 true false), (AOp.mk (some 31) (AK.ld none (AX.t 30)) none 1 true false), (AOp.mk (some 32) (AK.mv (AX.t 4)) none 2 true false), (AOp.mk (some 33) (AK.iadrS 1 (AX.t 31) (AX.t 32)) none 3 true false), (AOp.mk (some 34) (AK.ld none (AX.t 33)) none 4 true false), (AOp.mk (some 35) (AK.len (AX.t 34)) none 5 true false), (AOp.mk (some 36) (AK.fadr 0 (AX.t 1)) none 6 true false), (AOp.mk (some 37) (AK.ld none (AX.t 36)) none 7 true false), (AOp.mk (some 38) (AK.bin false BinOp.eql (AX.t 35) (AX.t 37)) none 8 true true), (AOp.mk (some 3) (AK.mv (AX.t 38)) none 9 true true)]) (AC.seq (AC.ops [(AOp.mk (some 5) (AK.mv (AX.c (PV.val (Value.int IntKind.i64 0)))) none 0 false true)]) (AC.block 2 (AC.loop (AC.seq (AC.seq (AC.ops [(AOp.mk (some 39) (AK.mv (AX.t 3)) none 0 false true), (AOp.mk (some 40) (AK.mv (AX.t 39)) none 1 false true), (AOp.mk (some 41) (AK.mv (AX.t 5)) (some (40, true)) 2 false true), (AOp.mk (some 42) (AK.fadr 0 (AX.t 1)) (some (40, true)) 3 false true), (AOp.mk (some 43) (AK.ld none (AX.t 42)) (some (40, true)) 4 false true), (AOp.mk (some 44) (AK.bin false BinOp.lss (AX.t 41) (AX.t 43)) (some (40, true)) 5 false true), (AOp.mk (some 45) (AK.pick (AX.t 40) (AX.t 44) (AX.c (PV.val (Value.bool false)))) none 6 false true)]) (AC.cond (AX.t 45) AC.skip (AC.exit 2))) (AC.seq (AC.block 3 (AC.ops [(AOp.mk (some 48) (AK.fadr 1 (AX.t 1)) none 0 false true), (AOp.mk (some 49) (AK.ld none (AX.t 48)) none 1 false true), (AOp.mk (some 50) (AK.mv (AX.t 4)) none 2 false true), (AOp.mk (some 51) (AK.iadrS 1 (AX.t 49) (AX.t 50)) none 3 false true), (AOp.mk (some 52) (AK.ld none (AX.t 51)) none 4 false true), (AOp.mk (some 53) (AK.mv (AX.t 5)) none 5 false true), (AOp.mk (some 54) (AK.iadrS 1 (AX.t 52) (AX.t 53)) none 6 false true), (AOp.mk (some 55) (AK.ld none (AX.t 54)) none 7 false true), (AOp.mk (some 56) (AK.call 33 [(AX.t 55), (AX.c (PV.val (Value.int IntKind.i64 1))), (AX.c (PV.val (Value.int IntKind.i64 15)))]) none 8 false true), (AOp.mk (some 3) (AK.mv (AX.t 56)) none 9 false true)])) (AC.ops [(AOp.mk (some 46) (AK.mv (AX.t 5)) none 0 false true), (AOp.mk (some 47) (AK.bin false BinOp.add (AX.t 46) (AX.c (PV.val (Value.int IntKind.i64 1)))) none 1 false true), (AOp.mk (some 5) (AK.mv (AX.t 47)) none 2 false true)])))))))) (AC.ops [(AOp.mk (some 28) (AK.mv (AX.t 4)) none 0 false true), (AOp.mk (some 29) (AK.bin false BinOp.add (AX.t 28) (AX.c (PV.val (Value.int IntKind.i64 1)))) none 1 false true), (AOp.mk (some 4) (AK.mv (AX.t 29)) none 2 false true)])))))) (AC.seq (AC.ops [(AOp.mk (some 57) (AK.mv (AX.t 3)) none 0 false true), (AOp.mk (some 2) (AK.mv (AX.t 57)) none 1 false true)]) AC.ret))))
theorem ac26_ok : cCode Try.prog (fun _ => false) Try.f26.ntmps (Try.f26.body.getD .skip) = some ac26 := by kernel_rfl
def ac30 : AC := (AC.seq (AC.ops [(AOp.mk (some 4) (AK.mv (AX.c (PV.sl SK.full 0 []))) none 0 false true)]) (AC.seq (AC.ops [(AOp.mk (some 7) (AK.bslice false 3 1 0 [(PV.val (Value.int IntKind.i64 0))] []) none 0 false true), (AOp.mk (some 5) (AK.mv (AX.t 7)) none 1 false true)]) (AC.seq (AC.seq (AC.ops [(AOp.mk (some 6) (AK.mv (AX.c (PV.val (Value.int IntKind.i64 0)))) none 0 false true)]) (AC.block 0 (AC.loop (AC.seq (AC.seq (AC.ops [(AOp.mk (some 8) (AK.mv (AX.t 6)) none 0 false true), (AOp.mk (some 9) (AK.mv (AX.t 0)) none 1 false true), (AOp.mk (some 10) (AK.len (AX.t 9)) none 2 false true), (AOp.mk (some 11) (AK.bin false BinOp.lss (AX.t 8) (AX.t 10)) none 3 false true)]) (AC.cond (AX.t 11) AC.skip (AC.exit 0))) (AC.seq (AC.block 1 (AC.ops [(AOp.mk (some 14) (AK.mv (AX.t 5)) none 0 false true), (AOp.mk (some 15) (AK.mv (AX.t 0)) none 1 false true), (AOp.mk (some 16) (AK.mv (AX.t 6)) none 2 false true), (AOp.mk (some 17) (AK.mv (AX.t 1)) none 3 false true), (AOp.mk (some 18) (AK.bin false BinOp.add (AX.t 16) (AX.t 17)) none 4 false true), (AOp.mk (some 19) (AK.mv (AX.t 0)) none 5 false true), (AOp.mk (some 20) (AK.len (AX.t 19)) none 6 false true), (AOp.mk (some 21) (AK.call 8 [(AX.t 18), (AX.t 20)]) none 7 false true), (AOp.mk (some 22) (AK.iadrS 1 (AX.t 15) (AX.t 21)) none 8 false true), (AOp.mk (some 23) (AK.ld none (AX.t 22)) none 9 false true), (AOp.mk (some 24) (AK.bslice false 3 1 1 [(PV.val (Value.int IntKind.i64 0))] [(0, (1, (AX.t 23)))]) none 10 false true), (AOp.mk (some 25) (AK.app false 3 1 8 [(PV.val (Value.int IntKind.i64 0))] (AX.t 14) (AX.t 24)) none 11 false true), (AOp.mk (some 5) (AK.mv (AX.t 25)) none 12 false true)])) (AC.ops [(AOp.mk (some 12) (AK.mv (AX.t 6)) none 0 false true), (AOp.mk (some 13) (AK.bin false BinOp.add (AX.t 12) (AX.c (PV.val (Value.int IntKind.i64 1)))) none 1 false true), (AOp.mk (some 6) (AK.mv (AX.t 13)) none 2 false true)])))))) (AC.seq (AC.ops [(AOp.mk (some 26) (AK.mv (AX.t 5)) none 0 false true), (AOp.mk (some 4) (AK.mv (AX.t 26)) none 1 false true)]) AC.ret))))
theorem ac30_ok : cCode Try.prog (fun _ => false) Try.f30.ntmps (Try.f30.body.getD .skip) = some ac30 := by kernel_rfl
def ac52 : AC := (AC.seq (AC.ops [(AOp.mk (some 2) (AK.box 2 (AX.t 0)) none 0 false true), (AOp.mk (some 4) (AK.new (PV.agg [(PV.sl SK.full 0 []), (PV.sl SK.full 0 []), (PV.val (Value.int IntKind.i64 0)), (PV.val (Value.int IntKind.i64 0))])) none 1 false true)]) (AC.seq (AC.ops [(AOp.mk (some 7) (AK.fadr 1 (AX.t 2)) none 0 false true), (AOp.mk (some 8) (AK.ld none (AX.t 7)) none 1 false true), (AOp.mk (some 9) (AK.build [(PV.sl SK.full 0 []), (PV.sl SK.full 0 []), (PV.val (Value.int IntKind.i64 0)), (PV.val (Value.int IntKind.i64 0))] [(0, (1, (AX.t 8)))]) none 2 false true), (AOp.mk (some 5) (AK.new (PV.agg [(PV.sl SK.full 0 []), (PV.sl SK.full 0 []), (PV.val (Value.int IntKind.i64 0)), (PV.val (Value.int IntKind.i64 0))])) none 3 false true), (AOp.mk none (AK.st 4 (AX.t 5) (AX.t 9)) none 4 false true)]) (AC.seq (AC.seq (AC.ops [(AOp.mk (some 6) (AK.mv (AX.c (PV.val (Value.int IntKind.i64 0)))) none 0 false true)]) (AC.block 0 (AC.loop (AC.seq (AC.seq (AC.ops [(AOp.mk (some 10) (AK.mv (AX.t 6)) none 0 false true), (AOp.mk (some 11) (AK.mv (AX.t 1)) none 1 false true), (AOp.mk (some 12) (AK.len (AX.t 11)) none 2 false true), (AOp.mk (some 13) (AK.bin false BinOp.lss (AX.t 10) (AX.t 12)) none 3 false true)]) (AC.cond (AX.t 13) AC.skip (AC.exit 0))) (AC.seq (AC.block 1 (AC.ops [(AOp.mk (some 16) (AK.fadr 1 (AX.t 5)) none 0 true false), (AOp.mk (some 17) (AK.ld none (AX.t 16)) none 1 true false), (AOp.mk (some 18) (AK.mv (AX.t 6)) none 2 true false), (AOp.mk (some 19) (AK.mv (AX.t 1)) none 3 true false), (AOp.mk (some 20) (AK.mv (AX.t 6)) none 4 true false), (AOp.mk (some 21) (AK.iadrS 1 (AX.t 19) (AX.t 20)) none 5 true false), (AOp.mk (some 22) (AK.ld none (AX.t 21)) none 6 true false), (AOp.mk (some 23) (AK.bin false BinOp.shl (AX.c (PV.val (Value.int IntKind.i64 1))) (AX.t 22)) none 7 true false), (AOp.mk (some 24) (AK.build [(PV.val (Value.int IntKind.i64 0)), (PV.val (Value.int IntKind.i64 0))] [(0, (1, (AX.t 18))), (1, (1, (AX.t 23)))]) none 8 true false), (AOp.mk (some 25) (AK.bslice false 27 2 1 [(PV.val (Value.int IntKind.i64 0)), (PV.val (Value.int IntKind.i64 0))] [(0, (2, (AX.t 24)))]) none 9 false false), (AOp.mk (some 26) (AK.app false 27 2 16 [(PV.val (Value.int IntKind.i64 0)), (PV.val (Value.int IntKind.i64 0))] (AX.t 17) (AX.t 25)) none 10 false true), (AOp.mk (some 27) (AK.fadr 1 (AX.t 5)) none 11 true true), (AOp.mk none (AK.st 1 (AX.t 27) (AX.t 26)) none 12 false true)])) (AC.ops [(AOp.mk (some 14) (AK.mv (AX.t 6)) none 0 false true), (AOp.mk (some 15) (AK.bin false BinOp.add (AX.t 14) (AX.c (PV.val (Value.int IntKind.i64 1)))) none 1 false true), (AOp.mk (some 6) (AK.mv (AX.t 15)) none 2 false true)])))))) (AC.seq (AC.ops [(AOp.mk (some 28) (AK.ld (some 4) (AX.t 5)) none 0 false true), (AOp.mk none (AK.st 4 (AX.t 4) (AX.t 28)) none 1 false true)]) AC.ret))))
theorem ac52_ok : cCode Try.prog (fun _ => false) Try.f52.ntmps (Try.f52.body.getD .skip) = some ac52 := by kernel_rfl
def smallB (b : DBook) : Prop := okBook b ∧ b.round ≤ 6 ∧ b.horses.length ≤ 5
instance (b : DBook) : Decidable (smallB b) := by unfold smallB; infer_instance
theorem small_sem (k : SK) (b : DBook) : Sem1 26 [.agg (bookC k b)] (pb (decide (smallB b))) := by
  by_cases ho : okBook b
  rotate_left
  · have hn : decide (smallB b) = false := decide_eq_false fun h => ho h.1
    rw [hn]
    refine semC_of_exec' mixed Try.func26 (by kernel_rfl) (by kernel_rfl) ac26_ok 1 rfl (by decide) [(.tmp 2)] (by kernel_rfl) ?_
    intro hr C hC hI
    unfold ac26
    simp only [go_sem, Nat.reduceBEq, Nat.reduceAdd]
    refine call_pure2 hC (Check_sem k b) rfl (PVleL_refl _) ?_
    rintro r rfl
    simp only [go_sem, Nat.reduceBEq, if_neg ho, decide_false, decide_false, Int.reduceEq]
    refine loop_k 0 (fun _ => True) [1] (fun j => [(4, .p (pi 0)), (3, .p (pb false))]) trivial rfl ⟨rfl, by simp, by simp⟩ (by simp [wkT, look, AV.lo]) ?_
    rintro j ⟨hj, -⟩
    simp only [go_sem, Nat.reduceBEq]
    exact retQ_one rfl rfl
  by_cases hr6 : b.round ≤ 6
  rotate_left
  · have hn : decide (smallB b) = false := decide_eq_false fun h => hr6 h.2.1
    rw [hn]
    refine semC_of_exec' mixed Try.func26 (by kernel_rfl) (by kernel_rfl) ac26_ok 1 rfl (by decide) [(.tmp 2)] (by kernel_rfl) ?_
    intro hr C hC hI
    unfold ac26
    simp only [go_sem, Nat.reduceBEq, Nat.reduceAdd]
    refine call_pure2 hC (Check_sem k b) rfl (PVleL_refl _) ?_
    rintro r rfl
    simp only [go_sem, Nat.reduceBEq, if_pos ho, decide_true, decide_true]
    refine call_pure2 hC (In_sem b.round 1 6) rfl (PVleL_refl _) ?_
    rintro r rfl
    simp only [go_sem, Nat.reduceBEq, decide_eq_false (show ¬ (1 ≤ b.round ∧ b.round ≤ 6) by omega)]
    refine loop_k 0 (fun _ => True) [1] (fun j => [(4, .p (pi 0)), (3, .p (pb false))]) trivial rfl ⟨rfl, by simp, by simp⟩ (by simp [wkT, look, AV.lo]) ?_
    rintro j ⟨hj, -⟩
    simp only [go_sem, Nat.reduceBEq]
    exact retQ_one rfl rfl
  have h1 := ho.1
  have h6 := ho.2.1
  by_cases hm5 : b.horses.length ≤ 5
  rotate_left
  · have hn : decide (smallB b) = false := decide_eq_false fun h => hm5 h.2.2
    rw [hn]
    refine semC_of_exec' mixed Try.func26 (by kernel_rfl) (by kernel_rfl) ac26_ok 1 rfl (by decide) [(.tmp 2)] (by kernel_rfl) ?_
    intro hr C hC hI
    unfold ac26
    simp only [go_sem, Nat.reduceBEq, Nat.reduceAdd]
    refine call_pure2 hC (Check_sem k b) rfl (PVleL_refl _) ?_
    rintro r rfl
    simp only [go_sem, Nat.reduceBEq, if_pos ho, decide_true, decide_true]
    refine call_pure2 hC (In_sem b.round 1 6) rfl (PVleL_refl _) ?_
    rintro r rfl
    simp only [go_sem, Nat.reduceBEq, decide_eq_true (show 1 ≤ b.round ∧ b.round ≤ 6 by omega), List.length_map]
    refine call_pure2 hC (In_sem (b.horses.length : Int) 1 5) rfl (PVleL_refl _) ?_
    rintro r rfl
    simp only [go_sem, Nat.reduceBEq, decide_eq_false (show ¬ ((1 : Int) ≤ b.horses.length ∧ (b.horses.length : Int) ≤ 5) by omega)]
    refine loop_k 0 (fun _ => True) [1] (fun j => [(4, .p (pi 0)), (3, .p (pb false))]) trivial rfl ⟨rfl, by simp, by simp⟩ (by simp [wkT, look, AV.lo]) ?_
    rintro j ⟨hj, -⟩
    simp only [go_sem, Nat.reduceBEq]
    exact retQ_one rfl rfl
  have hn : decide (smallB b) = true := decide_eq_true ⟨ho, hr6, hm5⟩
  obtain ⟨-, -, hn2⟩ := okR ho
  rw [hn]
  refine semC_of_exec' mixed Try.func26 (by kernel_rfl) (by kernel_rfl) ac26_ok 1 rfl (by decide) [(.tmp 2)] (by kernel_rfl) ?_
  intro hr C hC hI
  unfold ac26
  simp only [go_sem, Nat.reduceBEq, Nat.reduceAdd]
  refine call_pure2 hC (Check_sem k b) rfl (PVleL_refl _) ?_
  rintro r rfl
  simp only [go_sem, Nat.reduceBEq, if_pos ho, decide_true, decide_true]
  refine call_pure2 hC (In_sem b.round 1 6) rfl (PVleL_refl _) ?_
  rintro r rfl
  simp only [go_sem, Nat.reduceBEq, decide_eq_true (show 1 ≤ b.round ∧ b.round ≤ 6 by omega), List.length_map]
  refine call_pure2 hC (In_sem (b.horses.length : Int) 1 5) rfl (PVleL_refl _) ?_
  rintro r rfl
  simp only [go_sem, Nat.reduceBEq, decide_eq_true (show ((1 : Int) ≤ b.horses.length ∧ (b.horses.length : Int) ≤ 5) by omega)]
  refine loop_k b.horses.length (fun _ => True) [1] (fun j => [(4, .p (pi j)), (3, .p (pb true))]) trivial rfl ⟨rfl, by simp, by simp⟩ (by simp [wkT, look, AV.lo]) ?_
  rintro j ⟨hj, -⟩
  simp only [go_sem, Nat.reduceBEq, List.length_map]
  refine ⟨fun h5 => ?_, fun h5 => ?_⟩
  · have hj2 : j < b.horses.length := by omega
    have hH := ho.2.2 _ (List.getElem_mem hj2)
    have eh := iadr_map (f := fun h => [pis h]) (kd := k) (sz := 1) hj2
    obtain ⟨r, hr'⟩ : ∃ r, b.horses[j] = r := ⟨_, rfl⟩
    rw [hr'] at hH eh
    simp only [go_sem, Nat.reduceBEq, eh, List.length_map, decide_eq_true hH.1]
    refine loop_k (nR b) (fun _ => True) [1, 4] (fun q => [(5, .p (pi q)), (3, .p (pb true))]) trivial rfl ⟨rfl, by simp, by simp⟩ (by simp [wkT, look, AV.lo]) ?_
    rintro q ⟨hq, -⟩
    simp only [go_sem, Nat.reduceBEq]
    refine ⟨fun h6 => ?_, fun h6 => ?_⟩
    · have hq2 : q < nR b := by omega
      have hq3 : q < r.length := by have := hH.1; omega
      have hx := hH.2 _ (List.getElem_mem hq3)
      simp only [go_sem, Nat.reduceBEq, eh, iadr_pis hq3]
      refine call_pure2 hC (In_sem ..) rfl (PVleL_refl _) ?_
      rintro r rfl
      simp only [go_sem, Nat.reduceBEq, decide_eq_true hx, wrap_succ (k := q) (by omega)]
      exact ⟨⟨q + 1, hq2, trivial⟩, by simp only; omega, by simp [Wk, wkT, wkL, look, AV.lo, AV.lo.loL, ABlk.toZ]⟩
    · simp only [go_sem, wrap_succ (k := j) (by omega)]
      exact ⟨⟨j + 1, hj2, trivial⟩, by simp only; omega, by simp [Wk, wkT, wkL, look, AV.lo, AV.lo.loL, ABlk.toZ]⟩
  · exact retQ_one rfl rfl
def rotL (l : List Int) (t : Nat) : List Int := (List.range l.length).map fun p => l.getD ((p + t) % l.length) 0
theorem rotL_len (l : List Int) (t : Nat) : (rotL l t).length = l.length := by simp [rotL]
theorem rot_take {l : List Int} {t i : Nat} (hi : i < l.length) : (rotL l t).take (i + 1) = (rotL l t).take i ++ [l.getD ((i + t) % l.length) 0] := by
  have h : i < (rotL l t).length := by rw [rotL_len]; exact hi
  rw [List.take_add_one, List.getElem?_eq_getElem h]
  simp [rotL]
theorem rnd_nat {a m : Nat} (h : 1 ≤ m) : rndI (a : Int) m = ((a % m : Nat) : Int) := by
  unfold rndI
  rw [if_neg (by omega)]
  omega
theorem turned_sem (l : List Int) (t : Nat) (ht : t ≤ 1000) (hl : l.length ≤ 1000) : Sem1 30 [pis l, pi t] (pis (rotL l t)) := by
  refine semC_of_exec' mixed Try.func30 (by kernel_rfl) (by kernel_rfl) ac30_ok 2 rfl (by decide) [(.tmp 4)] (by kernel_rfl) ?_
  intro hr C hC hI
  unfold ac30
  simp only [go_sem, Nat.reduceBEq]
  refine loop_g (α := Nat × Option Nat) (fun a => a.1 ≤ l.length ∧ (a.2 = none → ((rotL l t).take a.1).map (fun x => [pi x]) = [])) (fun a => l.length - a.1) [0, 1] (fun a => [(5, .p (slG 3 a.2 (((rotL l t).take a.1).map fun x => [pi x]))), (6, .p (pi a.1))]) (fun a => []) (fun a => a.2.toList) (0, none) ⟨by omega, fun _ => rfl⟩ (by simp [Wk, wkT, wkL, look, AV.lo, upS_eq, keepS_nil, keepS_cons, slG]) ?_
  rintro ⟨i, o⟩ ⟨hi, h0⟩
  replace hi : i ≤ l.length := hi
  replace h0 : o = none → ((rotL l t).take i).map (fun x => [pi x]) = [] := h0
  simp only [go_sem, Nat.reduceBEq, List.length_map]
  refine ⟨fun d6 => ?_, fun d6 => ?_⟩
  · have hi2 : i < l.length := by omega
    have hm : (i + t) % l.length < l.length := Nat.mod_lt _ (by omega)
    have e1 : IntKind.i64.wrap ((i : Int) + (t : Int)) = ((i + t : Nat) : Int) := by
      rw [wrap_id (by omega) (by omega)]
      omega
    have hnx := rot_take (t := t) hi2
    have eg : l.getD ((i + t) % l.length) 0 = l[(i + t) % l.length] := by rw [List.getD_eq_getElem?_getD, List.getElem?_eq_getElem hm]; rfl
    have hrow : ((rotL l t).take (i + 1)).map (fun x => [pi x]) = ((rotL l t).take i).map (fun x => [pi x]) ++ [[pi l[(i + t) % l.length]]] := by
      rw [hnx, eg]
      simp
    simp only [go_sem, e1]
    refine call_pure2 hC (Round_sem ((i + t : Nat) : Int) (l.length : Int)) rfl (PVleL_refl _) ?_
    rintro r rfl
    simp only [go_sem, Nat.reduceBEq, rnd_nat (a := i + t) (m := l.length) (by omega), iadr_pis hm]
    refine app_slG h0 (by rw [List.length_map, List.length_take, rotL_len]; omega) (by simp) fun tk htk => ?_
    simp only [go_sem, Nat.reduceBEq, wrap_succ (k := i) (by omega)]
    refine ⟨⟨(i + 1, some tk), hi2, (fun h => by cases h)⟩, by simp only; omega, ?_⟩
    simp only [hrow]
    simp [Wk, wkT, wkL, look, AV.lo]
  · refine retQ_slG h0 rfl ?_
    have : i = (rotL l t).length := by rw [rotL_len]; omega
    rw [this, List.take_length]
theorem slZ_some {e : TypeId} {sz t : Nat} {rows : List (List PV)} : slZ e sz (some t) rows = .sl (.own t e sz) sz rows := rfl
def stB (b : DBook) (l : List Int) : Mk.MBook := ⟨b.horses, Mk.exL l l.length, 0, 0⟩
theorem stable_sem (k : SK) (b : DBook) (v : List Int) (hv5 : Mk.fiveL v) (hvl : v.length ≤ 8) : Sem1 52 [.agg (bookC k b), pis v] (.agg (Mk.bookC k .sh (stB b v))) := by
  refine semC_of_exec' mixed Try.func52 (by kernel_rfl) (by kernel_rfl) ac52_ok 2 rfl (by decide) [(.cell 4 25)] (by kernel_rfl) ?_
  intro hr C hC hI
  unfold ac52
  simp only [go_sem, Nat.reduceBEq, Nat.reduceAdd, Nat.reduceLeDiff, putCells]
  refine loop_g (α := Nat × Option Nat) (fun a => a.1 ≤ v.length ∧ (a.2 = none → Mk.seenC (Mk.exL v a.1) = [])) (fun a => v.length - a.1) [1, 4, 5] (fun a => [(6, .p (pi a.1))]) (fun a => [.cells [.p (pi b.round), .p (.sl k 1 (rowsC b.horses))], .cells [.p (.sl .full 0 []), .p (.sl .full 0 []), .p (pi 0), .p (pi 0)], .cells [.p (.sl k 1 (rowsC b.horses)), .p (slZ 27 2 a.2 (Mk.seenC (Mk.exL v a.1))), .p (pi 0), .p (pi 0)]]) (fun a => a.2.toList) (0, none) ⟨by omega, fun _ => rfl⟩ (by simp [Wk, wkT, wkL, look, AV.lo, AV.lo.loL, ABlk.toZ, upS_eq, keepS_nil, keepS_cons, slZ]) ?_
  rintro ⟨i, o⟩ ⟨hi, h0⟩
  replace hi : i ≤ v.length := hi
  replace h0 : o = none → Mk.seenC (Mk.exL v i) = [] := h0
  simp only [go_sem, Nat.reduceBEq, Nat.reduceAdd, List.length_map, putCells]
  refine ⟨fun d6 => ?_, fun d6 => ?_⟩
  · have hi2 : i < v.length := by omega
    have hw5 := Mk.ex_five hv5 i
    have hx := hv5 v[i] (List.getElem_mem hi2)
    have hex : v[i] = ((Mk.exV v i : Nat) : Int) := by
      unfold Mk.exV
      rw [List.getD_eq_getElem?_getD, List.getElem?_eq_getElem hi2]
      show v[i] = ((v[i].toNat : Nat) : Int)
      omega
    have hnx := Mk.exL_next v i
    obtain ⟨w, ew⟩ : ∃ w, Mk.exV v i = w := ⟨_, rfl⟩
    rw [ew] at hw5 hnx hex
    have hcast : ((2 ^ w : Nat) : Int) = (2 : Int) ^ w := by norm_cast
    have hrow : Mk.seenC (Mk.exL v (i + 1)) = Mk.seenC (Mk.exL v i) ++ [[pi i, pi ((2 ^ w : Nat) : Int)]] := by
      rw [hnx, hcast]
      simp [Mk.seenC]
    simp only [go_sem, Nat.reduceBEq, Nat.reduceAdd, Nat.reduceLeDiff, iadr_pis hi2, hex, bin_shl (show ¬ (w : Int) < 0 by omega), Mk.shl6 (m := w) (by omega), putCells]
    refine app_slZ h0 (by rw [List.length_map, Mk.exL_len]; omega) (by simp) fun tk htk => ?_
    simp only [go_sem, Nat.reduceBEq, Nat.reduceAdd, Nat.reduceLeDiff, wrap_succ (k := i) (by omega), putCells, slZ_some, true_or, true_and]
    refine ⟨⟨(i + 1, some tk), hi2, (fun h => by cases h)⟩, by simp only; omega, ?_⟩
    simp only [hrow, slZ_some]
    refine ⟨by simp [wkT, look, AV.lo], by simp [wkL, AV.lo, AV.lo.loL, ABlk.toZ], by simp, by simp, rfl, rfl, by simp⟩
  · have hiv : i = v.length := by omega
    subst hiv
    refine retQ_cell_le (n := some 4) (by kernel_rfl) rfl ?_ rfl
    exact PVle.agg (show PVleL [_, _, _, _] [_, _, _, _] from ⟨PVle.refl _, slZ_le h0, PVle.refl _, PVle.refl _, trivial⟩)
end Go.Proofs.Ytlbolnlcncjijaa.Tp
namespace Go.Proofs.Ytlbolnlcncjijaa.Mk
open Go.RowKit Ls
def ac133 : AC := (AC.seq (AC.ops [(AOp.mk (some 4) (AK.mv (AX.c (PV.val (Value.int IntKind.i64 0)))) none 0 false true)]) (AC.seq (AC.seq (AC.ops [(AOp.mk (some 6) (AK.mv (AX.t 0)) none 0 false true), (AOp.mk (some 7) (AK.len (AX.t 6)) none 1 false true), (AOp.mk (some 8) (AK.mv (AX.c (PV.val (Value.int IntKind.i64 0)))) none 2 false true)]) (AC.block 0 (AC.loop (AC.seq (AC.ops [(AOp.mk (some 9) (AK.bin false BinOp.lss (AX.t 8) (AX.t 7)) none 0 false true)]) (AC.seq (AC.cond (AX.t 9) AC.skip (AC.exit 0)) (AC.seq (AC.block 1 (AC.seq (AC.ops [(AOp.mk (some 10) (AK.mv (AX.t 8)) none 0 false true), (AOp.mk (some 5) (AK.mv (AX.t 10)) none 1 false true)]) (AC.seq (AC.ops [(AOp.mk (some 11) (AK.mv (AX.t 1)) none 0 false true), (AOp.mk (some 12) (AK.mv (AX.t 0)) none 1 false true), (AOp.mk (some 13) (AK.mv (AX.t 5)) none 2 false true), (AOp.mk (some 14) (AK.iadrS 1 (AX.t 12) (AX.t 13)) none 3 false true), (AOp.mk (some 15) (AK.ld none (AX.t 14)) none 4 false true), (AOp.mk (some 16) (AK.bin false BinOp.eql (AX.t 11) (AX.t 15)) none 5 false true)]) (AC.cond (AX.t 16) (AC.seq (AC.ops [(AOp.mk (some 17) (AK.mv (AX.t 5)) none 0 false true), (AOp.mk (some 4) (AK.mv (AX.t 17)) none 1 false true)]) AC.ret) AC.skip)))) (AC.ops [(AOp.mk (some 18) (AK.bin false BinOp.add (AX.t 8) (AX.c (PV.val (Value.int IntKind.i64 1)))) none 0 false true), (AOp.mk (some 8) (AK.mv (AX.t 18)) none 1 false true)]))))))) (AC.seq (AC.ops [(AOp.mk (some 4) (AK.mv (AX.c (PV.val (Value.int IntKind.i64 (-1))))) none 0 false true)]) AC.ret)))
theorem ac133_ok : cCode Try.prog (fun _ => false) Try.f133.ntmps (Try.f133.body.getD .skip) = some ac133 := by kernel_rfl
def ac123 : AC := (AC.seq (AC.ops [(AOp.mk (some 4) (AK.mv (AX.c (PV.val (Value.bool false)))) none 0 false true)]) (AC.seq (AC.ops [(AOp.mk (some 5) (AK.mv (AX.t 0)) none 0 false true), (AOp.mk (some 6) (AK.mv (AX.t 1)) none 1 false true), (AOp.mk (some 7) (AK.call 133 [(AX.t 5), (AX.t 6)]) none 2 false true), (AOp.mk (some 8) (AK.bin false BinOp.geq (AX.t 7) (AX.c (PV.val (Value.int IntKind.i64 0)))) none 3 false true), (AOp.mk (some 4) (AK.mv (AX.t 8)) none 4 false true)]) AC.ret))
theorem ac123_ok : cCode Try.prog (fun _ => false) Try.f123.ntmps (Try.f123.body.getD .skip) = some ac123 := by kernel_rfl
def ac104 : AC := (AC.seq (AC.ops [(AOp.mk (some 2) (AK.mv (AX.c (PV.val (Value.bool false)))) none 0 false true)]) (AC.seq (AC.ops [(AOp.mk (some 3) (AK.mv (AX.t 0)) none 0 true false), (AOp.mk (some 4) (AK.nilc (AX.t 3)) none 1 true false), (AOp.mk (some 5) (AK.fadr 4 (AX.t 4)) none 2 true false), (AOp.mk (some 6) (AK.ld (some 6) (AX.t 5)) none 3 true false), (AOp.mk (some 7) (AK.call 95 []) none 4 false false), (AOp.mk (some 8) (AK.eqs [CK.i, CK.i, CK.i, CK.i, CK.i, CK.i] false (AX.t 6) (AX.t 7)) none 5 true true), (AOp.mk (some 9) (AK.mv (AX.t 8)) none 6 true true), (AOp.mk (some 10) (AK.mv (AX.t 0)) (some (9, false)) 7 true true), (AOp.mk (some 11) (AK.call 35 [(AX.t 10)]) (some (9, false)) 8 false true), (AOp.mk (some 12) (AK.len (AX.t 11)) (some (9, false)) 9 true true), (AOp.mk (some 13) (AK.bin false BinOp.gtr (AX.t 12) (AX.c (PV.val (Value.int IntKind.i64 0)))) (some (9, false)) 10 true true), (AOp.mk (some 14) (AK.pick (AX.t 9) (AX.c (PV.val (Value.bool true))) (AX.t 13)) none 11 true true), (AOp.mk (some 2) (AK.mv (AX.t 14)) none 12 true true)]) AC.ret))
def ac103 : AC := (AC.seq (AC.ops [(AOp.mk (some 4) (AK.mv (AX.c PV.nilp)) none 0 false true)]) (AC.seq (AC.ops [(AOp.mk (some 5) (AK.mv (AX.c (PV.sl SK.full 0 []))) none 0 false true)]) (AC.seq (AC.seq (AC.ops [(AOp.mk (some 8) (AK.mv (AX.t 0)) none 0 false true), (AOp.mk (some 9) (AK.nilc (AX.t 8)) none 1 false true), (AOp.mk (some 10) (AK.fadr 0 (AX.t 9)) none 2 false true), (AOp.mk (some 11) (AK.fadr 1 (AX.t 10)) none 3 false true), (AOp.mk (some 12) (AK.ld none (AX.t 11)) none 4 false true), (AOp.mk (some 13) (AK.len (AX.t 12)) none 5 false true), (AOp.mk (some 14) (AK.mv (AX.c (PV.val (Value.int IntKind.i64 0)))) none 6 false true)]) (AC.block 0 (AC.loop (AC.seq (AC.ops [(AOp.mk (some 15) (AK.bin false BinOp.lss (AX.t 14) (AX.t 13)) none 0 false true)]) (AC.seq (AC.cond (AX.t 15) AC.skip (AC.exit 0)) (AC.seq (AC.block 1 (AC.seq (AC.ops [(AOp.mk (some 16) (AK.mv (AX.t 14)) none 0 false true), (AOp.mk (some 17) (AK.iadrS 2 (AX.t 12) (AX.t 14)) none 1 false true), (AOp.mk (some 18) (AK.ld (some 2) (AX.t 17)) none 2 false true), (AOp.mk (some 7) (AK.new (PV.agg [(PV.val (Value.int IntKind.i64 0)), (PV.val (Value.int IntKind.i64 0))])) none 3 false true), (AOp.mk (some 6) (AK.mv (AX.t 16)) none 4 false true), (AOp.mk none (AK.st 2 (AX.t 7) (AX.t 18)) none 5 false true)]) (AC.seq (AC.ops [(AOp.mk (some 19) (AK.mv (AX.t 1)) none 0 false true), (AOp.mk (some 20) (AK.mv (AX.t 6)) none 1 false true), (AOp.mk (some 21) (AK.call 123 [(AX.t 19), (AX.t 20)]) none 2 false true), (AOp.mk (some 22) (AK.un UnOp.not (AX.t 21)) none 3 false true)]) (AC.cond (AX.t 22) (AC.ops [(AOp.mk (some 23) (AK.mv (AX.t 5)) none 0 false true), (AOp.mk (some 24) (AK.ld (some 2) (AX.t 7)) none 1 false true), (AOp.mk (some 25) (AK.bslice false 27 2 1 [(PV.val (Value.int IntKind.i64 0)), (PV.val (Value.int IntKind.i64 0))] [(0, (2, (AX.t 24)))]) none 2 false true), (AOp.mk (some 26) (AK.app false 27 2 16 [(PV.val (Value.int IntKind.i64 0)), (PV.val (Value.int IntKind.i64 0))] (AX.t 23) (AX.t 25)) none 3 false true), (AOp.mk (some 5) (AK.mv (AX.t 26)) none 4 false true)]) AC.skip)))) (AC.ops [(AOp.mk (some 27) (AK.bin false BinOp.add (AX.t 14) (AX.c (PV.val (Value.int IntKind.i64 1)))) none 0 false true), (AOp.mk (some 14) (AK.mv (AX.t 27)) none 1 false true)]))))))) (AC.seq (AC.ops [(AOp.mk (some 28) (AK.mv (AX.t 0)) none 0 false true), (AOp.mk (some 29) (AK.mv (AX.t 5)) none 1 false true), (AOp.mk (some 30) (AK.call 75 [(AX.t 28), (AX.t 29)]) none 2 false true), (AOp.mk (some 4) (AK.mv (AX.t 30)) none 3 false true)]) AC.ret))))
def ac102 : AC := (AC.seq (AC.ops [(AOp.mk (some 9) (AK.mv (AX.c (PV.val (Value.bool false)))) none 0 false true)]) (AC.seq (AC.seq (AC.ops [(AOp.mk (some 11) (AK.mv (AX.t 0)) none 0 false true), (AOp.mk (some 12) (AK.len (AX.t 11)) none 1 false true), (AOp.mk (some 13) (AK.ld none (AX.t 2)) none 2 false true), (AOp.mk (some 14) (AK.bin false BinOp.eql (AX.t 12) (AX.t 13)) none 3 false true)]) (AC.cond (AX.t 14) (AC.seq (AC.ops [(AOp.mk (some 15) (AK.ld none (AX.t 3)) none 0 false true), (AOp.mk (some 16) (AK.mv (AX.t 0)) none 1 false true), (AOp.mk (some 17) (AK.call 103 [(AX.t 15), (AX.t 16)]) none 2 false true), (AOp.mk (some 18) (AK.call 104 [(AX.t 17)]) none 3 false true), (AOp.mk none (AK.st 1 (AX.t 4) (AX.t 18)) none 4 false true)]) (AC.seq (AC.seq (AC.ops [(AOp.mk (some 19) (AK.ld none (AX.t 4)) none 0 false true)]) (AC.cond (AX.t 19) (AC.ops [(AOp.mk (some 20) (AK.mv (AX.t 0)) none 0 false true), (AOp.mk (some 21) (AK.call 90 [(AX.t 20)]) none 1 false true), (AOp.mk none (AK.st 1 (AX.t 5) (AX.t 21)) none 2 false true)]) AC.skip)) (AC.seq (AC.ops [(AOp.mk (some 22) (AK.ld none (AX.t 4)) none 0 false true), (AOp.mk (some 9) (AK.mv (AX.t 22)) none 1 false true)]) AC.ret))) AC.skip)) (AC.seq (AC.seq (AC.ops [(AOp.mk (some 23) (AK.mv (AX.t 1)) none 0 false true), (AOp.mk (some 10) (AK.mv (AX.t 23)) none 1 false true)]) (AC.block 0 (AC.loop (AC.seq (AC.seq (AC.ops [(AOp.mk (some 24) (AK.mv (AX.t 10)) none 0 false true), (AOp.mk (some 25) (AK.ld none (AX.t 3)) none 1 false true), (AOp.mk (some 26) (AK.nilc (AX.t 25)) none 2 false true), (AOp.mk (some 27) (AK.fadr 0 (AX.t 26)) none 3 false true), (AOp.mk (some 28) (AK.fadr 1 (AX.t 27)) none 4 false true), (AOp.mk (some 29) (AK.ld none (AX.t 28)) none 5 false true), (AOp.mk (some 30) (AK.len (AX.t 29)) none 6 false true), (AOp.mk (some 31) (AK.bin false BinOp.lss (AX.t 24) (AX.t 30)) none 7 false true)]) (AC.cond (AX.t 31) AC.skip (AC.exit 0))) (AC.seq (AC.block 1 (AC.seq (AC.ops [(AOp.mk (some 34) (AK.ld none (AX.t 6)) none 0 true false), (AOp.mk (some 35) (AK.mv (AX.t 0)) none 1 true false), (AOp.mk (some 36) (AK.mv (AX.t 10)) none 2 true false), (AOp.mk (some 38) (AK.mv (AX.t 10)) none 4 true false), (AOp.mk (some 39) (AK.bin false BinOp.add (AX.t 38) (AX.c (PV.val (Value.int IntKind.i64 1)))) none 5 true false), (AOp.mk (some 37) (AK.call 105 [(AX.t 35), (AX.t 36)]) none 3 false false), (AOp.mk (some 40) (AK.callv (AX.t 34) [(AX.t 37), (AX.t 39)]) none 6 false true)]) (AC.cond (AX.t 40) (AC.seq (AC.ops [(AOp.mk (some 9) (AK.mv (AX.c (PV.val (Value.bool true)))) none 0 false true)]) AC.ret) AC.skip))) (AC.ops [(AOp.mk (some 32) (AK.mv (AX.t 10)) none 0 false true), (AOp.mk (some 33) (AK.bin false BinOp.add (AX.t 32) (AX.c (PV.val (Value.int IntKind.i64 1)))) none 1 false true), (AOp.mk (some 10) (AK.mv (AX.t 33)) none 2 false true)])))))) (AC.seq (AC.ops [(AOp.mk (some 9) (AK.mv (AX.c (PV.val (Value.bool false)))) none 0 false true)]) AC.ret))))
def ac78 : AC := (AC.seq (AC.ops [(AOp.mk (some 2) (AK.box 1 (AX.t 0)) none 0 false true), (AOp.mk (some 3) (AK.box 1 (AX.t 1)) none 1 false true), (AOp.mk (some 4) (AK.new (PV.sl SK.full 0 [])) none 2 false true), (AOp.mk (some 5) (AK.new (PV.val (Value.bool false))) none 3 false true)]) (AC.seq (AC.ops [(AOp.mk (some 6) (AK.new (PV.val Value.nilFunc)) none 0 false true)]) (AC.seq (AC.ops [(AOp.mk (some 7) (AK.mkf 102 [] [(AX.t 3), (AX.t 2), (AX.t 5), (AX.t 4), (AX.t 6)]) none 0 false true), (AOp.mk none (AK.st 1 (AX.t 6) (AX.t 7)) none 1 false true)]) (AC.seq (AC.ops [(AOp.mk (some 8) (AK.ld none (AX.t 6)) none 0 false true), (AOp.mk (some 9) (AK.callv (AX.t 8) [(AX.c (PV.sl SK.full 0 [])), (AX.c (PV.val (Value.int IntKind.i64 0)))]) none 1 false true)]) (AC.seq (AC.tree (AT.fk (AOp.mk (some 10) (AK.ld none (AX.t 4)) none 0 false false) (AOp.mk (some 11) (AK.ld none (AX.t 5)) none 1 false false) (AT.fk (AOp.mk (some 11) (AK.ld none (AX.t 5)) none 1 false false) (AOp.mk none (AK.st 1 (AX.t 4) (AX.t 10)) none 2 false false) (AT.op (AOp.mk none (AK.st 1 (AX.t 4) (AX.t 10)) none 2 false false) (AT.op (AOp.mk none (AK.st 1 (AX.t 5) (AX.t 11)) none 3 false true) AT.fin)) (AT.op (AOp.mk (some 11) (AK.ld none (AX.t 5)) none 1 false false) (AT.op (AOp.mk none (AK.st 1 (AX.t 5) (AX.t 11)) none 3 false true) AT.fin))) (AT.op (AOp.mk (some 10) (AK.ld none (AX.t 4)) none 0 false false) (AT.op (AOp.mk none (AK.st 1 (AX.t 4) (AX.t 10)) none 2 false false) (AT.op (AOp.mk none (AK.st 1 (AX.t 5) (AX.t 11)) none 3 false true) AT.fin))))) AC.ret)))))
def ac48 : AC := (AC.seq (AC.ops [(AOp.mk (some 2) (AK.mv (AX.c (PV.sl SK.full 0 []))) none 0 false true)]) (AC.seq (AC.seq (AC.ops [(AOp.mk (some 6) (AK.mv (AX.t 0)) none 0 false true), (AOp.mk (some 7) (AK.nilc (AX.t 6)) none 1 false true), (AOp.mk (some 8) (AK.fadr 0 (AX.t 7)) none 2 false true), (AOp.mk (some 9) (AK.fadr 1 (AX.t 8)) none 3 false true), (AOp.mk (some 10) (AK.ld none (AX.t 9)) none 4 false true), (AOp.mk (some 11) (AK.len (AX.t 10)) none 5 false true), (AOp.mk (some 12) (AK.bin false BinOp.add (AX.t 11) (AX.c (PV.val (Value.int IntKind.i64 1)))) none 6 false true), (AOp.mk (some 13) (AK.mv (AX.c (PV.val (Value.int IntKind.i64 0)))) none 7 false true)]) (AC.block 0 (AC.loop (AC.seq (AC.ops [(AOp.mk (some 14) (AK.bin false BinOp.lss (AX.t 13) (AX.t 12)) none 0 false true)]) (AC.seq (AC.cond (AX.t 14) AC.skip (AC.exit 0)) (AC.seq (AC.block 1 (AC.seq (AC.ops [(AOp.mk (some 15) (AK.mv (AX.t 13)) none 0 false true), (AOp.mk (some 3) (AK.mv (AX.t 15)) none 1 false true)]) (AC.seq (AC.ops [(AOp.mk (some 17) (AK.mv (AX.t 0)) none 0 false true), (AOp.mk (some 18) (AK.mv (AX.t 3)) none 1 false true), (AOp.mk (some 19) (AK.call 78 [(AX.t 17), (AX.t 18)]) none 2 false true), (AOp.mk (some 16) (AK.mv (AX.t 19)) none 3 false true), (AOp.mk (some 20) (AK.ext (AX.t 16) 0) none 4 false true), (AOp.mk (some 21) (AK.ext (AX.t 16) 1) none 5 false true), (AOp.mk (some 4) (AK.mv (AX.t 20)) none 6 false true), (AOp.mk (some 5) (AK.mv (AX.t 21)) none 7 false true)]) (AC.seq (AC.ops [(AOp.mk (some 22) (AK.mv (AX.t 5)) none 0 false true)]) (AC.cond (AX.t 22) (AC.seq (AC.ops [(AOp.mk (some 23) (AK.mv (AX.t 4)) none 0 false true), (AOp.mk (some 2) (AK.mv (AX.t 23)) none 1 false true)]) AC.ret) AC.skip))))) (AC.ops [(AOp.mk (some 24) (AK.bin false BinOp.add (AX.t 13) (AX.c (PV.val (Value.int IntKind.i64 1)))) none 0 false true), (AOp.mk (some 13) (AK.mv (AX.t 24)) none 1 false true)]))))))) (AC.seq (AC.ops [(AOp.mk (some 2) (AK.mv (AX.c (PV.sl SK.full 0 []))) none 0 false true)]) AC.ret)))
def ac21 : AC := (AC.seq (AC.ops [(AOp.mk (some 1) (AK.box 4 (AX.t 0)) none 0 false true), (AOp.mk (some 2) (AK.mv (AX.c (PV.sl SK.full 0 []))) none 1 false true), (AOp.mk (some 3) (AK.mv (AX.c (PV.val (Value.int IntKind.i64 0)))) none 2 false true)]) (AC.seq (AC.ops [(AOp.mk (some 7) (AK.ld (some 4) (AX.t 1)) none 0 false true), (AOp.mk (some 8) (AK.call 39 [(AX.t 7), (AX.c (PV.val (Value.bool true)))]) none 1 false true), (AOp.mk (some 6) (AK.mv (AX.t 8)) none 2 false true), (AOp.mk (some 9) (AK.ext (AX.t 6) 0) none 3 false true), (AOp.mk (some 10) (AK.ext (AX.t 6) 1) none 4 false true), (AOp.mk (some 4) (AK.mv (AX.t 9)) none 5 false true), (AOp.mk (some 5) (AK.mv (AX.t 10)) none 6 false true)]) (AC.seq (AC.seq (AC.ops [(AOp.mk (some 11) (AK.mv (AX.t 5)) none 0 false true), (AOp.mk (some 12) (AK.bin false BinOp.neq (AX.t 11) (AX.c (PV.val (Value.int IntKind.i64 0)))) none 1 false true)]) (AC.cond (AX.t 12) (AC.seq (AC.ops [(AOp.mk (some 13) (AK.mv (AX.t 5)) none 0 false true), (AOp.mk (some 2) (AK.mv (AX.c (PV.sl SK.full 0 []))) none 1 false true), (AOp.mk (some 3) (AK.mv (AX.t 13)) none 2 false true)]) AC.ret) AC.skip)) (AC.seq (AC.ops [(AOp.mk (some 14) (AK.mv (AX.t 4)) none 0 false true), (AOp.mk (some 15) (AK.call 48 [(AX.t 14)]) none 1 false true), (AOp.mk (some 2) (AK.mv (AX.t 15)) none 2 false true), (AOp.mk (some 3) (AK.mv (AX.c (PV.val (Value.int IntKind.i64 0)))) none 3 false true)]) AC.ret))))
theorem Index_sem (l : List Int) (x : Int) : Sem1 133 [pis l, pi x] (pi (idxI l fun y => decide (x = y))) := by
  refine semC_of_exec' mixed Try.func133 (by kernel_rfl) (by kernel_rfl) ac133_ok 2 rfl (by decide) [(.tmp 4)] (by kernel_rfl) ?_
  intro hr C hC hI
  unfold ac133
  simp only [go_sem, Nat.reduceBEq, List.length_map]
  have hl := real_len (i := 0) hr rfl
  rw [List.length_map] at hl
  refine loop_k l.length (fun j => ∀ y ∈ l.take j, decide (x = y) = false) [0, 1, 7] (fun j => [(8, .p (pi j))]) (by simp) rfl ⟨rfl, by simp, by simp⟩ (by simp [wkT, look, AV.lo]) ?_
  rintro j ⟨hj, hok⟩
  simp only [go_sem, Nat.reduceBEq]
  refine ⟨fun h5 => ?_, fun h5 => ?_⟩
  · have hj2 : j < l.length := by omega
    simp only [go_sem, Nat.reduceBEq, iadr_pis hj2]
    refine ⟨fun h6 => ?_, fun h6 => ?_⟩
    · exact retQ_one rfl (by rw [idxI_some hj2 (p := fun y => decide (x = y)) (decide_eq_true h6) hok])
    · simp only [go_sem, wrap_succ (k := j) (by omega)]
      refine ⟨⟨j + 1, hj2, take_next hj2 hok (decide_eq_false h6)⟩, by simp only; omega, by simp [Wk, wkT, wkL, look, AV.lo]⟩
  · have hjn : j = l.length := by omega
    subst hjn
    rw [List.take_length] at hok
    exact retQ_one rfl (by rw [idxI_none hok])
theorem Contains_sem (l : List Int) (x : Int) : Sem1 123 [pis l, pi x] (pb (decide (x ∈ l))) := by
  refine semC_of_exec' mixed Try.func123 (by kernel_rfl) (by kernel_rfl) ac123_ok 2 rfl (by decide) [(.tmp 4)] (by kernel_rfl) ?_
  intro hr C hC hI
  unfold ac123
  simp only [go_sem, Nat.reduceBEq]
  refine call_pure2 hC (Index_sem l x) rfl (PVleL_refl _) ?_
  rintro r rfl
  simp only [go_sem, Nat.reduceBEq]
  refine retQ_one rfl (congrArg pb ?_)
  rw [idxI_dec, Bool.eq_iff_iff]
  simp
def LW (k k2 : SK) (b : MBook) (m : Nat) (v : PV) (f : Bool) : List ABlk := [.cells [.p (bookP k k2 b)], .cells [.p (pi m)], .cells [.p v], .cells [.p (pb f)], .cells [.clo 102 [] [.loc 1 0, .loc 0 0, .loc 3 0, .loc 2 0, .loc 4 0]]]
def nilL : PV := .sl .full 0 []
def fullL (l : List Int) : PV := .sl .full 1 (l.map fun x => [pi x])
def LeaveOk (k k2 : SK) (b : MBook) (m r : Nat) : Prop := ∀ (kk : SK) (sz : Nat) (l : List Int) (a : Nat), (sz = 1 ∨ l = []) → l.length + r = m → a ≤ b.seen.length →
  SemM Try.prog Fence.wide 102 [.p (.sl kk sz (l.map fun x => [pi x])), .p (pi a), .loc 1 0, .loc 0 0, .loc 3 0, .loc 2 0, .loc 4 0] (LW k k2 b m nilL false) (some []) (fun v L ys => ys = some [] ∧ ((∃ z, (listsF b.seen.length r l a).find? (wrongP b) = some z ∧ v = .p (pb true) ∧ L.take 5 = LW k k2 b m (fullL z) true) ∨ ((listsF b.seen.length r l a).find? (wrongP b) = none ∧ v = .p (pb false) ∧ L.take 5 = LW k k2 b m nilL false)))
def spanN (a e j : Nat) : List Nat := ((List.range (e - a)).map fun q => a + q).drop j
theorem spanN_next {a e j : Nat} (h : j < e - a) : spanN a e j = (a + j) :: spanN a e (j + 1) := by
  unfold spanN
  rw [List.drop_eq_getElem_cons (by simpa using h)]
  simp
theorem retQ_cells2 {P : Program} {t t' : Nat} {ty ty' : TypeId} {R : PV → Prop} {s : AS} {x y : PV} (hs : shapeN P ty = some none) (hs' : shapeN P ty' = some none) (h : stillV s (.ld none (.t t)) = some (.p x)) (h' : stillV s (.ld none (.t t')) = some (.p y)) (hR : R (.tup [x, y])) : retQ P [.cell t ty, .cell t' ty'] R s :=
  ⟨[.p x, .p y], [x, y], s.loc, .tup [x, y], by simp [resA, hs, hs', h, h'], rfl, PVle.refl _, hR⟩
def leftR (o : Option (List Int)) : PV := match o with | some z => .tup [fullL z, pb true] | none => .tup [nilL, pb false]
end Go.Proofs.Ytlbolnlcncjijaa.Mk
namespace Go.Proofs.Ytlbolnlcncjijaa.Mk
open Go.RowKit Ls
def allN (b : MBook) (q j : Nat) : Nat := (List.range j).foldl (fun s m => s ||| mkN b m q) 0
theorem bare_own {b : MBook} (h : okC b) {m k : Nat} (hm : m < b.makers.length) (hk : k < nK b) : ownN (unseenB b) m k = mkN b m k := mk_31 h hm hk
def bareN (b : MBook) (q : Nat) : Nat := if 0 < b.repairs ∧ (fixN b).testBit q = false then 31 else allN b q b.makers.length
end Go.Proofs.Ytlbolnlcncjijaa.Mk
