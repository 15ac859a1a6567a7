/- The specification of stand: truths. StandRoom. -/
import Derived.Test.YtaejmbmkkdkliaaQl01
import Derived.Test.YtaejmbmkkdkliaaGa23
import Derived.Test.YtaejmbmkkdkliaaGa20
namespace Go.Proofs.Ytaejmbmkkdkliaa
open Go.RowKit
def ac100 : AC := (AC.seq (AC.ops [(AOp.mk (some 2) (AK.box 10 (AX.t 0)) none 0 false true), (AOp.mk (some 4) (AK.mv (AX.c (PV.sl SK.full 0 []))) none 1 false true)]) (AC.seq (AC.seq (AC.ops [(AOp.mk (some 8) (AK.mv (AX.t 1)) none 0 false true), (AOp.mk (some 9) (AK.len (AX.t 8)) none 1 false true), (AOp.mk (some 10) (AK.fadr 4 (AX.t 2)) none 2 false true), (AOp.mk (some 11) (AK.ld none (AX.t 10)) none 3 false true), (AOp.mk (some 12) (AK.len (AX.t 11)) none 4 false true), (AOp.mk (some 13) (AK.bin false BinOp.eql (AX.t 9) (AX.t 12)) none 5 false true)]) (AC.cond (AX.t 13) (AC.seq (AC.seq (AC.ops [(AOp.mk (some 14) (AK.ld (some 10) (AX.t 2)) none 0 false true), (AOp.mk (some 15) (AK.mv (AX.t 1)) none 1 false true), (AOp.mk (some 16) (AK.call 118 [(AX.t 14), (AX.t 15)]) none 2 false true)]) (AC.cond (AX.t 16) (AC.seq (AC.ops [(AOp.mk (some 17) (AK.mv (AX.t 1)) none 0 false true), (AOp.mk (some 18) (AK.bslice false 47 1 1 [(PV.sl SK.full 0 [])] [(0, (1, (AX.t 17)))]) none 1 false true), (AOp.mk (some 4) (AK.mv (AX.t 18)) none 2 false true)]) AC.ret) AC.skip)) (AC.seq (AC.ops [(AOp.mk (some 4) (AK.mv (AX.c (PV.sl SK.full 0 []))) none 0 false true)]) AC.ret)) AC.skip)) (AC.seq (AC.ops [(AOp.mk (some 5) (AK.mv (AX.c (PV.sl SK.full 0 []))) none 0 false true)]) (AC.seq (AC.ops [(AOp.mk (some 19) (AK.fadr 4 (AX.t 2)) none 0 false true), (AOp.mk (some 20) (AK.ld none (AX.t 19)) none 1 false true), (AOp.mk (some 21) (AK.mv (AX.t 1)) none 2 false true), (AOp.mk (some 22) (AK.len (AX.t 21)) none 3 false true), (AOp.mk (some 23) (AK.iadrS 4 (AX.t 20) (AX.t 22)) none 4 false true), (AOp.mk (some 24) (AK.fadr 0 (AX.t 23)) none 5 false true), (AOp.mk (some 25) (AK.ld (some 2) (AX.t 24)) none 6 false true), (AOp.mk (some 6) (AK.new (PV.agg [(PV.val (Value.int IntKind.i64 0)), (PV.val (Value.int IntKind.i64 0))])) none 7 false true), (AOp.mk none (AK.st 2 (AX.t 6) (AX.t 25)) none 8 false true)]) (AC.seq (AC.seq (AC.ops [(AOp.mk (some 26) (AK.fadr 0 (AX.t 6)) none 0 false true), (AOp.mk (some 27) (AK.ld none (AX.t 26)) none 1 false true), (AOp.mk (some 7) (AK.mv (AX.t 27)) none 2 false true)]) (AC.block 0 (AC.loop (AC.seq (AC.seq (AC.ops [(AOp.mk (some 28) (AK.mv (AX.t 7)) none 0 false true), (AOp.mk (some 29) (AK.fadr 1 (AX.t 6)) none 1 false true), (AOp.mk (some 30) (AK.ld none (AX.t 29)) none 2 false true), (AOp.mk (some 31) (AK.bin false BinOp.leq (AX.t 28) (AX.t 30)) none 3 false true)]) (AC.cond (AX.t 31) AC.skip (AC.exit 0))) (AC.seq (AC.block 1 (AC.ops [(AOp.mk (some 34) (AK.mv (AX.t 5)) none 0 true false), (AOp.mk (some 35) (AK.ld (some 10) (AX.t 2)) none 1 true false), (AOp.mk (some 36) (AK.mv (AX.t 1)) none 2 true false), (AOp.mk (some 37) (AK.mv (AX.t 7)) none 3 true false), (AOp.mk (some 38) (AK.call 87 [(AX.t 36), (AX.t 37)]) none 4 false false), (AOp.mk (some 39) (AK.call 100 [(AX.t 35), (AX.t 38)]) none 5 false false), (AOp.mk (some 40) (AK.app false 47 1 24 [(PV.sl SK.full 0 [])] (AX.t 34) (AX.t 39)) none 6 false false), (AOp.mk (some 5) (AK.mv (AX.t 40)) none 7 true true)])) (AC.ops [(AOp.mk (some 32) (AK.mv (AX.t 7)) none 0 false true), (AOp.mk (some 33) (AK.bin false BinOp.add (AX.t 32) (AX.c (PV.val (Value.int IntKind.i64 1)))) none 1 false true), (AOp.mk (some 7) (AK.mv (AX.t 33)) none 2 false true)])))))) (AC.seq (AC.ops [(AOp.mk (some 41) (AK.mv (AX.t 5)) none 0 false true), (AOp.mk (some 4) (AK.mv (AX.t 41)) none 1 false true)]) AC.ret))))))
theorem ac100_ok : cCode Try.prog (fun _ => false) Try.f100.ntmps (Try.f100.body.getD .skip) = some ac100 := by kernel_rfl
def ac63 : AC := (AC.seq (AC.ops [(AOp.mk (some 1) (AK.box 10 (AX.t 0)) none 0 false true), (AOp.mk (some 2) (AK.mv (AX.c (PV.sl SK.full 0 []))) none 1 false true)]) (AC.seq (AC.ops [(AOp.mk (some 3) (AK.ld (some 10) (AX.t 1)) none 0 false true), (AOp.mk (some 4) (AK.call 100 [(AX.t 3), (AX.c (PV.sl SK.full 0 []))]) none 1 false true), (AOp.mk (some 2) (AK.mv (AX.t 4)) none 2 false true)]) AC.ret))
theorem ac63_ok : cCode Try.prog (fun _ => false) Try.f63.ntmps (Try.f63.body.getD .skip) = some ac63 := by kernel_rfl
def ac72 : AC := (AC.seq (AC.ops [(AOp.mk (some 2) (AK.box 10 (AX.t 0)) none 0 false true), (AOp.mk (some 4) (AK.mv (AX.c (PV.sl SK.full 0 []))) none 1 false true), (AOp.mk (some 5) (AK.mv (AX.c (PV.val (Value.int IntKind.i64 0)))) none 2 false true)]) (AC.seq (AC.seq (AC.ops [(AOp.mk (some 8) (AK.ld (some 10) (AX.t 2)) none 0 false true), (AOp.mk (some 9) (AK.call 19 [(AX.t 8)]) none 1 false true), (AOp.mk (some 6) (AK.mv (AX.t 9)) none 2 false true)]) (AC.seq (AC.ops [(AOp.mk (some 10) (AK.mv (AX.t 6)) none 0 false true), (AOp.mk (some 11) (AK.bin false BinOp.neq (AX.t 10) (AX.c (PV.val (Value.int IntKind.i64 0)))) none 1 false true)]) (AC.cond (AX.t 11) (AC.seq (AC.ops [(AOp.mk (some 12) (AK.mv (AX.t 6)) none 0 false true), (AOp.mk (some 4) (AK.mv (AX.c (PV.sl SK.full 0 []))) none 1 false true), (AOp.mk (some 5) (AK.mv (AX.t 12)) none 2 false true)]) AC.ret) AC.skip))) (AC.seq (AC.seq (AC.ops [(AOp.mk (some 13) (AK.mv (AX.t 1)) none 0 false true), (AOp.mk (some 14) (AK.un UnOp.not (AX.t 13)) none 1 false true)]) (AC.cond (AX.t 14) (AC.seq (AC.ops [(AOp.mk (some 4) (AK.mv (AX.c (PV.sl SK.full 0 []))) none 0 false true), (AOp.mk (some 5) (AK.mv (AX.c (PV.val (Value.int IntKind.i64 21)))) none 1 false true)]) AC.ret) AC.skip)) (AC.seq (AC.ops [(AOp.mk (some 15) (AK.ld (some 10) (AX.t 2)) none 0 false true), (AOp.mk (some 16) (AK.call 63 [(AX.t 15)]) none 1 false true), (AOp.mk (some 7) (AK.mv (AX.t 16)) none 2 false true)]) (AC.seq (AC.seq (AC.ops [(AOp.mk (some 17) (AK.mv (AX.t 7)) none 0 false true), (AOp.mk (some 18) (AK.len (AX.t 17)) none 1 false true), (AOp.mk (some 19) (AK.bin false BinOp.eql (AX.t 18) (AX.c (PV.val (Value.int IntKind.i64 0)))) none 2 false true)]) (AC.cond (AX.t 19) (AC.seq (AC.ops [(AOp.mk (some 4) (AK.mv (AX.c (PV.sl SK.full 0 []))) none 0 false true), (AOp.mk (some 5) (AK.mv (AX.c (PV.val (Value.int IntKind.i64 22)))) none 1 false true)]) AC.ret) AC.skip)) (AC.seq (AC.ops [(AOp.mk (some 20) (AK.mv (AX.t 7)) none 0 false true), (AOp.mk (some 4) (AK.mv (AX.t 20)) none 1 false true), (AOp.mk (some 5) (AK.mv (AX.c (PV.val (Value.int IntKind.i64 0)))) none 2 false true)]) AC.ret))))))
theorem ac72_ok : cCode Try.prog (fun _ => false) Try.f72.ntmps (Try.f72.body.getD .skip) = some ac72 := by kernel_rfl
/-- Lists of numbers, as a value. -/
abbrev lls (L : List (List Int)) : PV := .sl .sh 1 (L.map fun ws => [pis ws])
/-- All weights from some on, by which all trials are right. -/
def wgF (b : SBook) : Nat → List Int → List (List Int)
  | 0, ws0 => if b.trials.all (rightI b ws0) then [ws0] else []
  | r + 1, ws0 => (spanL ((b.parts.map (·.lo)).getD ws0.length 0) ((b.parts.map (·.hi)).getD ws0.length 0)).flatMap fun w => wgF b r (ws0 ++ [w])
theorem wgF_len {b : SBook} (hb : Fit b) : ∀ (r : Nat) (ws0 : List Int), (wgF b r ws0).length ≤ 5 ^ r
  | 0, ws0 => by unfold wgF; split <;> simp
  | r + 1, ws0 => by
    unfold wgF
    have h1 := flat_len (f := fun w => wgF b r (ws0 ++ [w])) (fun w => wgF_len hb r (ws0 ++ [w])) (spanL ((b.parts.map (·.lo)).getD ws0.length 0) ((b.parts.map (·.hi)).getD ws0.length 0))
    have h2 := Nat.mul_le_mul_right (5 ^ r) (span5 hb ws0.length)
    rw [Nat.pow_succ]
    omega
theorem ok_mok {b : SBook} (ho : okBook b) {ws : List Int} (hl : ws.length = b.parts.length) (hw : ∀ w ∈ ws, 0 ≤ w ∧ w ≤ 99) : MOk b ws :=
  ⟨ho.fit.kind, ho.fit.small, by have := ho.2.2.1; omega, fun p hp => by have := ho.2.2.2.2.1 p hp; unfold okPart at this; omega, hl, hw⟩
def slLL (o : Option Nat) (L : List (List Int)) : PV :=
  match o with
  | none => .sl .full 0 []
  | some t => .sl (.own t 47 1) 1 (L.map fun ws => [pis ws])
theorem weighed_sem (k k2 : SK) {b : SBook} (ho : okBook b) : ∀ (r : Nat) (ws0 : List Int), ws0.length + r = b.parts.length → (∀ w ∈ ws0, 0 ≤ w ∧ w ≤ 99) → Sem1 100 [.agg (bookC k k2 b), pis ws0] (lls (wgF b r ws0))
  | 0, ws, hlen, hw => by
    have hm := ok_mok ho (ws := ws) (by omega) hw
    have htr := ho.2.2.2.2.2
    have hg := ok_rng ho
    have hrt := rright_sem k k2 hm (by have := ho.2.2.2.1; omega) (fun t ht => by have := htr t ht; unfold okTrial at this; omega)
    refine semC_of_exec' mixed Try.func100 (by kernel_rfl) (by kernel_rfl) ac100_ok 2 rfl (by decide) [(.tmp 4)] (by kernel_rfl) ?_
    intro hr C hC hI
    unfold ac100
    simp only [go_sem, Nat.reduceBEq, Nat.reduceAdd, List.length_map]
    refine ⟨fun _ => ?_, fun h => absurd (by omega) h⟩
    refine call_pure2 hC (hrt) rfl (PVleL_refl _) ?_
    rintro r rfl
    simp only [go_sem, Nat.reduceBEq]
    unfold wgF
    cases b.trials.all (rightI b ws)
    · simp only [go_sem]
      exact retQ_le rfl (PVle.nil .full 0 1) rfl
    · simp only [go_sem, Nat.reduceBEq]
      exact retQ_le rfl (PVle.sh _ _ _) rfl
  | r + 1, ws, hlen, hw => by
    have hj : ws.length < b.parts.length := by omega
    have hp4 := ho.2.2.1
    have hp := ho.2.2.2.2.1 _ (List.getElem_mem hj)
    have e := iadr_map (f := partC) (kd := k) (sz := 4) hj
    have hlo : (b.parts.map (·.lo)).getD ws.length 0 = b.parts[ws.length].lo := by simp [List.getD_eq_getElem?_getD, List.getElem?_eq_getElem hj]
    have hhi : (b.parts.map (·.hi)).getD ws.length 0 = b.parts[ws.length].hi := by simp [List.getD_eq_getElem?_getD, List.getElem?_eq_getElem hj]
    have hW : wgF b (r + 1) ws = (spanL ((b.parts.map (·.lo)).getD ws.length 0) ((b.parts.map (·.hi)).getD ws.length 0)).flatMap fun w => wgF b r (ws ++ [w]) := rfl
    rw [hlo, hhi] at hW
    rw [hW]
    obtain ⟨P, hP⟩ : ∃ P, b.parts[ws.length] = P := ⟨_, rfl⟩
    rw [hP] at hp e ⊢
    unfold okPart at hp
    have hrec := fun (w : Int) (h : 0 ≤ w ∧ w ≤ 99) => weighed_sem k k2 ho r (ws ++ [w]) (by simp; omega) (fun x hx => by
      rcases List.mem_append.1 hx with hx | hx
      · exact hw x hx
      · rw [List.mem_singleton] at hx; subst hx; exact h)
    have hwl := fun (w : Int) => wgF_len ho.fit r (ws ++ [w])
    have h5r : 5 ^ r ≤ 5 ^ 3 := Nat.pow_le_pow_right (by omega) (by omega)
    obtain ⟨F, hF⟩ : ∃ F : Int → List (List Int), (fun w => wgF b r (ws ++ [w])) = F := ⟨_, rfl⟩
    have hFw : ∀ w, wgF b r (ws ++ [w]) = F w := fun w => by rw [← hF]
    rw [hF]
    simp only [hFw] at hrec hwl
    clear hF hFw
    have hsl : (spanL P.lo P.hi).length = (P.hi - P.lo + 1).toNat := spanL_len _ _
    have htk : ∀ j : Nat, j < (P.hi - P.lo + 1).toNat → (spanL P.lo P.hi).take (j + 1) = (spanL P.lo P.hi).take j ++ [P.lo + j] := fun j hj => by
      rw [List.take_succ_eq_append_getElem (by omega)]
      simp [spanL]
    have hfl : ∀ j : Nat, j ≤ 5 → (((spanL P.lo P.hi).take j).flatMap F).length ≤ 5 * 125 := fun j hj => by
      have h1 := flat_len (f := F) (m := 125) (fun w => Nat.le_trans (hwl w) h5r) ((spanL P.lo P.hi).take j)
      have h2 : ((spanL P.lo P.hi).take j).length ≤ 5 := by rw [List.length_take]; omega
      omega
    refine semC_of_exec' mixed Try.func100 (by kernel_rfl) (by kernel_rfl) ac100_ok 2 rfl (by decide) [(.tmp 4)] (by kernel_rfl) ?_
    intro hr C hC hI
    unfold ac100
    simp only [go_sem, Nat.reduceBEq, Nat.reduceAdd, Nat.reduceLeDiff, List.length_map, e, partC, putCells]
    refine ⟨fun h => absurd h (by omega), fun _ => ?_⟩
    refine ⟨{x : Nat × Option Nat // x.1 ≤ (P.hi - P.lo + 1).toNat ∧ (x.2 = none → x.1 = 0)}, fun x => ⟨[(7, .p (pi (P.lo + x.1.1))), (6, .loc 1 0), (5, .p (slLL x.1.2 (((spanL P.lo P.hi).take x.1.1).flatMap F))), (2, .loc 0 0), (1, .p (pis ws))], [.cells ((bookC k k2 b).map .p), .cells [.p (pi P.lo), .p (pi P.hi)]], x.1.2.toList, some [], 0⟩, fun x => (P.hi - P.lo + 1).toNat - x.1.1, ⟨(0, none), by simp, fun _ => rfl⟩, by simp [Wk, wkT, wkL, look, AV.lo, AV.lo.loL, slLL], ?_⟩
    rintro ⟨⟨j, o⟩, hj2, hoj⟩
    simp only at hj2 hoj
    have hlj := hfl j (by omega)
    obtain ⟨L, hL⟩ : ∃ L, ((spanL P.lo P.hi).take j).flatMap F = L := ⟨_, rfl⟩
    rw [hL] at hlj
    simp only [hL]
    simp only [go_sem, Nat.reduceBEq, Nat.reduceAdd]
    refine ⟨fun h5 => ?_, fun h5 => ?_⟩
    · have hj3 : j < (P.hi - P.lo + 1).toNat := by omega
      have hnx : ((spanL P.lo P.hi).take (j + 1)).flatMap F = L ++ F (P.lo + j) := by
        rw [htk j hj3, List.flatMap_append, hL]; simp
      have hz : IntKind.i64.wrap (P.lo + j + 1) = P.lo + ((j + 1 : Nat) : Int) := by rw [wrap_id (by omega) (by omega)]; omega
      have hFl := hwl (P.lo + j)
      refine call_pure2 hC (Add_sem ws (P.lo + j) (by omega)) rfl (PVleL_refl _) ?_
      rintro r rfl
      simp only [go_sem, Nat.reduceBEq]
      refine call_pure2 hC (hrec (P.lo + j) (by omega)) rfl (PVleL_refl _) ?_
      rintro r rfl
      simp only [go_sem, Nat.reduceBEq]
      cases o with
      | none =>
        have h0 := hoj rfl
        subst h0
        have hLn : L = [] := by rw [← hL]; rfl
        subst hLn
        simp only [slLL]
        simp only [go_sem, Nat.reduceBEq, Nat.reduceEqDiff, hz, List.length_map]
        refine ⟨by omega, fun tk _ => ?_⟩
        refine ⟨⟨(0 + 1, some tk), by simp only; omega, fun h => by cases h⟩, by simp only; omega, ?_⟩
        simp only [hnx]
        simp [Wk, wkT, wkL, look, AV.lo, AV.lo.loL]
      | some tk =>
        simp only [slLL]
        simp only [go_sem, Nat.reduceBEq, hz, List.length_map]
        refine ⟨by omega, by simp, fun t2 _ => ?_⟩
        refine ⟨⟨(j + 1, some t2), by simp only; omega, fun h => by cases h⟩, by simp only; omega, ?_⟩
        simp only [hnx]
        simp [Wk, wkT, wkL, look, AV.lo, AV.lo.loL]
    · have hjn : j = (P.hi - P.lo + 1).toNat := by omega
      have hall : (spanL P.lo P.hi).flatMap F = L := by rw [← hL, hjn, ← hsl, List.take_length]
      rw [hall]
      cases o with
      | none => have := hoj rfl; omega
      | some tk => exact retQ_le rfl (PVle.sh _ _ _) rfl
/-- The truths, of as many weights as there are parts. -/
def refT (b : SBook) : List (List Int) := wgF b b.parts.length []
theorem loadW_take (ps : List SPart) (ws : List Int) : loadW ps (ws.take ps.length) = loadW ps ws := by
  unfold loadW
  congr 1
  induction ps generalizing ws with
  | nil => simp
  | cons p ps ih =>
    cases ws with
    | nil => simp
    | cons w ws => simp only [List.length_cons, List.take_succ_cons, List.zip_cons_cons, ih]
theorem rightI_take (b : SBook) (ws : List Int) (t : STrial) : rightI b (ws.take b.parts.length) t = rightI b ws t := by
  unfold rightI
  rw [loadW_take]
theorem set_take {ws : List Int} {j : Nat} (h : j < ws.length) (w : Int) : (ws.set j w).take (j + 1) = ws.take j ++ [w] := by
  rw [List.take_succ_eq_append_getElem (by simpa using h), List.getElem_set_self, List.take_set_of_le (Nat.le_refl _)]
theorem ref_truths (b : SBook) : ∀ (r j : Nat) (ws : List Int), j + r = b.parts.length → b.parts.length ≤ ws.length → ∀ q, r ≤ q → (if r = 0 then (if b.trials.all (rightI b ws) then [ws] else []) else truthsF b q j ws).map (fun ws => ws.take b.parts.length) = wgF b r (ws.take j)
  | 0, j, ws, hj, hl, q, hq => by
    have hj : j = b.parts.length := by omega
    subst hj
    rw [if_pos rfl]
    unfold wgF
    have : b.trials.all (rightI b (ws.take b.parts.length)) = b.trials.all (rightI b ws) := by
      congr 1
      funext t
      exact rightI_take b ws t
    rw [this]
    split <;> simp
  | r + 1, j, ws, hj, hl, 0, hq => by omega
  | r + 1, j, ws, hj, hl, q + 1, hq => by
    rw [if_neg (by omega), truthsF_succ, List.map_flatMap]
    unfold wgF
    have hlt : (ws.take j).length = j := by rw [List.length_take]; omega
    rw [hlt]
    congr 1
    funext w
    have ih := ref_truths b r (j + 1) (ws.set j w) (by omega) (by simpa using hl) q (by omega)
    rw [set_take (by omega)] at ih
    rw [← ih]
    congr 1
    unfold tailF
    by_cases h : r = 0
    · rw [if_pos h, if_neg (by omega)]
    · rw [if_neg h, if_pos (by omega)]
theorem refT_truthL {b : SBook} (ho : okBook b) : refT b = (truthL b).map fun ws => ws.take b.parts.length := by
  have h4 := ho.2.2.1
  have := ref_truths b b.parts.length 0 [0, 0, 0, 0] (by omega) (by simp; omega) 4 (by omega)
  rw [if_neg (by omega)] at this
  exact this.symm
theorem refT_load {b : SBook} (ho : okBook b) : (refT b).map (loadW b.parts) = loadsI b := by
  rw [refT_truthL ho, List.map_map]
  unfold loadsI
  congr 1
  funext ws
  exact loadW_take b.parts ws
theorem refT_nil {b : SBook} (ho : okBook b) : refT b = [] ↔ truthL b = [] := by
  rw [refT_truthL ho, List.map_eq_nil_iff]
theorem refT_len {b : SBook} (ho : okBook b) : (refT b).length ≤ 625 := by
  rw [refT_truthL ho, List.length_map]
  exact truthL_len ho.fit
theorem refT_mok {b : SBook} (ho : okBook b) : ∀ ws ∈ refT b, MOk b ws := by
  intro ws hws
  rw [refT_truthL ho, List.mem_map] at hws
  obtain ⟨v, hv, rfl⟩ := hws
  have h1 := truthL_ok ho.fit v hv
  have h4 := ho.2.2.1
  exact ok_mok ho (by rw [List.length_take, h1.1]; omega) fun w hw => h1.2 w (List.mem_of_mem_take hw)
theorem rtruths_sem (k k2 : SK) {b : SBook} (ho : okBook b) : Sem1 63 [.agg (bookC k k2 b)] (lls (refT b)) := by
  refine semC_of_exec' mixed Try.func63 (by kernel_rfl) (by kernel_rfl) ac63_ok 1 rfl (by decide) [(.tmp 2)] (by kernel_rfl) ?_
  intro hr C hC hI
  unfold ac63
  simp only [go_sem, Nat.reduceBEq, Nat.reduceAdd]
  refine call_pure2 hC (weighed_sem k k2 ho b.parts.length [] (by simp) (by simp)) rfl ⟨PVle.refl _, PVle.nil _ _ _, trivial⟩ ?_
  rintro r rfl
  simp only [go_sem, Nat.reduceBEq]
  exact retQ_one rfl rfl
theorem asked_sem (k k2 : SK) (b : SBook) (known : Bool) : Sem1 72 [.agg (bookC k k2 b), pb known] (.tup [if errI b known = 0 then lls (refT b) else lls [], pi (errI b known)]) := by
  refine semC_of_exec' mixed Try.func72 (by kernel_rfl) (by kernel_rfl) ac72_ok 2 rfl (by decide) [(.tmp 4), (.tmp 5)] (by kernel_rfl) ?_
  intro hr C hC hI
  unfold ac72
  simp only [go_sem, Nat.reduceBEq, Nat.reduceAdd]
  refine call_pure2 hC (rCheck_sem ..) rfl (PVleL_refl _) ?_
  rintro r rfl
  simp only [go_sem, Nat.reduceBEq]
  by_cases ho : okBook b
  · rw [if_pos ho]
    refine ⟨fun h => absurd rfl h, fun _ => ?_⟩
    cases known
    · have he : errI b false = 21 := by unfold errI; rw [if_pos ho]; rfl
      rw [he]
      simp only [go_sem, Nat.reduceBEq]
      exact retQ_two_le rfl rfl (PVle.nil .full 0 1) (PVle.refl _) rfl
    · simp only [go_sem, Nat.reduceBEq, Nat.reduceAdd]
      refine call_pure2 hC (rtruths_sem k k2 ho) rfl (PVleL_refl _) ?_
      rintro r rfl
      simp only [go_sem, Nat.reduceBEq, List.length_map]
      by_cases hT : truthL b = []
      · have he : errI b true = 22 := err_F ho hT
        have hr0 := (refT_nil ho).2 hT
        rw [he, hr0]
        refine ⟨fun _ => ?_, fun h => absurd rfl h⟩
        exact retQ_two_le rfl rfl (PVle.nil .full 0 1) (PVle.refl _) rfl
      · have he : errI b true = 0 := err_T ho hT
        have hr0 : refT b ≠ [] := fun h => hT ((refT_nil ho).1 h)
        rw [he]
        refine ⟨fun h => absurd (List.eq_nil_of_length_eq_zero (by omega)) hr0, fun _ => ?_⟩
        exact retQ_two rfl rfl rfl
  · rw [if_neg ho]
    have he : errI b known = 20 := by unfold errI; rw [if_neg ho]
    rw [he]
    refine ⟨fun _ => ?_, fun h => absurd h (by decide)⟩
    exact retQ_two_le rfl rfl (PVle.nil .full 0 1) (PVle.refl _) rfl
end Go.Proofs.Ytaejmbmkkdkliaa
namespace Go.Proofs.Ytaejmbmkkdkliaa
open Go.RowKit
def ac13 : AC := (AC.seq (AC.ops [(AOp.mk (some 2) (AK.box 10 (AX.t 0)) none 0 false true), (AOp.mk (some 4) (AK.mv (AX.c (PV.val (Value.bool false)))) none 1 false true)]) (AC.seq (AC.seq (AC.ops [(AOp.mk (some 13) (AK.ld (some 10) (AX.t 2)) none 0 false true), (AOp.mk (some 14) (AK.call 38 [(AX.t 13)]) none 1 false true), (AOp.mk (some 15) (AK.un UnOp.not (AX.t 14)) none 2 false true)]) (AC.cond (AX.t 15) (AC.seq (AC.ops [(AOp.mk (some 16) (AK.call 24 []) none 0 false true), (AOp.mk (some 4) (AK.mv (AX.t 16)) none 1 false true)]) AC.ret) AC.skip)) (AC.seq (AC.ops [(AOp.mk (some 17) (AK.mv (AX.t 1)) none 0 false true), (AOp.mk (some 18) (AK.fadr 8 (AX.t 2)) none 1 false true), (AOp.mk (some 19) (AK.ld none (AX.t 18)) none 2 false true), (AOp.mk (some 20) (AK.call 41 [(AX.t 17), (AX.t 19)]) none 3 false true), (AOp.mk (some 21) (AK.bin false BinOp.add (AX.c (PV.val (Value.int IntKind.i64 1))) (AX.t 20)) none 4 false true), (AOp.mk (some 5) (AK.mv (AX.t 21)) none 5 false true)]) (AC.seq (AC.ops [(AOp.mk (some 23) (AK.ld (some 10) (AX.t 2)) none 0 false true), (AOp.mk (some 24) (AK.mv (AX.t 5)) none 1 false true), (AOp.mk (some 25) (AK.call 29 [(AX.t 23), (AX.t 24)]) none 2 false true), (AOp.mk (some 22) (AK.mv (AX.t 25)) none 3 false true), (AOp.mk (some 26) (AK.ext (AX.t 22) 0) none 4 false true), (AOp.mk (some 27) (AK.ext (AX.t 22) 1) none 5 false true), (AOp.mk (some 6) (AK.new (PV.agg [(PV.val (Value.int IntKind.i64 0)), (PV.val (Value.int IntKind.i64 0))])) none 6 false true), (AOp.mk none (AK.st 2 (AX.t 6) (AX.t 26)) none 7 false true), (AOp.mk (some 7) (AK.mv (AX.t 27)) none 8 false true)]) (AC.seq (AC.ops [(AOp.mk (some 29) (AK.ld (some 10) (AX.t 2)) none 0 false true), (AOp.mk (some 30) (AK.mv (AX.t 5)) none 1 false true), (AOp.mk (some 31) (AK.call 20 [(AX.t 29), (AX.t 30), (AX.c (PV.val (Value.int IntKind.i64 0)))]) none 2 false true), (AOp.mk (some 28) (AK.mv (AX.t 31)) none 3 false true), (AOp.mk (some 32) (AK.ext (AX.t 28) 0) none 4 false true), (AOp.mk (some 33) (AK.ext (AX.t 28) 1) none 5 false true), (AOp.mk (some 8) (AK.mv (AX.t 32)) none 6 false true), (AOp.mk (some 9) (AK.mv (AX.t 33)) none 7 false true)]) (AC.seq (AC.seq (AC.ops [(AOp.mk (some 34) (AK.mv (AX.t 9)) none 0 false true), (AOp.mk (some 35) (AK.bin false BinOp.neq (AX.t 34) (AX.c (PV.val (Value.int IntKind.i64 0)))) none 1 false true)]) (AC.cond (AX.t 35) (AC.seq (AC.ops [(AOp.mk (some 36) (AK.mv (AX.t 9)) none 0 false true), (AOp.mk (some 37) (AK.bin false BinOp.eql (AX.t 36) (AX.c (PV.val (Value.int IntKind.i64 22)))) none 1 false true), (AOp.mk (some 38) (AK.mv (AX.t 37)) none 2 false true), (AOp.mk (some 39) (AK.mv (AX.t 7)) (some (38, true)) 3 false true), (AOp.mk (some 40) (AK.mv (AX.t 9)) (some (38, true)) 4 false true), (AOp.mk (some 41) (AK.bin false BinOp.eql (AX.t 39) (AX.t 40)) (some (38, true)) 5 false true), (AOp.mk (some 42) (AK.pick (AX.t 38) (AX.t 41) (AX.c (PV.val (Value.bool false)))) none 6 false true), (AOp.mk (some 43) (AK.mv (AX.t 42)) none 7 false true), (AOp.mk (some 44) (AK.call 24 []) (some (43, true)) 8 false true), (AOp.mk (some 45) (AK.pick (AX.t 43) (AX.t 44) (AX.c (PV.val (Value.bool false)))) none 9 false true), (AOp.mk (some 4) (AK.mv (AX.t 45)) none 10 false true)]) AC.ret) AC.skip)) (AC.seq (AC.seq (AC.ops [(AOp.mk (some 46) (AK.mv (AX.t 7)) none 0 false true), (AOp.mk (some 47) (AK.bin false BinOp.neq (AX.t 46) (AX.c (PV.val (Value.int IntKind.i64 0)))) none 1 false true), (AOp.mk (some 48) (AK.mv (AX.t 47)) none 2 false true), (AOp.mk (some 49) (AK.mv (AX.t 8)) (some (48, false)) 3 false true), (AOp.mk (some 50) (AK.bin false BinOp.gtr (AX.t 49) (AX.c (PV.val (Value.int IntKind.i64 0)))) (some (48, false)) 4 false true), (AOp.mk (some 51) (AK.pick (AX.t 48) (AX.c (PV.val (Value.bool true))) (AX.t 50)) none 5 false true)]) (AC.cond (AX.t 51) (AC.seq (AC.ops [(AOp.mk (some 52) (AK.mv (AX.t 7)) none 0 true false), (AOp.mk (some 53) (AK.bin false BinOp.eql (AX.t 52) (AX.c (PV.val (Value.int IntKind.i64 4)))) none 1 true false), (AOp.mk (some 54) (AK.mv (AX.t 53)) none 2 true false), (AOp.mk (some 55) (AK.ld (some 2) (AX.t 6)) (some (54, true)) 3 true false), (AOp.mk (some 56) (AK.call 49 [(AX.c (PV.val (Value.int IntKind.i64 0)))]) (some (54, true)) 4 false false), (AOp.mk (some 57) (AK.eqs [CK.i, CK.i] false (AX.t 55) (AX.t 56)) (some (54, true)) 5 true false), (AOp.mk (some 58) (AK.pick (AX.t 54) (AX.t 57) (AX.c (PV.val (Value.bool false)))) none 6 true false), (AOp.mk (some 59) (AK.mv (AX.t 58)) none 7 true false), (AOp.mk (some 60) (AK.mv (AX.t 8)) (some (59, true)) 8 true false), (AOp.mk (some 61) (AK.bin false BinOp.gtr (AX.t 60) (AX.c (PV.val (Value.int IntKind.i64 0)))) (some (59, true)) 9 true false), (AOp.mk (some 62) (AK.pick (AX.t 59) (AX.t 61) (AX.c (PV.val (Value.bool false)))) none 10 true false), (AOp.mk (some 63) (AK.mv (AX.t 62)) none 11 true false), (AOp.mk (some 64) (AK.call 24 []) (some (63, true)) 12 false false), (AOp.mk (some 65) (AK.pick (AX.t 63) (AX.t 64) (AX.c (PV.val (Value.bool false)))) none 13 true false), (AOp.mk (some 4) (AK.mv (AX.t 65)) none 14 true true)]) AC.ret) AC.skip)) (AC.seq (AC.seq (AC.ops [(AOp.mk (some 66) (AK.fadr 7 (AX.t 2)) none 0 true false), (AOp.mk (some 67) (AK.ld none (AX.t 66)) none 1 true false), (AOp.mk (some 68) (AK.un UnOp.neg (AX.t 67)) none 2 true false), (AOp.mk (some 69) (AK.fadr 7 (AX.t 2)) none 3 true false), (AOp.mk (some 70) (AK.ld none (AX.t 69)) none 4 true false), (AOp.mk (some 72) (AK.ld (some 2) (AX.t 6)) none 6 true false), (AOp.mk (some 71) (AK.call 46 [(AX.t 68), (AX.t 70)]) none 5 false false), (AOp.mk (some 73) (AK.call 50 [(AX.t 71), (AX.t 72)]) none 7 false false), (AOp.mk (some 74) (AK.un UnOp.not (AX.t 73)) none 8 true false), (AOp.mk (some 75) (AK.mv (AX.t 74)) none 9 true false), (AOp.mk (some 76) (AK.ld (some 2) (AX.t 6)) (some (75, false)) 10 true false), (AOp.mk (some 77) (AK.call 44 [(AX.t 76), (AX.c (PV.val (Value.int IntKind.i64 0)))]) (some (75, false)) 11 false false), (AOp.mk (some 78) (AK.un UnOp.not (AX.t 77)) (some (75, false)) 12 true false), (AOp.mk (some 79) (AK.pick (AX.t 75) (AX.c (PV.val (Value.bool true))) (AX.t 78)) none 13 true false)]) (AC.cond (AX.t 79) (AC.seq (AC.ops [(AOp.mk (some 4) (AK.mv (AX.c (PV.val (Value.bool false)))) none 0 false true)]) AC.ret) AC.skip)) (AC.seq (AC.seq (AC.ops [(AOp.mk (some 80) (AK.fadr 7 (AX.t 2)) none 0 false true), (AOp.mk (some 81) (AK.ld none (AX.t 80)) none 1 false true), (AOp.mk (some 82) (AK.un UnOp.neg (AX.t 81)) none 2 false true), (AOp.mk (some 10) (AK.mv (AX.t 82)) none 3 false true)]) (AC.block 0 (AC.loop (AC.seq (AC.seq (AC.ops [(AOp.mk (some 83) (AK.mv (AX.t 10)) none 0 false true), (AOp.mk (some 84) (AK.fadr 7 (AX.t 2)) none 1 false true), (AOp.mk (some 85) (AK.ld none (AX.t 84)) none 2 false true), (AOp.mk (some 86) (AK.bin false BinOp.leq (AX.t 83) (AX.t 85)) none 3 false true)]) (AC.cond (AX.t 86) AC.skip (AC.exit 0))) (AC.seq (AC.block 1 (AC.seq (AC.ops [(AOp.mk (some 90) (AK.ld (some 10) (AX.t 2)) none 0 false true), (AOp.mk (some 91) (AK.mv (AX.t 5)) none 1 false true), (AOp.mk (some 92) (AK.mv (AX.t 10)) none 2 false true), (AOp.mk (some 93) (AK.call 20 [(AX.t 90), (AX.t 91), (AX.t 92)]) none 3 false true), (AOp.mk (some 89) (AK.mv (AX.t 93)) none 4 false true), (AOp.mk (some 94) (AK.ext (AX.t 89) 0) none 5 false true), (AOp.mk (some 95) (AK.ext (AX.t 89) 1) none 6 false true), (AOp.mk (some 11) (AK.mv (AX.t 94)) none 7 false true), (AOp.mk (some 12) (AK.mv (AX.t 95)) none 8 false true)]) (AC.seq (AC.ops [(AOp.mk (some 96) (AK.mv (AX.t 12)) none 0 false true), (AOp.mk (some 97) (AK.bin false BinOp.neq (AX.t 96) (AX.c (PV.val (Value.int IntKind.i64 0)))) none 1 false true), (AOp.mk (some 98) (AK.mv (AX.t 97)) none 2 false true), (AOp.mk (some 99) (AK.ld (some 2) (AX.t 6)) (some (98, false)) 3 false true), (AOp.mk (some 100) (AK.mv (AX.t 10)) (some (98, false)) 4 false true), (AOp.mk (some 101) (AK.call 44 [(AX.t 99), (AX.t 100)]) (some (98, false)) 5 false true), (AOp.mk (some 102) (AK.mv (AX.t 101)) (some (98, false)) 6 false true), (AOp.mk (some 103) (AK.mv (AX.t 11)) (some (102, true)) 7 false true), (AOp.mk (some 104) (AK.bin false BinOp.gtr (AX.t 103) (AX.c (PV.val (Value.int IntKind.i64 0)))) (some (102, true)) 8 false true), (AOp.mk (some 105) (AK.pick (AX.t 102) (AX.t 104) (AX.c (PV.val (Value.bool false)))) (some (98, false)) 9 false true), (AOp.mk (some 106) (AK.pick (AX.t 98) (AX.c (PV.val (Value.bool true))) (AX.t 105)) none 10 false true), (AOp.mk (some 107) (AK.mv (AX.t 106)) none 11 false true), (AOp.mk (some 108) (AK.mv (AX.t 10)) (some (107, false)) 12 false true), (AOp.mk (some 109) (AK.fadr 0 (AX.t 6)) (some (107, false)) 13 false true), (AOp.mk (some 110) (AK.ld none (AX.t 109)) (some (107, false)) 14 false true), (AOp.mk (some 111) (AK.bin false BinOp.sub (AX.t 110) (AX.c (PV.val (Value.int IntKind.i64 1)))) (some (107, false)) 15 false true), (AOp.mk (some 112) (AK.bin false BinOp.eql (AX.t 108) (AX.t 111)) (some (107, false)) 16 false true), (AOp.mk (some 113) (AK.mv (AX.t 112)) (some (107, false)) 17 false true), (AOp.mk (some 114) (AK.mv (AX.t 10)) (some (113, false)) 18 false true), (AOp.mk (some 115) (AK.fadr 1 (AX.t 6)) (some (113, false)) 19 false true), (AOp.mk (some 116) (AK.ld none (AX.t 115)) (some (113, false)) 20 false true), (AOp.mk (some 117) (AK.bin false BinOp.add (AX.t 116) (AX.c (PV.val (Value.int IntKind.i64 1)))) (some (113, false)) 21 false true), (AOp.mk (some 118) (AK.bin false BinOp.eql (AX.t 114) (AX.t 117)) (some (113, false)) 22 false true), (AOp.mk (some 119) (AK.pick (AX.t 113) (AX.c (PV.val (Value.bool true))) (AX.t 118)) (some (107, false)) 23 false true), (AOp.mk (some 120) (AK.mv (AX.t 119)) (some (107, false)) 24 false true), (AOp.mk (some 121) (AK.mv (AX.t 11)) (some (120, true)) 25 false true), (AOp.mk (some 122) (AK.bin false BinOp.eql (AX.t 121) (AX.c (PV.val (Value.int IntKind.i64 0)))) (some (120, true)) 26 false true), (AOp.mk (some 123) (AK.pick (AX.t 120) (AX.t 122) (AX.c (PV.val (Value.bool false)))) (some (107, false)) 27 false true), (AOp.mk (some 124) (AK.pick (AX.t 107) (AX.c (PV.val (Value.bool true))) (AX.t 123)) none 28 false true)]) (AC.cond (AX.t 124) (AC.seq (AC.ops [(AOp.mk (some 4) (AK.mv (AX.c (PV.val (Value.bool false)))) none 0 false true)]) AC.ret) AC.skip)))) (AC.ops [(AOp.mk (some 87) (AK.mv (AX.t 10)) none 0 false true), (AOp.mk (some 88) (AK.bin false BinOp.add (AX.t 87) (AX.c (PV.val (Value.int IntKind.i64 1)))) none 1 false true), (AOp.mk (some 10) (AK.mv (AX.t 88)) none 2 false true)])))))) (AC.seq (AC.ops [(AOp.mk (some 125) (AK.call 24 []) none 0 false true), (AOp.mk (some 4) (AK.mv (AX.t 125)) none 1 false true)]) AC.ret))))))))))
theorem ac13_ok : cCode Try.prog (fun _ => false) Try.f13.ntmps (Try.f13.body.getD .skip) = some ac13 := by kernel_rfl
theorem answer_zero {b : SBook} {ls : List SLoad} {w n : Int} (h : holdsI b ls w n) : answerI b ls w n = 0 := by
  unfold answerI; rw [if_pos (count_zero.2 h)]
theorem answer_pos {b : SBook} {ls : List SLoad} {w n : Int} (h : ¬ holdsI b ls w n) : 0 < answerI b ls w n := by
  unfold answerI
  rw [if_neg (fun hc => h (count_zero.1 hc))]
  split <;> omega
theorem answer_holds {b : SBook} {ls : List SLoad} {w n : Int} : answerI b ls w n = 0 ↔ holdsI b ls w n := by
  constructor
  · intro h
    rcases Classical.em (holdsI b ls w n) with h1 | h1
    · exact h1
    · have := answer_pos h1; omega
  · exact answer_zero
theorem answer_rng (b : SBook) (ls : List SLoad) (w n : Int) : 0 ≤ answerI b ls w n ∧ answerI b ls w n ≤ 2 := by
  unfold answerI
  split
  · omega
  · split <;> omega
theorem StandRoom_law (b : SBook) (n : Int) : Sem1 13 [.agg (bookC .sh .sh b), pi n] (pb true) := by
  refine semC_of_exec' mixed Try.func13 (by kernel_rfl) (by kernel_rfl) ac13_ok 2 rfl (by decide) [(.tmp 4)] (by kernel_rfl) ?_
  intro hr C hC hI
  unfold ac13
  simp only [go_sem, Nat.reduceBEq, Nat.reduceAdd]
  refine call_pure2 hC (sound_sem ..) rfl (PVleL_refl _) ?_
  rintro r rfl
  simp only [go_sem, Nat.reduceBEq]
  refine ⟨fun _ => ?_, fun ho => ?_⟩
  · refine call_pure2 hC (stood_sem) rfl (PVleL_refl _) ?_
    rintro r rfl
    simp only [go_sem, Nat.reduceBEq]
    exact retQ_one rfl rfl
  have hg := ok_rng ho
  have hw := rndI_range (n := n) (m := b.limit) (by omega)
  obtain ⟨w, hwd⟩ : ∃ w, 1 + rndI n b.limit = w := ⟨_, rfl⟩
  have hwr : 1 ≤ w ∧ w ≤ b.limit := by omega
  refine call_pure2 hC (Round_sem n b.limit) rfl (PVleL_refl _) ?_
  rintro r rfl
  simp only [go_sem, Nat.reduceBEq, Nat.reduceAdd, hwd, wrap_id (n := w) (by omega) (by omega)]
  by_cases hT : truthL b = []
  · refine call_pure2 hC (Room_F ho hT hwr) rfl (PVleL_refl _) ?_
    rintro r rfl
    simp only [go_sem, Nat.reduceBEq, Nat.reduceAdd, putCells]
    refine call_pure2 hC (Tips_F ho hT (n := 0) hwr (by omega)) rfl (PVleL_refl _) ?_
    rintro r rfl
    simp only [go_sem, Nat.reduceBEq, decide_true, not_false_eq_true, Int.reduceEq]
    refine call_pure2 hC (stood_sem) rfl (PVleL_refl _) ?_
    rintro r rfl
    simp only [go_sem, Nat.reduceBEq]
    exact retQ_one rfl rfl
  by_cases hc : holdsI b (loadsI b) w 0
  case neg =>
    have hp := answer_pos hc
    refine call_pure2 hC (Room_N ho hT hwr hc) rfl (PVleL_refl _) ?_
    rintro r rfl
    simp only [go_sem, Nat.reduceBEq, Nat.reduceAdd, putCells]
    refine call_pure2 hC (Tips_T ho hT (n := 0) hwr (by omega)) rfl (PVleL_refl _) ?_
    rintro r rfl
    simp only [go_sem, Nat.reduceBEq, Nat.reduceAdd, decide_true, decide_false, not_true_eq_false, Bool.false_eq_true, not_false_eq_true, Int.reduceEq]
    refine call_pure2 hC (One_sem 0) rfl (PVleL_refl _) ?_
    rintro r rfl
    simp only [go_sem, Nat.reduceBEq, decide_true, Bool.true_and, Bool.false_eq_true, decide_eq_true hp]
    refine call_pure2 hC (stood_sem) rfl (PVleL_refl _) ?_
    rintro r rfl
    simp only [go_sem, Nat.reduceBEq]
    exact retQ_one rfl rfl
  obtain ⟨k1, a1, a2, a3, a4⟩ := far_facts b (loadsI b) w (-1) (.inr rfl) b.lean.toNat 0
  obtain ⟨k2, c1, c2, c3, c4⟩ := far_facts b (loadsI b) w 1 (.inl rfl) b.lean.toNat 0
  obtain ⟨lo, hlo⟩ : ∃ lo, farI b (loadsI b) w (-1) b.lean.toNat 0 = lo := ⟨_, rfl⟩
  obtain ⟨hi, hhi⟩ : ∃ hi, farI b (loadsI b) w 1 b.lean.toNat 0 = hi := ⟨_, rfl⟩
  have hin : ∀ m : Int, lo ≤ m → m ≤ hi → holdsI b (loadsI b) w m := fun m h1 h2 => by
    rcases Int.lt_trichotomy m 0 with h3 | h3 | h3
    · have := a3 (-m).toNat (by omega) (by omega)
      rwa [show (0 : Int) + -1 * ((-m).toNat : Int) = m by omega] at this
    · subst h3; exact hc
    · have := c3 m.toNat (by omega) (by omega)
      rwa [show (0 : Int) + 1 * (m.toNat : Int) = m by omega] at this
  have hout : ∀ m : Int, -b.lean ≤ m → m ≤ b.lean → m = lo - 1 ∨ m = hi + 1 → ¬ holdsI b (loadsI b) w m := fun m h1 h2 h3 => by
    rcases h3 with h3 | h3
    · have := a4 (by omega)
      rwa [show (0 : Int) + -1 * ((k1 : Int) + 1) = m by omega] at this
    · have := c4 (by omega)
      rwa [show (0 : Int) + 1 * ((k2 : Int) + 1) = m by omega] at this
  have hlr : -b.lean ≤ lo ∧ lo ≤ 0 := by omega
  have hhr : 0 ≤ hi ∧ hi ≤ b.lean := by omega
  clear a1 a2 a3 a4 c1 c2 c3 c4
  have hR := Room_S (k := .sh) (k2 := .sh) ho hT hwr hc
  rw [hlo, hhi] at hR
  have hz : IntKind.i64.wrap (0 - b.lean) = -b.lean := by rw [wrap_id (by omega) (by omega)]; omega
  refine call_pure2 hC (hR) rfl (PVleL_refl _) ?_
  rintro r rfl
  simp only [go_sem, Nat.reduceBEq, Nat.reduceAdd, putCells]
  refine call_pure2 hC (Tips_T ho hT (n := 0) hwr (by omega)) rfl (PVleL_refl _) ?_
  rintro r rfl
  simp only [go_sem, Nat.reduceBEq, Nat.reduceAdd, decide_false, not_true_eq_false, Bool.false_eq_true, Int.reduceLT, answer_zero hc, hz]
  refine call_pure2 hC (From_sem ..) rfl (PVleL_refl _) ?_
  rintro r rfl
  simp only [go_sem, Nat.reduceBEq]
  refine call_pure2 hC (Wraps_sem ..) rfl (PVleL_refl _) ?_
  rintro r rfl
  simp only [go_sem, Nat.reduceBEq, Nat.reduceAdd, decide_eq_true (show -b.lean ≤ lo ∧ hi ≤ b.lean by omega), Bool.false_eq_true]
  refine call_pure2 hC (Has_sem ..) rfl (PVleL_refl _) ?_
  rintro r rfl
  simp only [go_sem, Nat.reduceBEq, decide_eq_true (show lo ≤ 0 ∧ 0 ≤ hi by omega), hz]
  refine loop_nat (2 * b.lean + 1).toNat (fun _ => True) (fun (j : Nat) => ⟨[(10, .p (pi (j - b.lean))), (6, .loc 1 0), (5, .p (pi w)), (2, .loc 0 0)], [.cells ((bookC .sh .sh b).map .p), .cells [.p (pi lo), .p (pi hi)]], [], some [], 0⟩) trivial (by simp [Wk, wkT, wkL, look, AV.lo, AV.lo.loL]) ?_
  rintro j ⟨hj, -⟩
  obtain ⟨m, hm⟩ : ∃ m, (j : Int) - b.lean = m := ⟨_, rfl⟩
  have hnx : IntKind.i64.wrap (m + 1) = ((j + 1 : Nat) : Int) - b.lean := by rw [wrap_id (by omega) (by omega)]; omega
  simp only [hm]
  simp only [go_sem, Nat.reduceBEq, Nat.reduceAdd]
  refine ⟨fun h5 => ?_, fun h5 => ?_⟩
  · have h1 := hin m
    have h2 := hout m (by omega) (by omega)
    rw [← answer_holds] at h1 h2
    have h3 := answer_rng b (loadsI b) w m
    refine call_pure2 hC (Tips_T ho hT (n := m) hwr (by omega)) rfl (PVleL_refl _) ?_
    rintro r rfl
    simp only [go_sem, Nat.reduceBEq, Nat.reduceAdd, decide_false, not_true_eq_false]
    obtain ⟨a, ha⟩ : ∃ a, answerI b (loadsI b) w m = a := ⟨_, rfl⟩
    rw [ha] at h1 h2 h3
    refine call_pure2 hC (Has_sem lo hi m) rfl (PVleL_refl _) ?_
    rintro r rfl
    simp only [go_sem, Nat.reduceBEq, ha, wrap_id (n := lo - 1) (by omega) (by omega), wrap_id (n := hi + 1) (by omega) (by omega), hnx]
    repeat' (first | (exfalso; omega) | (guard_target =~ _ ∧ _; refine ⟨fun _ => ?_, fun _ => ?_⟩))
    all_goals exact ⟨⟨j + 1, by omega, trivial⟩, by simp only; omega, by simp [Wk, wkT, wkL, look, AV.lo, AV.lo.loL]⟩
  · refine call_pure2 hC (stood_sem) rfl (PVleL_refl _) ?_
    rintro r rfl
    simp only [go_sem, Nat.reduceBEq]
    exact retQ_one rfl rfl
set_option maxRecDepth 100000 in
theorem StandRoom_row {l0 l1 : List PV} (T0 : Ty Try.prog 10 25 l0) (T1 : Ty Try.prog 10 3 l1) : SemC Try.prog 13 [argPV Try.prog 25 l0, argPV Try.prog 3 l1] (fun r => r = pb true) := by
  obtain ⟨b, rfl⟩ := ty_book T0
  obtain ⟨n, rfl⟩ := tyInt uInt T1
  rw [argStruct Try.underlying25, argInt uInt]
  exact StandRoom_law b n
end Go.Proofs.Ytaejmbmkkdkliaa
