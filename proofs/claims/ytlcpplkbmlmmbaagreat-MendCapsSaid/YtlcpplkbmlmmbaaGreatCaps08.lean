/- Contracts of mend: purses compared. Contracts of mend: what some jobs' shares are at an end. -/
import Derived.Test.YtlcpplkbmlmmbaaGreatCaps07
namespace Go.Proofs.YtlcpplkbmlmmbaaGreat.Mk.Me
open Go.RowKit Ls
def ac175 : AC := (AC.seq (AC.ops [(AOp.mk (some 2) (AK.mv (AX.c (PV.val (Value.bool false)))) none 0 false true)]) (AC.seq (AC.ops [(AOp.mk (some 3) (AK.mv (AX.t 0)) none 0 false true), (AOp.mk (some 4) (AK.mv (AX.t 0)) none 1 false true), (AOp.mk (some 5) (AK.bin false BinOp.neq (AX.t 3) (AX.t 4)) none 2 false true), (AOp.mk (some 2) (AK.mv (AX.t 5)) none 3 false true)]) AC.ret))
theorem ac175_ok : cCode Tryz.prog (fun _ => false) Tryz.f175.ntmps (Tryz.f175.body.getD .skip) = some ac175 := by kernel_rfl
def ac166 : AC := (AC.seq (AC.ops [(AOp.mk (some 4) (AK.mv (AX.c (PV.val (Value.int IntKind.i64 0)))) none 0 false true)]) (AC.seq (AC.ops [(AOp.mk (some 7) (AK.mv (AX.t 0)) none 0 false true), (AOp.mk (some 8) (AK.call 175 [(AX.t 7)]) none 1 false true), (AOp.mk (some 5) (AK.mv (AX.t 8)) none 2 false true)]) (AC.seq (AC.ops [(AOp.mk (some 9) (AK.mv (AX.t 1)) none 0 false true), (AOp.mk (some 10) (AK.call 175 [(AX.t 9)]) none 1 false true), (AOp.mk (some 6) (AK.mv (AX.t 10)) none 2 false true)]) (AC.seq (AC.seq (AC.ops [(AOp.mk (some 11) (AK.mv (AX.t 5)) none 0 false true)]) (AC.cond (AX.t 11) (AC.seq (AC.seq (AC.ops [(AOp.mk (some 12) (AK.mv (AX.t 6)) none 0 false true)]) (AC.cond (AX.t 12) (AC.seq (AC.ops [(AOp.mk (some 4) (AK.mv (AX.c (PV.val (Value.int IntKind.i64 0)))) none 0 false true)]) AC.ret) AC.skip)) (AC.seq (AC.ops [(AOp.mk (some 4) (AK.mv (AX.c (PV.val (Value.int IntKind.i64 (-1))))) none 0 false true)]) AC.ret)) AC.skip)) (AC.seq (AC.seq (AC.ops [(AOp.mk (some 13) (AK.mv (AX.t 6)) none 0 false true)]) (AC.cond (AX.t 13) (AC.seq (AC.ops [(AOp.mk (some 4) (AK.mv (AX.c (PV.val (Value.int IntKind.i64 1)))) none 0 false true)]) AC.ret) AC.skip)) (AC.seq (AC.seq (AC.ops [(AOp.mk (some 14) (AK.mv (AX.t 0)) none 0 false true), (AOp.mk (some 15) (AK.mv (AX.t 1)) none 1 false true), (AOp.mk (some 16) (AK.bin false BinOp.lss (AX.t 14) (AX.t 15)) none 2 false true)]) (AC.cond (AX.t 16) (AC.seq (AC.ops [(AOp.mk (some 4) (AK.mv (AX.c (PV.val (Value.int IntKind.i64 (-1))))) none 0 false true)]) AC.ret) AC.skip)) (AC.seq (AC.seq (AC.ops [(AOp.mk (some 17) (AK.mv (AX.t 0)) none 0 false true), (AOp.mk (some 18) (AK.mv (AX.t 1)) none 1 false true), (AOp.mk (some 19) (AK.bin false BinOp.gtr (AX.t 17) (AX.t 18)) none 2 false true)]) (AC.cond (AX.t 19) (AC.seq (AC.ops [(AOp.mk (some 4) (AK.mv (AX.c (PV.val (Value.int IntKind.i64 1)))) none 0 false true)]) AC.ret) AC.skip)) (AC.seq (AC.ops [(AOp.mk (some 4) (AK.mv (AX.c (PV.val (Value.int IntKind.i64 0)))) none 0 false true)]) AC.ret))))))))
theorem ac166_ok : cCode Tryz.prog (fun _ => false) Tryz.f166.ntmps (Tryz.f166.body.getD .skip) = some ac166 := by kernel_rfl
def ac140 : AC := (AC.seq (AC.ops [(AOp.mk (some 4) (AK.mv (AX.c (PV.val (Value.int IntKind.i64 0)))) none 0 false true)]) (AC.seq (AC.seq (AC.ops [(AOp.mk (some 9) (AK.mv (AX.t 0)) none 0 false true), (AOp.mk (some 10) (AK.len (AX.t 9)) none 1 false true), (AOp.mk (some 11) (AK.mv (AX.c (PV.val (Value.int IntKind.i64 0)))) none 2 false true)]) (AC.block 0 (AC.loop (AC.seq (AC.ops [(AOp.mk (some 12) (AK.bin false BinOp.lss (AX.t 11) (AX.t 10)) none 0 false true)]) (AC.seq (AC.cond (AX.t 12) AC.skip (AC.exit 0)) (AC.seq (AC.block 1 (AC.seq (AC.ops [(AOp.mk (some 13) (AK.mv (AX.t 11)) none 0 false true), (AOp.mk (some 14) (AK.iadrS 1 (AX.t 9) (AX.t 11)) none 1 false true), (AOp.mk (some 15) (AK.ld none (AX.t 14)) none 2 false true), (AOp.mk (some 5) (AK.mv (AX.t 13)) none 3 false true), (AOp.mk (some 6) (AK.mv (AX.t 15)) none 4 false true)]) (AC.seq (AC.seq (AC.ops [(AOp.mk (some 16) (AK.mv (AX.t 5)) none 0 false true), (AOp.mk (some 17) (AK.mv (AX.t 1)) none 1 false true), (AOp.mk (some 18) (AK.len (AX.t 17)) none 2 false true), (AOp.mk (some 19) (AK.bin false BinOp.geq (AX.t 16) (AX.t 18)) none 3 false true)]) (AC.cond (AX.t 19) (AC.seq (AC.ops [(AOp.mk (some 4) (AK.mv (AX.c (PV.val (Value.int IntKind.i64 1)))) none 0 false true)]) AC.ret) AC.skip)) (AC.seq (AC.ops [(AOp.mk (some 20) (AK.mv (AX.t 1)) none 0 false true), (AOp.mk (some 21) (AK.mv (AX.t 5)) none 1 false true), (AOp.mk (some 22) (AK.iadrS 1 (AX.t 20) (AX.t 21)) none 2 false true), (AOp.mk (some 23) (AK.ld none (AX.t 22)) none 3 false true), (AOp.mk (some 7) (AK.mv (AX.t 23)) none 4 false true)]) (AC.seq (AC.ops [(AOp.mk (some 24) (AK.mv (AX.t 6)) none 0 false true), (AOp.mk (some 25) (AK.mv (AX.t 7)) none 1 false true), (AOp.mk (some 26) (AK.call 166 [(AX.t 24), (AX.t 25)]) none 2 false true), (AOp.mk (some 8) (AK.mv (AX.t 26)) none 3 false true)]) (AC.seq (AC.ops [(AOp.mk (some 27) (AK.mv (AX.t 8)) none 0 false true), (AOp.mk (some 28) (AK.bin false BinOp.neq (AX.t 27) (AX.c (PV.val (Value.int IntKind.i64 0)))) none 1 false true)]) (AC.cond (AX.t 28) (AC.seq (AC.ops [(AOp.mk (some 29) (AK.mv (AX.t 8)) none 0 false true), (AOp.mk (some 4) (AK.mv (AX.t 29)) none 1 false true)]) AC.ret) AC.skip))))))) (AC.ops [(AOp.mk (some 30) (AK.bin false BinOp.add (AX.t 11) (AX.c (PV.val (Value.int IntKind.i64 1)))) none 0 false true), (AOp.mk (some 11) (AK.mv (AX.t 30)) none 1 false true)]))))))) (AC.seq (AC.seq (AC.ops [(AOp.mk (some 31) (AK.mv (AX.t 0)) none 0 false true), (AOp.mk (some 32) (AK.len (AX.t 31)) none 1 false true), (AOp.mk (some 33) (AK.mv (AX.t 1)) none 2 false true), (AOp.mk (some 34) (AK.len (AX.t 33)) none 3 false true), (AOp.mk (some 35) (AK.bin false BinOp.lss (AX.t 32) (AX.t 34)) none 4 false true)]) (AC.cond (AX.t 35) (AC.seq (AC.ops [(AOp.mk (some 4) (AK.mv (AX.c (PV.val (Value.int IntKind.i64 (-1))))) none 0 false true)]) AC.ret) AC.skip)) (AC.seq (AC.ops [(AOp.mk (some 4) (AK.mv (AX.c (PV.val (Value.int IntKind.i64 0)))) none 0 false true)]) AC.ret))))
theorem ac140_ok : cCode Tryz.prog (fun _ => false) Tryz.f140.ntmps (Tryz.f140.body.getD .skip) = some ac140 := by kernel_rfl
def ac104 : AC := (AC.seq (AC.ops [(AOp.mk (some 2) (AK.box 4 (AX.t 0)) none 0 false true), (AOp.mk (some 4) (AK.new (PV.agg [(PV.val (Value.int IntKind.i64 0)), (PV.val (Value.int IntKind.i64 0)), (PV.val (Value.int IntKind.i64 0)), (PV.val (Value.int IntKind.i64 0))])) none 1 false true)]) (AC.seq (AC.ops [(AOp.mk (some 5) (AK.mv (AX.t 1)) none 0 false true), (AOp.mk (some 6) (AK.iadrA 1 4 (AX.t 2) (AX.t 5)) none 1 false true), (AOp.mk (some 7) (AK.ld none (AX.t 6)) none 2 false true), (AOp.mk (some 8) (AK.bin false BinOp.add (AX.t 7) (AX.c (PV.val (Value.int IntKind.i64 1)))) none 3 false true), (AOp.mk (some 9) (AK.iadrA 1 4 (AX.t 2) (AX.t 5)) none 4 false true), (AOp.mk none (AK.st 1 (AX.t 9) (AX.t 8)) none 5 false true)]) (AC.seq (AC.ops [(AOp.mk (some 10) (AK.ld (some 4) (AX.t 2)) none 0 false true), (AOp.mk none (AK.st 4 (AX.t 4) (AX.t 10)) none 1 false true)]) AC.ret)))
theorem ac104_ok : cCode Tryz.prog (fun _ => false) Tryz.f104.ntmps (Tryz.f104.body.getD .skip) = some ac104 := by kernel_rfl
def ac105 : AC := (AC.seq (AC.ops [(AOp.mk (some 2) (AK.box 4 (AX.t 0)) none 0 false true), (AOp.mk (some 3) (AK.box 4 (AX.t 1)) none 1 false true), (AOp.mk (some 4) (AK.mv (AX.c (PV.val (Value.bool false)))) none 2 false true)]) (AC.seq (AC.seq (AC.tree (AT.fk (AOp.mk (some 7) (AK.slcA 1 4 (AX.t 2) none none) none 0 false false) (AOp.mk (some 9) (AK.slcA 1 4 (AX.t 3) none none) none 2 false false) (AT.fk (AOp.mk (some 8) (AK.call 126 [(AX.t 7)]) none 1 false false) (AOp.mk (some 9) (AK.slcA 1 4 (AX.t 3) none none) none 2 false false) (AT.op (AOp.mk (some 9) (AK.slcA 1 4 (AX.t 3) none none) none 2 false false) (AT.op (AOp.mk (some 10) (AK.call 126 [(AX.t 9)]) none 3 false true) (AT.op (AOp.mk (some 5) (AK.mv (AX.t 8)) none 4 true false) (AT.op (AOp.mk (some 6) (AK.mv (AX.t 10)) none 5 true false) AT.fin)))) (AT.op (AOp.mk (some 8) (AK.call 126 [(AX.t 7)]) none 1 false false) (AT.op (AOp.mk (some 10) (AK.call 126 [(AX.t 9)]) none 3 false true) (AT.op (AOp.mk (some 5) (AK.mv (AX.t 8)) none 4 true false) (AT.op (AOp.mk (some 6) (AK.mv (AX.t 10)) none 5 true false) AT.fin))))) (AT.op (AOp.mk (some 7) (AK.slcA 1 4 (AX.t 2) none none) none 0 false false) (AT.op (AOp.mk (some 8) (AK.call 126 [(AX.t 7)]) none 1 false false) (AT.op (AOp.mk (some 10) (AK.call 126 [(AX.t 9)]) none 3 false true) (AT.op (AOp.mk (some 5) (AK.mv (AX.t 8)) none 4 true false) (AT.op (AOp.mk (some 6) (AK.mv (AX.t 10)) none 5 true false) AT.fin))))))) (AC.seq (AC.ops [(AOp.mk (some 11) (AK.mv (AX.t 5)) none 0 false true), (AOp.mk (some 12) (AK.mv (AX.t 6)) none 1 false true), (AOp.mk (some 13) (AK.bin false BinOp.neq (AX.t 11) (AX.t 12)) none 2 false true)]) (AC.cond (AX.t 13) (AC.seq (AC.ops [(AOp.mk (some 14) (AK.mv (AX.t 5)) none 0 false true), (AOp.mk (some 15) (AK.mv (AX.t 6)) none 1 false true), (AOp.mk (some 16) (AK.bin false BinOp.lss (AX.t 14) (AX.t 15)) none 2 false true), (AOp.mk (some 4) (AK.mv (AX.t 16)) none 3 false true)]) AC.ret) AC.skip))) (AC.seq (AC.tree (AT.fk (AOp.mk (some 17) (AK.slcA 1 4 (AX.t 2) none none) none 0 false false) (AOp.mk (some 18) (AK.slcA 1 4 (AX.t 3) none none) none 1 false false) (AT.op (AOp.mk (some 18) (AK.slcA 1 4 (AX.t 3) none none) none 1 false false) (AT.op (AOp.mk (some 19) (AK.call 140 [(AX.t 17), (AX.t 18)]) none 2 false true) (AT.op (AOp.mk (some 20) (AK.bin false BinOp.lss (AX.t 19) (AX.c (PV.val (Value.int IntKind.i64 0)))) none 3 true false) (AT.op (AOp.mk (some 4) (AK.mv (AX.t 20)) none 4 true false) AT.fin)))) (AT.op (AOp.mk (some 17) (AK.slcA 1 4 (AX.t 2) none none) none 0 false false) (AT.op (AOp.mk (some 19) (AK.call 140 [(AX.t 17), (AX.t 18)]) none 2 false true) (AT.op (AOp.mk (some 20) (AK.bin false BinOp.lss (AX.t 19) (AX.c (PV.val (Value.int IntKind.i64 0)))) none 3 true false) (AT.op (AOp.mk (some 4) (AK.mv (AX.t 20)) none 4 true false) AT.fin)))))) AC.ret)))
theorem ac105_ok : cCode Tryz.prog (fun _ => false) Tryz.f105.ntmps (Tryz.f105.body.getD .skip) = some ac105 := by kernel_rfl
section
variable {C : Con} {rd : List Nat} {d : Option Nat} {i : Nat} {tk lst : Bool} {s : AS} {K : List Nat → AS → Prop}
def slaG (sz len : Nat) (l h : Option Int) (p : Option (PV × List ABlk)) (d : Option Nat) (s : AS) (K : AS → Prop) : Prop :=
  match l, h, p with
  | some l, some h, some (.ptr cs off, L') => 0 ≤ l ∧ l ≤ h ∧ h ≤ len ∧ off + len * sz ≤ cs.length ∧
      K (({ s with loc := L' } : AS).put d (.p (.sl (if h = len then .full else .sh) sz (rows sz (h - l).toNat (cs.drop (off + l.toNat * sz))))))
  | _, _, _ => False
theorem gs_slcA {sz len : Nat} {x : AX} {lo hi : Option AX} : gstep C rd ⟨d, .slcA sz len x lo hi, none, i, tk, lst⟩ s K = slaG sz len (optInt s lo 0) (optInt s hi len) (pur 100 s.loc (x.ev s)) d s (K (bif lst then [] else rd)) := by
  rw [gs_eff rfl]
  simp only [effQ, slaG]
  split
  · rename_i e1 e2 e3; rw [e1, e2, e3]
  · rename_i h1
    split
    · rename_i e1 e2 e3; exact absurd e3 (h1 _ _ _ _ _ e1 e2)
    · rfl
theorem slaG_some {sz len off : Nat} {a b : Int} {cs : List PV} {L' : List ABlk} {K : AS → Prop} : slaG sz len (some a) (some b) (some (.ptr cs off, L')) d s K = (0 ≤ a ∧ a ≤ b ∧ b ≤ len ∧ off + len * sz ≤ cs.length ∧
      K (({ s with loc := L' } : AS).put d (.p (.sl (if b = len then .full else .sh) sz (rows sz (b - a).toNat (cs.drop (off + a.toNat * sz))))))) := rfl
end
theorem sla4 {d : Option Nat} {s : AS} {K : AS → Prop} {a b c e : PV} {L' : List ABlk} : slaG 1 4 (some 0) (some ((4 : Nat) : Int)) (some (.ptr [a, b, c, e] 0, L')) d s K = K (({ s with loc := L' } : AS).put d (.p (.sl .full 1 [[a], [b], [c], [e]]))) := by
  rw [slaG_some]
  simp [rows]
theorem pur0 {a b c e : PV} {X : ABlk} : pur 100 [.cells [.p a, .p b, .p c, .p e], X] (.loc 0 0) = some (.ptr [a, b, c, e] 0, [.frz [a, b, c, e], X]) := rfl
theorem pur1 {a b c e : PV} {X : ABlk} : pur 100 [X, .cells [.p a, .p b, .p c, .p e]] (.loc 1 0) = some (.ptr [a, b, c, e] 0, [X, .frz [a, b, c, e]]) := rfl
theorem purf0 {A : List PV} {X : ABlk} : pur 100 [.frz A, X] (.loc 0 0) = some (.ptr A 0, [.frz A, X]) := rfl
theorem purf1 {A : List PV} {X : ABlk} : pur 100 [X, .frz A] (.loc 1 0) = some (.ptr A 0, [X, .frz A]) := rfl
theorem isNaN_sem (x : Int) : Sem1 175 [pi x] (pb false) := by
  refine semC_of_exec' mixed Tryz.func175 (by kernel_rfl) (by kernel_rfl) ac175_ok 1 rfl (by decide) [(.tmp 2)] (by kernel_rfl) ?_
  intro hr C hC hI
  unfold ac175
  simp only [go_sem, Nat.reduceBEq]
  exact retQ_one rfl (by simp)
def cmpN (x y : Int) : Int := if x < y then -1 else if y < x then 1 else 0
theorem cmpN_sem (x y : Int) : Sem1 166 [pi x, pi y] (pi (cmpN x y)) := by
  refine semC_of_exec' mixed Tryz.func166 (by kernel_rfl) (by kernel_rfl) ac166_ok 2 rfl (by decide) [(.tmp 4)] (by kernel_rfl) ?_
  intro hr C hC hI
  unfold ac166
  simp only [go_sem, Nat.reduceBEq]
  refine call_pure2 hC (isNaN_sem x) rfl (PVleL_refl _) ?_
  rintro r rfl
  simp only [go_sem, Nat.reduceBEq]
  refine call_pure2 hC (isNaN_sem y) rfl (PVleL_refl _) ?_
  rintro r rfl
  simp only [go_sem, Nat.reduceBEq]
  unfold cmpN
  refine ⟨fun h => retQ_one rfl (by rw [if_pos h]), fun h => ⟨fun h2 => retQ_one rfl (by rw [if_neg h, if_pos h2]), fun h2 => retQ_one rfl (by rw [if_neg h, if_neg h2])⟩⟩
def cmpI : List Int → List Int → Int
  | [], [] => 0
  | [], _ :: _ => -1
  | _ :: _, [] => 1
  | x :: l, y :: m => if cmpN x y = 0 then cmpI l m else cmpN x y
theorem cmpI_sem (l m : List Int) : Sem1 140 [pis l, pis m] (pi (cmpI l m)) := by
  refine semC_of_exec' mixed Tryz.func140 (by kernel_rfl) (by kernel_rfl) ac140_ok 2 rfl (by decide) [(.tmp 4)] (by kernel_rfl) ?_
  intro hr C hC hI
  unfold ac140
  simp only [go_sem, Nat.reduceBEq, List.length_map]
  have hl := real_len (i := 0) hr rfl
  have hm := real_len (i := 1) hr rfl
  rw [List.length_map] at hl hm
  refine loop_k l.length (fun j => j ≤ m.length ∧ cmpI (l.drop j) (m.drop j) = cmpI l m) [0, 1, 9, 10] (fun j => [(11, .p (pi j))]) ⟨by omega, rfl⟩ rfl ⟨rfl, by simp, by simp⟩ (by simp [wkT, look, AV.lo]) ?_
  rintro j ⟨hj, hjm, hok⟩
  simp only [go_sem, Nat.reduceBEq]
  refine ⟨fun h5 => ?_, fun h5 => ?_⟩
  · have hj2 : j < l.length := by omega
    simp only [go_sem, Nat.reduceBEq, iadr_pis hj2, List.length_map]
    rw [List.drop_eq_getElem_cons hj2] at hok
    refine ⟨fun h6 => ?_, fun h6 => ?_⟩
    · refine retQ_one rfl ?_
      rw [← hok, show m.drop j = [] from List.drop_eq_nil_of_le (by omega)]; rfl
    · have hjm2 : j < m.length := by omega
      rw [List.drop_eq_getElem_cons hjm2] at hok
      simp only [go_sem, Nat.reduceBEq, iadr_pis hjm2]
      refine call_pure2 hC (cmpN_sem l[j] m[j]) rfl (PVleL_refl _) ?_
      rintro r rfl
      simp only [go_sem, Nat.reduceBEq, wrap_succ (k := j) (by omega)]
      simp only [cmpI] at hok
      refine ⟨fun h7 => ?_, fun h7 => ?_⟩
      · exact retQ_one rfl (by rw [← hok, if_neg h7])
      · rw [if_pos h7] at hok
        exact ⟨⟨j + 1, hj2, by omega, hok⟩, by simp only; omega, by simp [Wk, wkT, wkL, look, AV.lo]⟩
  · have hjn : j = l.length := by omega
    subst hjn
    simp only [go_sem, List.length_map]
    rw [List.drop_length] at hok
    refine ⟨fun h6 => retQ_one rfl ?_, fun h6 => retQ_one rfl ?_⟩
    · rw [← hok, List.drop_eq_getElem_cons (by omega)]; rfl
    · rw [← hok, show m.drop l.length = [] from List.drop_eq_nil_of_le (by omega)]; rfl
theorem cmpI_lex : ∀ {l m : List Int}, l.length = m.length → (cmpI l m < 0 ↔ lexB l m = true)
  | [], [], _ => by simp [cmpI, lexB]
  | [], _ :: _, h => by simp at h
  | _ :: _, [], h => by simp at h
  | x :: l, y :: m, h => by
    have ih := cmpI_lex (l := l) (m := m) (by simpa using h)
    simp only [cmpI, lexB]
    unfold cmpN
    by_cases h1 : x < y
    · rw [if_pos h1, if_neg (by omega), if_neg (by omega)]; simp [h1]
    · by_cases h2 : y < x
      · rw [if_neg h1, if_pos h2, if_neg (by omega), if_neg (by omega)]; simp [h1]
      · rw [if_neg h1, if_neg h2, if_pos rfl, if_pos (by omega)]; exact ih
abbrev purC (p : List Int) : List PV := p.map pi
theorem pwith_sem {p : List Int} (hp : p.length = 4) {n : Nat} (hn : n < 4) (hx : ∀ x ∈ p, 0 ≤ x ∧ x ≤ 1000000) : Sem1 104 [.agg (purC p), pi n] (.agg (purC (addAt p n))) := by
  match p, hp with
  | [a, b, c, e], _ =>
    simp only [List.mem_cons, List.not_mem_nil, or_false, forall_eq_or_imp, forall_eq] at hx
    obtain ⟨h0, h1, h2, h3⟩ := hx
    have hn4 : n = 0 ∨ n = 1 ∨ n = 2 ∨ n = 3 := by omega
    rcases hn4 with rfl | rfl | rfl | rfl
    · have hi : ∀ id o : Nat, iadrAS 1 4 (.loc id o) (.p (pi ((0 : Nat) : Int))) = some (.loc id (o + 0)) := fun id o => by rw [iadrA_loc' (by decide)]
      refine semC_of_exec' mixed Tryz.func104 (by kernel_rfl) (by kernel_rfl) ac104_ok 2 rfl (by decide) [(.cell 4 136)] (by kernel_rfl) ?_
      intro hr C hC hI
      unfold ac104
      simp only [go_sem, Nat.reduceBEq, Nat.reduceAdd, Nat.reduceLeDiff, purC, putCells, hi, wrap_id (n := a + 1) (by omega) (by omega)]
      exact retQ_cell (n := some 4) (by kernel_rfl) rfl rfl
    · have hi : ∀ id o : Nat, iadrAS 1 4 (.loc id o) (.p (pi ((1 : Nat) : Int))) = some (.loc id (o + 1)) := fun id o => by rw [iadrA_loc' (by decide)]
      refine semC_of_exec' mixed Tryz.func104 (by kernel_rfl) (by kernel_rfl) ac104_ok 2 rfl (by decide) [(.cell 4 136)] (by kernel_rfl) ?_
      intro hr C hC hI
      unfold ac104
      simp only [go_sem, Nat.reduceBEq, Nat.reduceAdd, Nat.reduceLeDiff, purC, putCells, hi, wrap_id (n := b + 1) (by omega) (by omega)]
      exact retQ_cell (n := some 4) (by kernel_rfl) rfl rfl
    · have hi : ∀ id o : Nat, iadrAS 1 4 (.loc id o) (.p (pi ((2 : Nat) : Int))) = some (.loc id (o + 2)) := fun id o => by rw [iadrA_loc' (by decide)]
      refine semC_of_exec' mixed Tryz.func104 (by kernel_rfl) (by kernel_rfl) ac104_ok 2 rfl (by decide) [(.cell 4 136)] (by kernel_rfl) ?_
      intro hr C hC hI
      unfold ac104
      simp only [go_sem, Nat.reduceBEq, Nat.reduceAdd, Nat.reduceLeDiff, purC, putCells, hi, wrap_id (n := c + 1) (by omega) (by omega)]
      exact retQ_cell (n := some 4) (by kernel_rfl) rfl rfl
    · have hi : ∀ id o : Nat, iadrAS 1 4 (.loc id o) (.p (pi ((3 : Nat) : Int))) = some (.loc id (o + 3)) := fun id o => by rw [iadrA_loc' (by decide)]
      refine semC_of_exec' mixed Tryz.func104 (by kernel_rfl) (by kernel_rfl) ac104_ok 2 rfl (by decide) [(.cell 4 136)] (by kernel_rfl) ?_
      intro hr C hC hI
      unfold ac104
      simp only [go_sem, Nat.reduceBEq, Nat.reduceAdd, purC, putCells, hi, wrap_id (n := e + 1) (by omega) (by omega)]
      exact retQ_cell (n := some 4) (by kernel_rfl) rfl rfl
set_option maxRecDepth 100000 in
theorem better_sem {p q : List Int} (hp : p.length = 4) (hq : q.length = 4) (hx : ∀ x ∈ p, 0 ≤ x ∧ x ≤ 1000000) (hy : ∀ x ∈ q, 0 ≤ x ∧ x ≤ 1000000) : Sem1 105 [.agg (purC p), .agg (purC q)] (pb (betB p q)) := by
  have s1 := sum_sem .full p hx (by omega)
  have s2 := sum_sem .full q hy (by omega)
  have hcl := cmpI_lex (l := p) (m := q) (by omega)
  match p, hp with
  | [a, b, c, e], _ =>
    match q, hq with
    | [a', b', c', e'], _ =>
      obtain ⟨u, hu⟩ : ∃ u, sumI [a, b, c, e] = u := ⟨_, rfl⟩
      obtain ⟨v, hv⟩ : ∃ v, sumI [a', b', c', e'] = v := ⟨_, rfl⟩
      have hB : betB [a, b, c, e] [a', b', c', e'] = if u = v then lexB [a, b, c, e] [a', b', c', e'] else decide (u < v) := by unfold betB; rw [hu, hv]
      rw [hu] at s1
      rw [hv] at s2
      rw [hB]
      have hlt : decide (cmpI [a, b, c, e] [a', b', c', e'] < 0) = lexB [a, b, c, e] [a', b', c', e'] := by
        rw [Bool.eq_iff_iff, decide_eq_true_eq]
        exact hcl
      obtain ⟨w, hw⟩ : ∃ w, cmpI [a, b, c, e] [a', b', c', e'] = w := ⟨_, rfl⟩
      have s3 := cmpI_sem [a, b, c, e] [a', b', c', e']
      rw [hw] at hlt s3
      rw [← hlt]
      refine semC_of_exec' mixed Tryz.func105 (by kernel_rfl) (by kernel_rfl) ac105_ok 2 rfl (by decide) [(.tmp 4)] (by kernel_rfl) ?_
      intro hr C hC hI
      unfold ac105
      simp only [go_sem, Nat.reduceBEq, Nat.reduceAdd, purC, gs_slcA, sla4, pur0, pur1]
      repeat' (first
        | exact retQ_one rfl rfl
        | (exact fun h => retQ_one rfl (by rw [if_neg h]))
        | refine And.intro ?_ ?_
        | (refine call_pure2 hC s1 rfl (PVleL_refl _) ?_
           rintro _ rfl
           simp only [go_sem, Nat.reduceBEq, sla4, pur1])
        | (refine call_pure2 hC s2 rfl (PVleL_refl _) ?_
           rintro _ rfl
           simp only [go_sem, Nat.reduceBEq, gs_slcA, sla4, purf0, purf1]))
      all_goals intro h
      all_goals rw [if_pos h]
      all_goals refine And.intro ?_ ?_
      all_goals refine call_pure2 hC s3 rfl ⟨PVle.sh _ _ _, PVle.sh _ _ _, trivial⟩ ?_
      all_goals rintro _ rfl
      all_goals simp only [go_sem, Nat.reduceBEq]
      all_goals exact retQ_one rfl rfl
end Go.Proofs.YtlcpplkbmlmmbaaGreat.Mk.Me
namespace Go.Proofs.YtlcpplkbmlmmbaaGreat.Mk.Me
open Go.RowKit Ls
def ac86 : AC := (AC.seq (AC.ops [(AOp.mk (some 5) (AK.box 2 (AX.t 1)) none 0 false true), (AOp.mk (some 6) (AK.box 1 (AX.t 2)) none 1 false true), (AOp.mk (some 8) (AK.mv (AX.c (PV.val (Value.int IntKind.i64 0)))) none 2 false true)]) (AC.seq (AC.ops [(AOp.mk (some 9) (AK.mv (AX.c (PV.sl SK.full 0 []))) none 0 false true)]) (AC.seq (AC.seq (AC.ops [(AOp.mk (some 15) (AK.mv (AX.t 0)) none 0 false true), (AOp.mk (some 16) (AK.nilc (AX.t 15)) none 1 false true), (AOp.mk (some 17) (AK.fadr 8 (AX.t 16)) none 2 false true), (AOp.mk (some 18) (AK.ld none (AX.t 17)) none 3 false true), (AOp.mk (some 19) (AK.len (AX.t 18)) none 4 false true), (AOp.mk (some 20) (AK.mv (AX.c (PV.val (Value.int IntKind.i64 0)))) none 5 false true)]) (AC.block 0 (AC.loop (AC.seq (AC.ops [(AOp.mk (some 21) (AK.bin false BinOp.lss (AX.t 20) (AX.t 19)) none 0 false true)]) (AC.seq (AC.cond (AX.t 21) AC.skip (AC.exit 0)) (AC.seq (AC.block 1 (AC.seq (AC.ops [(AOp.mk (some 22) (AK.iadrS 2 (AX.t 18) (AX.t 20)) none 0 false true), (AOp.mk (some 23) (AK.ld (some 2) (AX.t 22)) none 1 false true), (AOp.mk (some 11) (AK.new (PV.agg [(PV.val (Value.int IntKind.i64 0)), (PV.val (Value.int IntKind.i64 0))])) none 2 false true), (AOp.mk none (AK.st 2 (AX.t 11) (AX.t 23)) none 3 false true)]) (AC.seq (AC.ops [(AOp.mk (some 12) (AK.mv (AX.c (PV.sl SK.full 0 []))) none 0 false true)]) (AC.seq (AC.seq (AC.ops [(AOp.mk (some 24) (AK.mv (AX.t 3)) none 0 false true), (AOp.mk (some 25) (AK.len (AX.t 24)) none 1 false true), (AOp.mk (some 26) (AK.mv (AX.c (PV.val (Value.int IntKind.i64 0)))) none 2 false true)]) (AC.block 2 (AC.loop (AC.seq (AC.ops [(AOp.mk (some 27) (AK.bin false BinOp.lss (AX.t 26) (AX.t 25)) none 0 false true)]) (AC.seq (AC.cond (AX.t 27) AC.skip (AC.exit 2)) (AC.seq (AC.block 3 (AC.seq (AC.ops [(AOp.mk (some 28) (AK.iadrS 6 (AX.t 24) (AX.t 26)) none 0 false true), (AOp.mk (some 29) (AK.ld (some 6) (AX.t 28)) none 1 false true), (AOp.mk (some 14) (AK.new (PV.agg [(PV.val (Value.int IntKind.i64 0)), (PV.val (Value.int IntKind.i64 0)), (PV.val (Value.int IntKind.i64 0)), (PV.val (Value.int IntKind.i64 0)), (PV.val (Value.int IntKind.i64 0)), (PV.val (Value.int IntKind.i64 0))])) none 2 false true), (AOp.mk none (AK.st 6 (AX.t 14) (AX.t 29)) none 3 false true)]) (AC.ops [(AOp.mk (some 30) (AK.mv (AX.t 12)) none 0 true false), (AOp.mk (some 31) (AK.fadr 0 (AX.t 6)) none 1 true false), (AOp.mk (some 32) (AK.ld none (AX.t 31)) none 2 true false), (AOp.mk (some 33) (AK.ld (some 6) (AX.t 14)) none 3 true false), (AOp.mk (some 34) (AK.mv (AX.t 0)) none 4 true false), (AOp.mk (some 35) (AK.ld (some 2) (AX.t 11)) none 5 true false), (AOp.mk (some 36) (AK.ld (some 6) (AX.t 14)) none 6 true false), (AOp.mk (some 37) (AK.fadr 0 (AX.t 5)) none 7 true false), (AOp.mk (some 38) (AK.ld none (AX.t 37)) none 8 true false), (AOp.mk (some 39) (AK.fadr 0 (AX.t 14)) none 9 true false), (AOp.mk (some 40) (AK.fadr 1 (AX.t 39)) none 10 true false), (AOp.mk (some 41) (AK.ld (some 2) (AX.t 40)) none 11 true false), (AOp.mk (some 43) (AK.fadr 0 (AX.t 5)) none 13 true false), (AOp.mk (some 44) (AK.ld none (AX.t 43)) none 14 true false), (AOp.mk (some 45) (AK.fadr 0 (AX.t 14)) none 15 true false), (AOp.mk (some 46) (AK.fadr 3 (AX.t 45)) none 16 true false), (AOp.mk (some 47) (AK.ld (some 2) (AX.t 46)) none 17 true false), (AOp.mk (some 42) (AK.callv (AX.t 38) [(AX.t 41)]) none 12 false false), (AOp.mk (some 48) (AK.callv (AX.t 44) [(AX.t 47)]) none 18 false false), (AOp.mk (some 49) (AK.call 125 [(AX.t 34), (AX.t 35), (AX.t 36), (AX.t 42), (AX.t 48)]) none 19 false false), (AOp.mk (some 50) (AK.callv (AX.t 32) [(AX.t 33), (AX.t 49)]) none 20 false true), (AOp.mk (some 51) (AK.bslice false 3 1 1 [(PV.val (Value.int IntKind.i64 0))] [(0, (1, (AX.t 50)))]) none 21 false true), (AOp.mk (some 52) (AK.app false 3 1 8 [(PV.val (Value.int IntKind.i64 0))] (AX.t 30) (AX.t 51)) none 22 false true), (AOp.mk (some 12) (AK.mv (AX.t 52)) none 23 true true)]))) (AC.ops [(AOp.mk (some 53) (AK.bin false BinOp.add (AX.t 26) (AX.c (PV.val (Value.int IntKind.i64 1)))) none 0 false true), (AOp.mk (some 26) (AK.mv (AX.t 53)) none 1 false true)]))))))) (AC.ops [(AOp.mk (some 54) (AK.mv (AX.t 9)) none 0 false true), (AOp.mk (some 55) (AK.mv (AX.t 12)) none 1 false true), (AOp.mk (some 56) (AK.call 126 [(AX.t 55)]) none 2 false true), (AOp.mk (some 57) (AK.bslice false 3 1 1 [(PV.val (Value.int IntKind.i64 0))] [(0, (1, (AX.t 56)))]) none 3 false true), (AOp.mk (some 58) (AK.app false 3 1 8 [(PV.val (Value.int IntKind.i64 0))] (AX.t 54) (AX.t 57)) none 4 false true), (AOp.mk (some 9) (AK.mv (AX.t 58)) none 5 false true)]))))) (AC.ops [(AOp.mk (some 59) (AK.bin false BinOp.add (AX.t 20) (AX.c (PV.val (Value.int IntKind.i64 1)))) none 0 false true), (AOp.mk (some 20) (AK.mv (AX.t 59)) none 1 false true)]))))))) (AC.seq (AC.ops [(AOp.mk (some 60) (AK.fadr 1 (AX.t 5)) none 0 false true), (AOp.mk (some 61) (AK.ld none (AX.t 60)) none 1 false true), (AOp.mk (some 62) (AK.mv (AX.t 9)) none 2 false true), (AOp.mk (some 63) (AK.callv (AX.t 61) [(AX.t 62)]) none 3 false true), (AOp.mk (some 8) (AK.mv (AX.t 63)) none 4 false true)]) AC.ret))))
theorem ac86_ok : cCode Tryz.prog (fun _ => false) Tryz.f86.ntmps (Tryz.f86.body.getD .skip) = some ac86 := by kernel_rfl
def ac52 : AC := (AC.seq (AC.ops [(AOp.mk (some 6) (AK.new (PV.agg [(PV.val (Value.int IntKind.i64 0)), (PV.val (Value.int IntKind.i64 0))])) none 0 false true)]) (AC.seq (AC.ops [(AOp.mk (some 8) (AK.call 85 []) none 0 false true), (AOp.mk (some 9) (AK.mv (AX.t 1)) none 1 false true), (AOp.mk (some 10) (AK.iadrS 1 (AX.t 8) (AX.t 9)) none 2 false true), (AOp.mk (some 11) (AK.ld (some 1) (AX.t 10)) none 3 false true), (AOp.mk (some 7) (AK.new (PV.agg [(PV.val Value.nilFunc)])) none 4 false true), (AOp.mk none (AK.st 1 (AX.t 7) (AX.t 11)) none 5 false true)]) (AC.seq (AC.ops [(AOp.mk (some 12) (AK.mv (AX.t 0)) none 0 true false), (AOp.mk (some 14) (AK.ld (some 1) (AX.t 7)) none 2 true false), (AOp.mk (some 15) (AK.mv (AX.t 2)) none 3 true false), (AOp.mk (some 17) (AK.mv (AX.t 0)) none 5 true false), (AOp.mk (some 19) (AK.ld (some 1) (AX.t 7)) none 7 true false), (AOp.mk (some 20) (AK.mv (AX.t 2)) none 8 true false), (AOp.mk (some 13) (AK.call 87 []) none 1 false false), (AOp.mk (some 16) (AK.call 86 [(AX.t 12), (AX.t 13), (AX.t 14), (AX.t 15)]) none 4 false false), (AOp.mk (some 18) (AK.call 88 []) none 6 false false), (AOp.mk (some 21) (AK.call 86 [(AX.t 17), (AX.t 18), (AX.t 19), (AX.t 20)]) none 9 false true), (AOp.mk (some 22) (AK.build [(PV.val (Value.int IntKind.i64 0)), (PV.val (Value.int IntKind.i64 0))] [(0, (1, (AX.t 16))), (1, (1, (AX.t 21)))]) none 10 true true), (AOp.mk none (AK.st 2 (AX.t 6) (AX.t 22)) none 11 false true)]) AC.ret)))
theorem ac52_ok : cCode Tryz.prog (fun _ => false) Tryz.f52.ntmps (Tryz.f52.body.getD .skip) = some ac52 := by kernel_rfl
def ac53 : AC := (AC.seq (AC.ops [(AOp.mk (some 4) (AK.new (PV.agg [(PV.val (Value.int IntKind.i64 0)), (PV.val (Value.int IntKind.i64 0)), (PV.val (Value.int IntKind.i64 0)), (PV.val (Value.int IntKind.i64 0)), (PV.val (Value.int IntKind.i64 0)), (PV.val (Value.int IntKind.i64 0))])) none 0 false true)]) (AC.seq (AC.ops [(AOp.mk (some 5) (AK.mv (AX.t 0)) none 0 false true), (AOp.mk (some 6) (AK.nilc (AX.t 5)) none 1 false true), (AOp.mk (some 7) (AK.fadr 0 (AX.t 6)) none 2 false true), (AOp.mk (some 8) (AK.fadr 4 (AX.t 7)) none 3 false true), (AOp.mk (some 9) (AK.ld none (AX.t 8)) none 4 false true), (AOp.mk (some 10) (AK.mv (AX.t 1)) none 5 false true), (AOp.mk (some 11) (AK.iadrS 6 (AX.t 9) (AX.t 10)) none 6 false true), (AOp.mk (some 12) (AK.ld (some 6) (AX.t 11)) none 7 false true), (AOp.mk (some 13) (AK.build [(PV.val (Value.int IntKind.i64 0)), (PV.val (Value.int IntKind.i64 0)), (PV.val (Value.int IntKind.i64 0)), (PV.val (Value.int IntKind.i64 0)), (PV.val (Value.int IntKind.i64 0)), (PV.val (Value.int IntKind.i64 0))] [(0, (6, (AX.t 12)))]) none 8 false true), (AOp.mk none (AK.st 6 (AX.t 4) (AX.t 13)) none 9 false true)]) AC.ret))
theorem ac53_ok : cCode Tryz.prog (fun _ => false) Tryz.f53.ntmps (Tryz.f53.body.getD .skip) = some ac53 := by kernel_rfl
def ac98 : AC := (AC.seq (AC.ops [(AOp.mk (some 2) (AK.mv (AX.c (PV.sl SK.full 0 []))) none 0 false true)]) (AC.seq (AC.ops [(AOp.mk (some 4) (AK.mv (AX.t 0)) none 0 false true), (AOp.mk (some 5) (AK.len (AX.t 4)) none 1 false true), (AOp.mk (some 3) (AK.mv (AX.t 5)) none 2 false true)]) (AC.seq (AC.ops [(AOp.mk (some 6) (AK.mv (AX.t 0)) none 0 false true), (AOp.mk (some 7) (AK.mv (AX.t 3)) none 1 false true), (AOp.mk (some 8) (AK.mv (AX.t 3)) none 2 false true), (AOp.mk (some 9) (AK.slc 6 (AX.t 6) none (some (AX.t 7)) (some (AX.t 8))) none 3 false true), (AOp.mk (some 2) (AK.mv (AX.t 9)) none 4 false true)]) AC.ret)))
theorem ac98_ok : cCode Tryz.prog (fun _ => false) Tryz.f98.ntmps (Tryz.f98.body.getD .skip) = some ac98 := by kernel_rfl
def ac63 : AC := (AC.seq (AC.ops [(AOp.mk (some 2) (AK.mv (AX.c (PV.sl SK.full 0 []))) none 0 false true)]) (AC.seq (AC.ops [(AOp.mk (some 3) (AK.mv (AX.c (PV.sl SK.full 0 []))) none 0 false true)]) (AC.seq (AC.seq (AC.ops [(AOp.mk (some 5) (AK.mv (AX.t 0)) none 0 false true), (AOp.mk (some 6) (AK.nilc (AX.t 5)) none 1 false true), (AOp.mk (some 7) (AK.fadr 0 (AX.t 6)) none 2 false true), (AOp.mk (some 8) (AK.fadr 4 (AX.t 7)) none 3 false true), (AOp.mk (some 9) (AK.ld none (AX.t 8)) none 4 false true), (AOp.mk (some 10) (AK.len (AX.t 9)) none 5 false true), (AOp.mk (some 11) (AK.mv (AX.c (PV.val (Value.int IntKind.i64 0)))) none 6 false true)]) (AC.block 0 (AC.loop (AC.seq (AC.ops [(AOp.mk (some 12) (AK.bin false BinOp.lss (AX.t 11) (AX.t 10)) none 0 false true)]) (AC.seq (AC.cond (AX.t 12) AC.skip (AC.exit 0)) (AC.seq (AC.block 1 (AC.seq (AC.ops [(AOp.mk (some 13) (AK.mv (AX.t 11)) none 0 false true), (AOp.mk (some 4) (AK.mv (AX.t 13)) none 1 false true)]) (AC.ops [(AOp.mk (some 14) (AK.mv (AX.t 3)) none 0 false true), (AOp.mk (some 15) (AK.mv (AX.t 0)) none 1 false true), (AOp.mk (some 16) (AK.mv (AX.t 4)) none 2 false true), (AOp.mk (some 17) (AK.call 53 [(AX.t 15), (AX.t 16)]) none 3 false true), (AOp.mk (some 18) (AK.bslice false 74 6 1 [(PV.val (Value.int IntKind.i64 0)), (PV.val (Value.int IntKind.i64 0)), (PV.val (Value.int IntKind.i64 0)), (PV.val (Value.int IntKind.i64 0)), (PV.val (Value.int IntKind.i64 0)), (PV.val (Value.int IntKind.i64 0))] [(0, (6, (AX.t 17)))]) none 4 false true), (AOp.mk (some 19) (AK.app false 74 6 48 [(PV.val (Value.int IntKind.i64 0)), (PV.val (Value.int IntKind.i64 0)), (PV.val (Value.int IntKind.i64 0)), (PV.val (Value.int IntKind.i64 0)), (PV.val (Value.int IntKind.i64 0)), (PV.val (Value.int IntKind.i64 0))] (AX.t 14) (AX.t 18)) none 5 false true), (AOp.mk (some 3) (AK.mv (AX.t 19)) none 6 false true)]))) (AC.ops [(AOp.mk (some 20) (AK.bin false BinOp.add (AX.t 11) (AX.c (PV.val (Value.int IntKind.i64 1)))) none 0 false true), (AOp.mk (some 11) (AK.mv (AX.t 20)) none 1 false true)]))))))) (AC.seq (AC.ops [(AOp.mk (some 21) (AK.mv (AX.t 3)) none 0 false true), (AOp.mk (some 22) (AK.call 98 [(AX.t 21)]) none 1 false true), (AOp.mk (some 2) (AK.mv (AX.t 22)) none 2 false true)]) AC.ret))))
theorem ac63_ok : cCode Tryz.prog (fun _ => false) Tryz.f63.ntmps (Tryz.f63.body.getD .skip) = some ac63 := by kernel_rfl
def ac65 : AC := (AC.seq (AC.ops [(AOp.mk (some 2) (AK.mv (AX.c (PV.val (Value.int IntKind.i64 0)))) none 0 false true), (AOp.mk (some 3) (AK.mv (AX.c (PV.val (Value.bool false)))) none 1 false true)]) (AC.seq (AC.ops [(AOp.mk (some 4) (AK.mv (AX.c (PV.val (Value.int IntKind.i64 0)))) none 0 false true)]) (AC.seq (AC.seq (AC.ops [(AOp.mk (some 8) (AK.mv (AX.t 0)) none 0 false true), (AOp.mk (some 9) (AK.call 63 [(AX.t 8)]) none 1 false true), (AOp.mk (some 10) (AK.len (AX.t 9)) none 2 false true), (AOp.mk (some 11) (AK.mv (AX.c (PV.val (Value.int IntKind.i64 0)))) none 3 false true)]) (AC.block 0 (AC.loop (AC.seq (AC.ops [(AOp.mk (some 12) (AK.bin false BinOp.lss (AX.t 11) (AX.t 10)) none 0 false true)]) (AC.seq (AC.cond (AX.t 12) AC.skip (AC.exit 0)) (AC.seq (AC.block 1 (AC.seq (AC.ops [(AOp.mk (some 13) (AK.mv (AX.t 11)) none 0 false true), (AOp.mk (some 14) (AK.iadrS 6 (AX.t 9) (AX.t 11)) none 1 false true), (AOp.mk (some 15) (AK.ld (some 6) (AX.t 14)) none 2 false true), (AOp.mk (some 6) (AK.new (PV.agg [(PV.val (Value.int IntKind.i64 0)), (PV.val (Value.int IntKind.i64 0)), (PV.val (Value.int IntKind.i64 0)), (PV.val (Value.int IntKind.i64 0)), (PV.val (Value.int IntKind.i64 0)), (PV.val (Value.int IntKind.i64 0))])) none 3 false true), (AOp.mk (some 5) (AK.mv (AX.t 13)) none 4 false true), (AOp.mk none (AK.st 6 (AX.t 6) (AX.t 15)) none 5 false true)]) (AC.seq (AC.ops [(AOp.mk (some 16) (AK.mv (AX.t 0)) none 0 false true), (AOp.mk (some 17) (AK.ld (some 6) (AX.t 6)) none 1 false true), (AOp.mk (some 18) (AK.bslice false 74 6 1 [(PV.val (Value.int IntKind.i64 0)), (PV.val (Value.int IntKind.i64 0)), (PV.val (Value.int IntKind.i64 0)), (PV.val (Value.int IntKind.i64 0)), (PV.val (Value.int IntKind.i64 0)), (PV.val (Value.int IntKind.i64 0))] [(0, (6, (AX.t 17)))]) none 2 false true), (AOp.mk (some 19) (AK.call 52 [(AX.t 16), (AX.c (PV.val (Value.int IntKind.i64 2))), (AX.t 18)]) none 3 false true), (AOp.mk (some 20) (AK.fld 1 none (AX.t 19)) none 4 false true), (AOp.mk (some 7) (AK.mv (AX.t 20)) none 5 false true)]) (AC.seq (AC.ops [(AOp.mk (some 21) (AK.mv (AX.t 7)) none 0 false true), (AOp.mk (some 22) (AK.mv (AX.t 4)) none 1 false true), (AOp.mk (some 23) (AK.bin false BinOp.gtr (AX.t 21) (AX.t 22)) none 2 false true)]) (AC.cond (AX.t 23) (AC.ops [(AOp.mk (some 24) (AK.mv (AX.t 5)) none 0 false true), (AOp.mk (some 25) (AK.mv (AX.t 7)) none 1 false true), (AOp.mk (some 2) (AK.mv (AX.t 24)) none 2 false true), (AOp.mk (some 4) (AK.mv (AX.t 25)) none 3 false true)]) AC.skip))))) (AC.ops [(AOp.mk (some 26) (AK.bin false BinOp.add (AX.t 11) (AX.c (PV.val (Value.int IntKind.i64 1)))) none 0 false true), (AOp.mk (some 11) (AK.mv (AX.t 26)) none 1 false true)]))))))) (AC.seq (AC.ops [(AOp.mk (some 27) (AK.mv (AX.t 2)) none 0 false true), (AOp.mk (some 28) (AK.mv (AX.t 4)) none 1 false true), (AOp.mk (some 29) (AK.bin false BinOp.gtr (AX.t 28) (AX.c (PV.val (Value.int IntKind.i64 0)))) none 2 false true), (AOp.mk (some 2) (AK.mv (AX.t 27)) none 3 false true), (AOp.mk (some 3) (AK.mv (AX.t 29)) none 4 false true)]) AC.ret))))
theorem ac65_ok : cCode Tryz.prog (fun _ => false) Tryz.f65.ntmps (Tryz.f65.body.getD .skip) = some ac65 := by kernel_rfl
theorem dropT_some (t : Nat) (l : List Nat) : dropT (some t) l = l.erase t := rfl
theorem dropT_none (l : List Nat) : dropT none l = l := rfl
set_option maxRecDepth 100000 in
set_option maxHeartbeats 2000000 in
theorem outmost_sem (κ : KS) {b : EBook} (ho : okE b) (hne : known b ≠ []) (hwho : ∀ t ∈ known b, t.1 < b.mb.makers.length) {F1 F2 G : FuncId} (lo : Bool) (w : Nat)
    (h1 : ∀ x y, Sem1 F1 [.agg [pi x, pi y]] (pi (if lo then x else y)))
    (h2 : ∀ l : List Int, l ≠ [] → l.length ≤ 1000 → Sem1 F2 [.sl .sh 1 (ints l)] (pi (ampl lo l)))
    (h3 : ∀ (j : Job) (c : Int), -1 ≤ j.cap → 0 ≤ c ∧ c ≤ 1000000 → Sem1 G [.agg (jobC j), pi c] (pi (shareI w j c)))
    (k : SK) (js : List Job) (hj : ∀ j ∈ js, okJob b j) (hl : js.length ≤ 4) : Sem1 86 [bookK κ b, .agg [fnV F1, fnV F2], .agg [fnV G], .sl k 6 (jobsC js)] (pi (outI lo b w js)) := by
  have hkl := known_len ho.1.1
  obtain ⟨Kn, hKn⟩ : ∃ Kn, known b = Kn := ⟨_, rfl⟩
  unfold outI
  unfold bookK
  rw [hKn] at hne hwho hkl ⊢
  refine semC_of_exec' mixed Tryz.func86 (by kernel_rfl) (by kernel_rfl) ac86_ok 4 rfl (by decide) [(.tmp 8)] (by kernel_rfl) ?_
  intro hr C hC hI
  unfold ac86
  simp only [go_sem, Nat.reduceBEq, Nat.reduceAdd, List.length_map]
  refine loop_g (α := Nat × Option Nat) (fun a => a.1 ≤ Kn.length ∧ (a.2 = none → ints ((Kn.take a.1).map (jobsI lo b w js)) = [])) (fun a => Kn.length - a.1) [0, 3, 5, 6, 18, 19] (fun a => [(9, .p (slZ 3 1 a.2 (ints ((Kn.take a.1).map (jobsI lo b w js))))), (20, .p (pi a.1))]) (fun _ => [.cells [.p (fnV F1), .p (fnV F2)], .cells [.p (fnV G)]]) (fun a => a.2.toList) (0, none) ⟨by omega, fun _ => rfl⟩ (by simp [Wk, wkT, wkL, look, AV.lo, AV.lo.loL, ABlk.toZ, upS_eq, keepS_nil, keepS_cons, slZ]) ?_
  rintro ⟨i, o⟩ ⟨hi, h0⟩
  replace hi : i ≤ Kn.length := hi
  replace h0 : o = none → ints ((Kn.take i).map (jobsI lo b w js)) = [] := h0
  simp only [go_sem, Nat.reduceBEq]
  refine ⟨fun d5 => ?_, fun d5 => ?_⟩
  · have hi2 : i < Kn.length := by omega
    obtain ⟨t, et⟩ : ∃ t, Kn[i] = t := ⟨_, rfl⟩
    have htm : t.1 < b.mb.makers.length := hwho t (et ▸ List.getElem_mem hi2)
    have e1 := iadr_map (f := trC) (kd := .sh) (sz := 2) hi2
    rw [et] at e1
    simp only [go_sem, Nat.reduceBEq, Nat.reduceAdd, e1, putCells, List.length_map]
    refine loop_g (α := Nat × Option Nat) (fun c => c.1 ≤ js.length ∧ (c.2 = none → ints ((js.take c.1).map (eachI lo b w t)) = [])) (fun c => js.length - c.1) [0, 3, 5, 6, 9, 11, 18, 19, 20, 24, 25] (fun c => [(12, .p (slZ 3 1 c.2 (ints ((js.take c.1).map (eachI lo b w t))))), (26, .p (pi c.1))]) (fun _ => [.cells [.p (fnV F1), .p (fnV F2)], .cells [.p (fnV G)], .cells [.p (pi t.1), .p (pi t.2)]]) (fun c => c.2.toList ++ o.toList) (0, none) ⟨by omega, fun _ => rfl⟩ (by cases o <;> simp [Wk, wkT, wkL, look, AV.lo, AV.lo.loL, ABlk.toZ, upS_eq, keepS_nil, keepS_cons, slZ]) ?_
    rintro ⟨q, o2⟩ ⟨hq, g0⟩
    replace hq : q ≤ js.length := hq
    replace g0 : o2 = none → ints ((js.take q).map (eachI lo b w t)) = [] := g0
    simp only [go_sem, Nat.reduceBEq]
    refine ⟨fun e5 => ?_, fun e5 => ?_⟩
    · have hq2 : q < js.length := by omega
      obtain ⟨j, ej⟩ : ∃ j, js[q] = j := ⟨_, rfl⟩
      have hjo : okJob b j := hj j (ej ▸ List.getElem_mem hq2)
      have e2 := iadr_map (f := jobC) (kd := k) (sz := 6) hq2
      rw [ej] at e2
      have hc := end_cost ho hjo lo t
      have hH : 0 ≤ endH lo j ∧ endH lo j ≤ 20 := by have := hjo.2.1; unfold endH; split <;> omega
      have hP : 0 ≤ endPt lo j ∧ endPt lo j ≤ 99 := by have := hjo.2.2.1; unfold endPt; split <;> omega
      have hnx : ints ((js.take (q + 1)).map (eachI lo b w t)) = ints ((js.take q).map (eachI lo b w t)) ++ [[pi (eachI lo b w t j)]] := by
        rw [List.take_succ_eq_append_getElem hq2, ej, List.map_append]
        simp
      simp only [go_sem, Nat.reduceBEq, Nat.reduceAdd, Nat.reduceLeDiff, e2, putCells]
      refine call_pure2 hC (h1 j.hl j.hh) rfl (PVleL_refl _) ?_
      rintro _ rfl
      simp only [go_sem, Nat.reduceBEq]
      refine call_pure2 hC (h1 j.pl j.ph) rfl (PVleL_refl _) ?_
      rintro _ rfl
      simp only [go_sem, Nat.reduceBEq]
      have hcost := cost_sem κ ho htm hjo hH hP
      unfold bookK at hcost
      rw [hKn] at hcost
      refine call_pure2 hC hcost rfl (PVleL_refl _) ?_
      rintro _ rfl
      simp only [go_sem, Nat.reduceBEq]
      refine call_pure2 hC (h3 j _ hjo.2.2.2.1 (by omega)) rfl (PVleL_refl _) ?_
      rintro _ rfl
      simp only [go_sem, Nat.reduceBEq]
      refine app_slZ g0 (by rw [List.length_map, List.length_map, List.length_take]; omega) (fun t ht => List.mem_append_left _ ht) fun tk htk => ?_
      simp only [go_sem, Nat.reduceBEq, wrap_succ (k := q) (by omega)]
      refine ⟨⟨(q + 1, some tk), hq2, (fun h => by cases h)⟩, by simp only; omega, ?_⟩
      simp only [hnx]
      have htk2 : tk ∉ o.toList := fun h => htk (List.mem_append_right _ h)
      clear htk
      cases o <;> cases o2 <;> simp_all [Wk, wkT, wkL, look, AV.lo, AV.lo.loL, ABlk.toZ, slZ, dropT_some, dropT_none, eachI]
    · have hqn : q = js.length := by omega
      subst hqn
      rw [List.take_length] at g0 ⊢
      have hjb := fun x (hx : x ∈ js.map (eachI lo b w t)) => show 0 ≤ x ∧ x ≤ 1000000 from by
        obtain ⟨j, hjm, rfl⟩ := List.mem_map.1 hx
        have := each_bound ho (hj j hjm) lo w t
        omega
      refine call_pure2 hC (sum_sem .sh (js.map (eachI lo b w t)) hjb (by rw [List.length_map]; omega)) rfl ⟨slZ_le g0, trivial⟩ ?_
      rintro _ rfl
      simp only [go_sem, Nat.reduceBEq]
      have hnx : ints ((Kn.take (i + 1)).map (jobsI lo b w js)) = ints ((Kn.take i).map (jobsI lo b w js)) ++ [[pi (sumI (js.map (eachI lo b w t)))]] := by
        rw [List.take_succ_eq_append_getElem hi2, et, List.map_append]
        simp [jobsI]
      refine app_slZ h0 (by rw [List.length_map, List.length_map, List.length_take]; omega) (fun t ht => List.mem_append_right _ ht) fun tk htk => ?_
      simp only [go_sem, Nat.reduceBEq, wrap_succ (k := i) (by omega)]
      refine ⟨⟨(i + 1, some tk), hi2, (fun h => by cases h)⟩, by simp only; omega, ?_⟩
      simp only [hnx]
      cases o <;> simp [Wk, wkT, wkL, look, AV.lo, AV.lo.loL, ABlk.toZ, slZ]
  · have hin : i = Kn.length := by omega
    subst hin
    rw [List.take_length] at h0 ⊢
    refine call_pure2 hC (h2 (Kn.map (jobsI lo b w js)) (by simpa using hne) (by rw [List.length_map]; omega)) rfl ⟨slZ_le h0, trivial⟩ ?_
    rintro _ rfl
    simp only [go_sem, Nat.reduceBEq]
    exact retQ_one rfl rfl
def shF (w : Nat) : FuncId := if w = 0 then 122 else if w = 1 then 123 else 124
theorem share_sem (w : Nat) (j : Job) (c : Int) (hj : -1 ≤ j.cap) (hc : 0 ≤ c ∧ c ≤ 1000000) : Sem1 (shF w) [.agg (jobC j), pi c] (pi (shareI w j c)) := by
  unfold shF
  by_cases h0 : w = 0
  · rw [if_pos h0, h0]
    exact whole_sem j c
  · rw [if_neg h0]
    by_cases h1 : w = 1
    · rw [if_pos h1, h1]
      exact share1_sem j c
    · rw [if_neg h1]
      have h := lost_sem hj hc
      have e : shareI w j c = shareI 2 j c := by unfold shareI; rw [if_neg h0, if_neg h1, if_neg (by decide), if_neg (by decide)]
      rw [e]
      exact h
theorem low_out (κ : KS) {b : EBook} (ho : okE b) (hne : known b ≠ []) (hwho : ∀ t ∈ known b, t.1 < b.mb.makers.length) (w : Nat) (k : SK) (js : List Job) (hj : ∀ j ∈ js, okJob b j) (hl : js.length ≤ 4) : Sem1 86 [bookK κ b, .agg [fnV 127, fnV 128], .agg [fnV (shF w)], .sl k 6 (jobsC js)] (pi (outI true b w js)) :=
  outmost_sem κ ho hne hwho true w (fun x y => low_sem x y) (fun l h1 h2 => Min_sem l h1 h2) (fun j c h1 h2 => share_sem w j c h1 h2) k js hj hl
theorem high_out (κ : KS) {b : EBook} (ho : okE b) (hne : known b ≠ []) (hwho : ∀ t ∈ known b, t.1 < b.mb.makers.length) (w : Nat) (k : SK) (js : List Job) (hj : ∀ j ∈ js, okJob b j) (hl : js.length ≤ 4) : Sem1 86 [bookK κ b, .agg [fnV 129, fnV 130], .agg [fnV (shF w)], .sl k 6 (jobsC js)] (pi (outI false b w js)) :=
  outmost_sem κ ho hne hwho false w (fun x y => high_sem x y) (fun l h1 h2 => Max_sem l h1 h2) (fun j c h1 h2 => share_sem w j c h1 h2) k js hj hl
theorem sh_0 : iadrS' 1 (.p (.sl .full 1 [[fnV 122], [fnV 123], [fnV 124]])) (.p (.val (.int .i64 0))) = some (.p (.ptr [fnV (shF 0)] 0)) := rfl
theorem sh_1 : iadrS' 1 (.p (.sl .full 1 [[fnV 122], [fnV 123], [fnV 124]])) (.p (.val (.int .i64 1))) = some (.p (.ptr [fnV (shF 1)] 0)) := rfl
theorem sh_2 : iadrS' 1 (.p (.sl .full 1 [[fnV 122], [fnV 123], [fnV 124]])) (.p (.val (.int .i64 2))) = some (.p (.ptr [fnV (shF 2)] 0)) := rfl
abbrev spanP (b : EBook) (w : Nat) (js : List Job) : PV := .agg [pi (outI true b w js), pi (outI false b w js)]
theorem span_sem (κ : KS) {b : EBook} (ho : okE b) (hne : known b ≠ []) (hwho : ∀ t ∈ known b, t.1 < b.mb.makers.length) (w : Nat) (hw : w < 3) (k : SK) (js : List Job) (hj : ∀ j ∈ js, okJob b j) (hl : js.length ≤ 4) : Sem1 52 [bookK κ b, pi w, .sl k 6 (jobsC js)] (spanP b w js) := by
  have hL := low_out κ ho hne hwho w k js hj hl
  have hH := high_out κ ho hne hwho w k js hj hl
  have hw3 : w = 0 ∨ w = 1 ∨ w = 2 := by omega
  have hS := shares_sem
  obtain ⟨B, hB⟩ : ∃ B, bookK κ b = B := ⟨_, rfl⟩
  rw [hB] at hL hH ⊢
  have s0 := sh_0
  have s1 := sh_1
  have s2 := sh_2
  obtain ⟨V, hV⟩ : ∃ V, PV.sl .full 1 [[fnV 122], [fnV 123], [fnV 124]] = V := ⟨_, rfl⟩
  rw [hV] at hS s0 s1 s2
  have key : ∀ v : Int, (w : Int) = v → iadrS' 1 (.p V) (.p (.val (.int .i64 v))) = some (.p (.ptr [fnV (shF w)] 0)) := by
    rintro v rfl
    rcases hw3 with rfl | rfl | rfl
    · exact s0
    · exact s1
    · exact s2
  refine semC_of_exec' mixed Tryz.func52 (by kernel_rfl) (by kernel_rfl) ac52_ok 3 rfl (by decide) [(.cell 6 31)] (by kernel_rfl) ?_
  intro hr C hC hI
  unfold ac52
  simp only [go_sem, Nat.reduceAdd]
  refine call_pure2 hC hS rfl (PVleL_refl _) ?_
  rintro _ rfl
  simp only [go_sem, Nat.reduceBEq, key _ rfl, putCells]
  refine call_pure2 hC lowest_sem rfl (PVleL_refl _) ?_
  rintro _ rfl
  simp only [go_sem, Nat.reduceBEq]
  refine call_pure2 hC hL rfl (PVleL_refl _) ?_
  rintro _ rfl
  simp only [go_sem]
  refine call_pure2 hC highest_sem rfl (PVleL_refl _) ?_
  rintro _ rfl
  simp only [go_sem, Nat.reduceBEq]
  refine call_pure2 hC hH rfl (PVleL_refl _) ?_
  rintro _ rfl
  simp only [go_sem, Nat.reduceBEq, Nat.reduceAdd, Nat.reduceLeDiff, putCells]
  exact retQ_cell (n := some 2) (by kernel_rfl) rfl rfl
theorem job_sem (κ : KS) {b : EBook} {n : Nat} (hn : n < b.jobs.length) : Sem1 53 [bookK κ b, pi n] (.agg (jobC b.jobs[n])) := by
  have e1 := iadr_map (f := jobC) (kd := κ.c) (sz := 6) hn
  refine semC_of_exec' mixed Tryz.func53 (by kernel_rfl) (by kernel_rfl) ac53_ok 2 rfl (by decide) [(.cell 4 74)] (by kernel_rfl) ?_
  intro hr C hC hI
  unfold ac53
  simp only [go_sem, Nat.reduceBEq, Nat.reduceAdd, putCells, e1]
  exact retQ_cell (n := some 6) (by kernel_rfl) rfl rfl
theorem handedJ_sem (k : SK) (sz : Nat) (l : List Job) (hsz : sz = 6 ∨ l = []) : Sem1 98 [.sl k sz (jobsC l)] (.sl .full 6 (jobsC l)) := by
  refine semC_of_exec' mixed Tryz.func98 (by kernel_rfl) (by kernel_rfl) ac98_ok 1 rfl (by decide) [(.tmp 2)] (by kernel_rfl) ?_
  intro hr C hC hI
  unfold ac98
  simp only [go_sem, Nat.reduceBEq, slcS_all (sz := sz) (sz' := 6) (k := k) (es := jobsC l) (hsz.imp id fun h => by rw [h]; rfl)]
  exact retQ_one rfl rfl
theorem jobs_sem (κ : KS) {b : EBook} (hl : b.jobs.length ≤ 4) : Sem1 63 [bookK κ b] (.sl .full 6 (jobsC b.jobs)) := by
  refine semC_of_exec' mixed Tryz.func63 (by kernel_rfl) (by kernel_rfl) ac63_ok 1 rfl (by decide) [(.tmp 2)] (by kernel_rfl) ?_
  intro hr C hC hI
  unfold ac63
  simp only [go_sem, Nat.reduceBEq, List.length_map]
  refine loop_g (α := Nat × Option Nat) (fun a => a.1 ≤ b.jobs.length ∧ (a.2 = none → jobsC (b.jobs.take a.1) = [])) (fun a => b.jobs.length - a.1) [0, 10] (fun a => [(3, .p (slZ 74 6 a.2 (jobsC (b.jobs.take a.1)))), (11, .p (pi a.1))]) (fun _ => []) (fun a => a.2.toList) (0, none) ⟨by omega, fun _ => rfl⟩ (by simp [Wk, wkT, wkL, look, AV.lo, upS_eq, keepS_nil, keepS_cons, slZ]) ?_
  rintro ⟨j, o⟩ ⟨hj, h0⟩
  replace hj : j ≤ b.jobs.length := hj
  replace h0 : o = none → jobsC (b.jobs.take j) = [] := h0
  simp only [go_sem, Nat.reduceBEq]
  refine ⟨fun h5 => ?_, fun h5 => ?_⟩
  · have hj2 : j < b.jobs.length := by omega
    have hnx : jobsC (b.jobs.take (j + 1)) = jobsC (b.jobs.take j) ++ [jobC b.jobs[j]] := by
      show List.map jobC _ = List.map jobC _ ++ _
      rw [List.take_succ_eq_append_getElem hj2, List.map_append]
      rfl
    refine call_pure2 hC (job_sem κ hj2) rfl (PVleL_refl _) ?_
    rintro _ rfl
    simp only [go_sem, Nat.reduceBEq, Nat.reduceAdd]
    refine app_slZ h0 (by rw [List.length_map, List.length_take]; omega) (fun t ht => ht) fun tk htk => ?_
    simp only [go_sem, Nat.reduceBEq, wrap_succ (k := j) (by omega)]
    refine ⟨⟨(j + 1, some tk), hj2, (fun h => by cases h)⟩, by simp only; omega, ?_⟩
    simp only [hnx]
    cases o <;> simp [Wk, wkT, wkL, look, AV.lo, slZ]
  · have hjn : j = b.jobs.length := by omega
    subst hjn
    rw [List.take_length] at h0 ⊢
    cases o with
    | none =>
      have he := h0 rfl
      rw [he]
      have hj0 : b.jobs = [] := by simpa using he
      refine call_pure2 hC (handedJ_sem .full 0 [] (.inr rfl)) rfl (PVleL_refl _) ?_
      rintro _ rfl
      simp only [go_sem, Nat.reduceBEq]
      exact retQ_one rfl rfl
    | some t =>
      refine call_pure2 hC (handedJ_sem (.own t 74 6) 6 b.jobs (.inl rfl)) rfl (PVleL_refl _) ?_
      rintro _ rfl
      simp only [go_sem, Nat.reduceBEq]
      exact retQ_one rfl rfl
def lossN (b : EBook) (k : Nat) : Int := match b.jobs[k]? with | some j => lossI b j | none => 0
theorem dear_sem (κ : KS) {b : EBook} (ho : okE b) (hne : known b ≠ []) (hwho : ∀ t ∈ known b, t.1 < b.mb.makers.length) : Sem1 65 [bookK κ b] (.tup [pi (dearF (lossN b) b.jobs.length).1, pb (decide (0 < (dearF (lossN b) b.jobs.length).2))]) := by
  have hl := ho.2.1.2
  refine semC_of_exec' mixed Tryz.func65 (by kernel_rfl) (by kernel_rfl) ac65_ok 1 rfl (by decide) [(.tmp 2), (.tmp 3)] (by kernel_rfl) ?_
  intro hr C hC hI
  unfold ac65
  simp only [go_sem, Nat.reduceBEq]
  refine call_pure2 hC (jobs_sem κ hl) rfl (PVleL_refl _) ?_
  rintro _ rfl
  simp only [go_sem, Nat.reduceBEq, List.length_map]
  refine loop_k b.jobs.length (fun _ => True) [0, 9, 10] (fun j => [(2, .p (pi (dearF (lossN b) j).1)), (4, .p (pi (dearF (lossN b) j).2)), (11, .p (pi j))]) trivial rfl ⟨rfl, by simp, by simp⟩ (by simp [dearF, wkT, look, AV.lo]) ?_
  rintro j ⟨hj, -⟩
  have hnx := dearF_next (lossN b) j
  simp only [go_sem, Nat.reduceBEq]
  refine ⟨fun h5 => ?_, fun h5 => ?_⟩
  · have hj2 : j < b.jobs.length := by omega
    have hln : lossN b j = outI false b 2 [b.jobs[j]] := by
      unfold lossN
      rw [List.getElem?_eq_getElem hj2]
      rfl
    simp only [go_sem, Nat.reduceBEq, Nat.reduceAdd, iadr_map (f := jobC) (kd := .full) (sz := 6) hj2, putCells]
    refine call_pure2 hC (span_sem κ ho hne hwho 2 (by decide) .full [b.jobs[j]] (fun x hx => by rw [List.mem_singleton.1 hx]; exact ho.2.2.2.1 _ (List.getElem_mem hj2)) (by simp)) rfl (PVleL_refl _) ?_
    rintro _ rfl
    simp only [go_sem, Nat.reduceBEq]
    refine ⟨fun h7 => ?_, fun h7 => ?_⟩
    · rw [if_pos (by omega)] at hnx
      simp only [go_sem, wrap_succ (k := j) (by omega)]
      refine ⟨⟨j + 1, hj2, trivial⟩, by simp only; omega, ?_⟩
      rw [hnx, hln]
      simp [Wk, wkT, wkL, look, AV.lo]
    · rw [if_neg (by omega)] at hnx
      simp only [go_sem, wrap_succ (k := j) (by omega)]
      refine ⟨⟨j + 1, hj2, trivial⟩, by simp only; omega, ?_⟩
      rw [hnx]
      simp [Wk, wkT, wkL, look, AV.lo]
  · have hjn : j = b.jobs.length := by omega
    subst hjn
    exact retQ_two rfl rfl rfl
end Go.Proofs.YtlcpplkbmlmmbaaGreat.Mk.Me
