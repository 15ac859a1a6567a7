/- TopWhose returns true for every book and all numbers; no condition. TopWhose. TopWhose: what is true of the row and the marks. -/
import Derived.Test.YtlbolnlcncjijaaGreatTw08
import Derived.Test.YtlbolnlcncjijaaGreatGa16
import Derived.Test.YtlbolnlcncjijaaGreatGa17
import Derived.Test.YtlbolnlcncjijaaGreatTw04
namespace Go.Proofs.YtlbolnlcncjijaaGreat.Tp
open Go.RowKit
def ac14 : AC := (AC.seq (AC.ops [(AOp.mk (some 2) (AK.mv (AX.c (PV.val (Value.int IntKind.i64 0)))) none 0 false true)]) (AC.seq (AC.ops [(AOp.mk (some 3) (AK.mv (AX.c (PV.val (Value.int IntKind.i64 0)))) none 0 false true)]) (AC.seq (AC.seq (AC.ops [(AOp.mk (some 4) (AK.mv (AX.c (PV.val (Value.int IntKind.i64 0)))) none 0 false true)]) (AC.block 0 (AC.loop (AC.seq (AC.seq (AC.ops [(AOp.mk (some 5) (AK.mv (AX.t 4)) none 0 false true), (AOp.mk (some 6) (AK.mv (AX.t 0)) none 1 false true), (AOp.mk (some 7) (AK.len (AX.t 6)) none 2 false true), (AOp.mk (some 8) (AK.bin false BinOp.lss (AX.t 5) (AX.t 7)) none 3 false true)]) (AC.cond (AX.t 8) AC.skip (AC.exit 0))) (AC.seq (AC.block 1 (AC.ops [(AOp.mk (some 11) (AK.mv (AX.t 3)) none 0 false true), (AOp.mk (some 12) (AK.mv (AX.t 0)) none 1 false true), (AOp.mk (some 13) (AK.mv (AX.t 4)) none 2 false true), (AOp.mk (some 14) (AK.iadrS 1 (AX.t 12) (AX.t 13)) none 3 false true), (AOp.mk (some 15) (AK.ld none (AX.t 14)) none 4 false true), (AOp.mk (some 16) (AK.bin false BinOp.shl (AX.c (PV.val (Value.int IntKind.i64 1))) (AX.t 15)) none 5 false true), (AOp.mk (some 17) (AK.bin false BinOp.or (AX.t 11) (AX.t 16)) none 6 false true), (AOp.mk (some 3) (AK.mv (AX.t 17)) none 7 false true)])) (AC.ops [(AOp.mk (some 9) (AK.mv (AX.t 4)) none 0 false true), (AOp.mk (some 10) (AK.bin false BinOp.add (AX.t 9) (AX.c (PV.val (Value.int IntKind.i64 1)))) none 1 false true), (AOp.mk (some 4) (AK.mv (AX.t 10)) none 2 false true)])))))) (AC.seq (AC.ops [(AOp.mk (some 18) (AK.mv (AX.t 3)) none 0 false true), (AOp.mk (some 2) (AK.mv (AX.t 18)) none 1 false true)]) AC.ret))))
theorem ac14_ok : cCode Tryz.prog (fun _ => false) Tryz.f14.ntmps (Tryz.f14.body.getD .skip) = some ac14 := by kernel_rfl
def setOf (l : List Nat) : Nat := l.foldl (fun s m => s ||| 2 ^ m) 0
theorem setOf_bit (l : List Nat) (i : Nat) : (setOf l).testBit i = true ↔ i ∈ l := by
  unfold setOf
  rw [Mk.fold_or]
  constructor
  · rintro (h | ⟨t, ht, h⟩)
    · rw [Nat.zero_testBit] at h
      cases h
    · rw [Nat.testBit_two_pow, decide_eq_true_eq] at h
      rwa [← h]
  · exact fun h => .inr ⟨i, h, by rw [Nat.testBit_two_pow, decide_eq_true_eq]⟩
theorem setOf_lt {l : List Nat} (h : ∀ m ∈ l, m < 5) : setOf l < 2 ^ 5 := by
  refine Nat.lt_pow_two_of_testBit _ fun i hi => ?_
  rw [Bool.eq_false_iff]
  intro hb
  have := h i ((setOf_bit l i).1 hb)
  omega
theorem setOf_next {l : List Nat} {i : Nat} (h : i < l.length) : setOf (l.take (i + 1)) = setOf (l.take i) ||| 2 ^ l[i] := by
  unfold setOf
  rw [List.take_succ_eq_append_getElem h, List.foldl_append]
  rfl
theorem bin_orG {x y : Nat} (hx : x < 2 ^ 62) (hy : y < 2 ^ 62) : binS false .or (.p (pi x)) (.p (pi y)) = some (.p (pi ((x ||| y : Nat) : Int))) := by
  rw [bin_or]
  have h1 : x ||| y < 2 ^ 62 := Nat.or_lt_two_pow hx hy
  have e : (BitVec.ofInt 64 (x : Int) ||| BitVec.ofInt 64 (y : Int)).toNat = x ||| y := by
    rw [BitVec.ofInt_natCast, BitVec.ofInt_natCast, BitVec.toNat_or, BitVec.toNat_ofNat, BitVec.toNat_ofNat, Nat.mod_eq_of_lt (by omega), Nat.mod_eq_of_lt (by omega)]
  exact congrArg (fun n => some (AV.p (pi n))) (by rw [show ((BitVec.ofInt IntKind.i64.bits (x : Int) ||| BitVec.ofInt IntKind.i64.bits (y : Int)).toNat : Int) = ((x ||| y : Nat) : Int) from congrArg Nat.cast e]; exact wrap_id (by omega) (by omega))
theorem natL_length (l : List Nat) : (natL l).length = l.length := by simp [natL]
theorem Set_sem (k : SK) {l : List Nat} (h : ∀ m ∈ l, m < 5) (hl : l.length ≤ 1000) : Sem1 14 [.sl k 1 ((natL l).map fun x => [pi x])] (pi (setOf l)) := by
  refine semC_of_exec' mixed Tryz.func14 (by kernel_rfl) (by kernel_rfl) ac14_ok 1 rfl (by decide) [(.tmp 2)] (by kernel_rfl) ?_
  intro hr C hC hI
  unfold ac14
  simp only [go_sem]
  refine loop_k l.length (fun _ => True) [0] (fun i => [(3, .p (pi (setOf (l.take i)))), (4, .p (pi i))]) trivial rfl ⟨rfl, by simp, by simp⟩ (by simp [wkT, look, AV.lo, setOf]) ?_
  rintro i ⟨hi, -⟩
  simp only [go_sem, Nat.reduceBEq, List.length_map, natL_length]
  refine ⟨fun d5 => ?_, fun d5 => ?_⟩
  · have hi2 : i < l.length := by omega
    have hi3 : i < (natL l).length := by rw [natL_length]; exact hi2
    have hgi : (natL l)[i] = (l[i] : Int) := by simp [natL]
    have e1 := iadr_map (f := fun x : Int => [pi x]) (kd := k) (sz := 1) hi3
    rw [hgi] at e1
    have hm := h _ (List.getElem_mem hi2)
    have hn := setOf_next hi2
    obtain ⟨m, em⟩ : ∃ m, l[i] = m := ⟨_, rfl⟩
    rw [em] at e1 hm hn
    have hs := setOf_lt (l := l.take i) fun x hx => h x (List.mem_of_mem_take hx)
    have hp64 : 2 ^ m ≤ 64 := Nat.pow_le_pow_right (n := 2) (by decide) (show m ≤ 6 by omega)
    have hor : binS false .or (.p (pi (setOf (l.take i) : Nat))) (.p (pi (2 ^ m : Nat))) = some (.p (pi ((setOf (l.take i) ||| 2 ^ m : Nat) : Int))) := bin_orG (by omega) (by omega)
    simp only [go_sem, Nat.reduceBEq, e1, bin_shl (show ¬ (m : Int) < 0 by omega), Mk.shl6 (m := m) (by omega), hor, wrap_succ (k := i) (by omega)]
    refine ⟨⟨i + 1, hi2, trivial⟩, by simp only; omega, ?_⟩
    simp only [hn]
    simp [Wk, wkT, wkL, look, AV.lo]
  · have hin : i = l.length := by omega
    subst hin
    rw [List.take_length]
    exact retQ_one rfl rfl
theorem st_nK {b : DBook} (ho : okBook b) (l : List Int) : Mk.nK (stB b l) = nR b := by
  show (b.horses.getD 0 []).length = nR b
  exact (row_at ho (by have := ho.2.1; omega)).1
def P0 (b : DBook) : Mk.MBook := ⟨b.horses, [], 0, 0⟩
theorem st_exact (b : DBook) (l : List Int) : stB b l = Mk.exactB (P0 b) l := rfl
theorem p0_ok {b : DBook} (hs : smallB b) : Mk.okC (P0 b) := by
  have ho := hs.1
  have hk : Mk.nK (P0 b) = nR b := st_nK ho []
  obtain ⟨h1, h8, hn⟩ := okR ho
  have h6 := hs.2.1
  have hm1 := ho.2.1
  have hm5 := hs.2.2
  refine ⟨⟨by show 1 ≤ b.horses.length; omega, by show b.horses.length ≤ 5; omega⟩, ⟨by omega, by omega⟩, ?_, (fun m hm => by cases hm), ⟨by show (0 : Int) ≤ 0; omega, by show (0 : Int) ≤ _; omega⟩, by show (0 : Int) ≤ 0; omega, ?_⟩
  · intro r hr
    rw [hk]
    have H := ho.2.2 r hr
    exact ⟨by have := H.1; omega, fun x hx => ⟨(H.2 x hx).1, by have := (H.2 x hx).2; omega⟩⟩
  · show (0 : Int) ≤ 2 ^ Mk.nK (P0 b) - 1
    have : (1 : Int) ≤ 2 ^ Mk.nK (P0 b) := by
      have := Nat.two_pow_pos (Mk.nK (P0 b))
      exact_mod_cast this
    omega
def rowP (b : DBook) (l : List Int) : Prop := l.length = nR b ∧ ∀ x ∈ l, 0 ≤ x ∧ x ≤ 3
theorem rowP.five {b : DBook} {l : List Int} (h : rowP b l) : Mk.fiveL l := fun x hx => ⟨(h.2 x hx).1, by have := (h.2 x hx).2; omega⟩
theorem rowP.rot {b : DBook} {l : List Int} (h : rowP b l) (t : Nat) : rowP b (rotL l t) := by
  refine ⟨by rw [rotL_len]; exact h.1, fun x hx => ?_⟩
  obtain ⟨p, hp, rfl⟩ := List.mem_map.1 hx
  have hm : (p + t) % l.length < l.length := Nat.mod_lt _ (by have := List.mem_range.1 hp; omega)
  rw [List.getD_eq_getElem?_getD, List.getElem?_eq_getElem hm]
  exact h.2 _ (List.getElem_mem hm)
theorem has_natT : ∀ i : Fin 15, ∀ s : Fin 4, hasS ((i.val : Int) + 1) s.val = (i.val + 1).testBit s.val := by decide
theorem has_nat {x : Int} (hx : setB x) {s : Nat} (hs : s < 4) : hasS x s = x.toNat.testBit s := by
  obtain ⟨i, rfl⟩ := setB_cases hx
  rw [show ((i.val : Int) + 1).toNat = i.val + 1 by omega]
  exact has_natT i ⟨s, hs⟩
theorem row_lt {b : DBook} {l : List Int} (h : rowP b l) (k : Nat) : (l.getD k 0).toNat < 4 := by
  rw [List.getD_eq_getElem?_getD]
  by_cases hk : k < l.length
  · rw [List.getElem?_eq_getElem hk]
    have := h.2 _ (List.getElem_mem hk)
    show l[k].toNat < 4
    omega
  · rw [List.getElem?_eq_none (by omega)]
    decide
theorem st_who {b : DBook} (hs : smallB b) {l : List Int} (hl : rowP b l) {m : Nat} : m ∈ Mk.whoL (stB b l) ↔ m < b.horses.length ∧ ∀ k, k < nR b → hasS (hsI b m k) (l.getD k 0).toNat = true := by
  have ho := hs.1
  have hk : Mk.nK (P0 b) = nR b := st_nK ho []
  rw [Mk.mem_who, st_exact, Mk.poss_exact hl.five (hl.1.trans hk.symm), hk]
  refine and_congr_right fun hm => ?_
  have hb : ∀ k, k < nR b → hasS (hsI b m k) (l.getD k 0).toNat = (Mk.mkN (P0 b) m k).testBit (Mk.exV l k) := fun k hk2 => has_nat (hs_set ho hm hk2) (row_lt hl k)
  constructor
  · rintro ⟨-, h2⟩ k hk2
    have h0 : ((List.range (nR b)).filter fun k => !(Mk.mkN (P0 b) m k).testBit (Mk.exV l k)).length = 0 := by
      have : (((List.range (nR b)).filter fun k => !(Mk.mkN (P0 b) m k).testBit (Mk.exV l k)).length : Int) ≤ 0 := h2
      omega
    rw [List.length_eq_zero_iff, List.filter_eq_nil_iff] at h0
    rw [hb k hk2]
    simpa using h0 k (List.mem_range.2 hk2)
  · intro H
    refine ⟨fun k hk2 hf => ?_, ?_⟩
    · have := H k hk2
      rw [hb k hk2, hf] at this
      cases this
    · have h0 : ((List.range (nR b)).filter fun k => !(Mk.mkN (P0 b) m k).testBit (Mk.exV l k)).length = 0 := by
        rw [List.length_eq_zero_iff, List.filter_eq_nil_iff]
        intro k hk2
        rw [← hb k (List.mem_range.1 hk2), H k (List.mem_range.1 hk2)]
        decide
      rw [h0]
      show ((0 : Nat) : Int) ≤ 0
      omega
theorem st_err {b : DBook} (hs : smallB b) {l : List Int} (hl : rowP b l) : Mk.errR (stB b l) true = 0 := by
  have ho := hs.1
  have hk : Mk.nK (P0 b) = nR b := st_nK ho []
  have h6 := hs.2.1
  have hn := (okR ho).2.2
  have hbk : Mk.okBook (stB b l) := by
    obtain ⟨h1, h2, h3, h4, h5, h7⟩ := p0_ok hs
    refine ⟨⟨h1, h2, h3, ?_, h5, h7⟩, by show (Mk.exL l l.length).length ≤ 8; rw [Mk.exL_len, hl.1]; omega⟩
    intro m hm
    obtain ⟨k, hk2, rfl⟩ := List.mem_map.1 hm
    have hw := Mk.ex_five hl.five k
    have hkk := List.mem_range.1 hk2
    have : 2 ^ Mk.exV l k ≤ 2 ^ 4 := Nat.pow_le_pow_right (by decide) (by omega)
    have h0 := Nat.two_pow_pos (Mk.exV l k)
    have hcast : ((2 ^ Mk.exV l k : Nat) : Int) = (2 : Int) ^ Mk.exV l k := by norm_cast
    have hnk : Mk.nK (stB b l) = nR b := st_nK ho l
    refine ⟨⟨by show (0 : Int) ≤ (k : Int); omega, by show (k : Int) < (Mk.nK (stB b l) : Int); rw [hnk, ← hl.1]; omega⟩, by show (1 : Int) ≤ 2 ^ Mk.exV l k; omega, by show (2 : Int) ^ Mk.exV l k ≤ 31; omega⟩
  have hr : Mk.rightB (stB b l) = true := Mk.exact_right (b := P0 b) hl.five (hl.1.trans hk.symm)
  unfold Mk.errR
  rw [if_pos hbk, if_pos rfl, if_pos hr]
theorem key_turn {b : DBook} (ho : okBook b) {h : Nat} {l : List Int} (hl : rowP b l) : (∃ t, t < nR b ∧ hasR b h t l) ↔ ∃ t, t < nR b ∧ ∀ k, k < nR b → hasS (hsI b h k) ((rotL l t).getD k 0).toNat = true := by
  have h1 := (okR ho).1
  have hg : ∀ t k, k < nR b → (rotL l t).getD k 0 = l.getD ((k + t) % nR b) 0 := fun t k hk => by
    have hk2 : k < (rotL l t).length := by rw [rotL_len, hl.1]; exact hk
    rw [List.getD_eq_getElem?_getD (l := rotL l t), List.getElem?_eq_getElem hk2]
    simp [rotL, hl.1]
  constructor
  · rintro ⟨t, ht, H⟩
    refine ⟨backT (nR b) t, back_lt h1, fun k hk => ?_⟩
    rw [hg _ k hk]
    have hb := back_mod (r := nR b) (t := backT (nR b) t) (q := k) (back_lt h1) hk
    rw [back_back ht] at hb
    have := H ((k + backT (nR b) t) % nR b) (Nat.mod_lt _ (by omega))
    rwa [rowI_hs, hb] at this
  · rintro ⟨t, ht, H⟩
    refine ⟨backT (nR b) t, back_lt h1, fun p hp => ?_⟩
    rw [rowI_hs]
    have hb := back_mod (r := nR b) (t := backT (nR b) t) (q := p) (back_lt h1) hp
    rw [back_back ht] at hb
    have hlt : (p + backT (nR b) t) % nR b < nR b := Nat.mod_lt _ (by omega)
    have := H _ hlt
    rwa [hg _ _ hlt, hb] at this
def someN (b : DBook) (l : List Int) (j : Nat) : Nat := (List.range j).foldl (fun s t => s ||| setOf (Mk.whoL (stB b (rotL l t)))) 0
theorem some_next (b : DBook) (l : List Int) (j : Nat) : someN b l (j + 1) = someN b l j ||| setOf (Mk.whoL (stB b (rotL l j))) := by
  unfold someN
  rw [List.range_succ, List.foldl_append]
  rfl
theorem some_bit {b : DBook} {l : List Int} {j i : Nat} : (someN b l j).testBit i = true ↔ ∃ t, t < j ∧ i ∈ Mk.whoL (stB b (rotL l t)) := by
  unfold someN
  rw [Mk.fold_or]
  constructor
  · rintro (h | ⟨t, ht, h⟩)
    · rw [Nat.zero_testBit] at h
      cases h
    · exact ⟨t, List.mem_range.1 ht, (setOf_bit _ _).1 h⟩
  · rintro ⟨t, ht, h⟩
    exact .inr ⟨t, List.mem_range.2 ht, (setOf_bit _ _).2 h⟩
theorem who_5 {b : DBook} (hs : smallB b) {l : List Int} {m : Nat} (h : m ∈ Mk.whoL (stB b l)) : m < 5 := by
  have h5 := hs.2.2
  have : m < b.horses.length := (Mk.mem_who.1 h).1
  omega
theorem some_lt {b : DBook} (hs : smallB b) (l : List Int) (j : Nat) : someN b l j < 2 ^ 5 := by
  refine Nat.lt_pow_two_of_testBit _ fun i hi => ?_
  rw [Bool.eq_false_iff]
  intro hb
  obtain ⟨t, -, ht⟩ := some_bit.1 hb
  have := who_5 hs ht
  omega
theorem known_row {b : DBook} (hs : smallB b) {l : List Int} (hl : rowP b l) {h : Nat} : (h < b.horses.length ∧ whoseP b (knownN l) h = true) ↔ ∃ t, t < nR b ∧ h ∈ Mk.whoL (stB b (rotL l t)) := by
  rw [whose_iff hs.1 hl.1, key_turn hs.1 hl]
  constructor
  · rintro ⟨hh, t, ht, H⟩
    exact ⟨t, ht, (st_who hs (hl.rot t)).2 ⟨hh, H⟩⟩
  · rintro ⟨t, ht, H⟩
    obtain ⟨hh, H2⟩ := (st_who hs (hl.rot t)).1 H
    exact ⟨hh, t, ht, H2⟩
theorem some_list {b : DBook} (hs : smallB b) {l : List Int} (hl : rowP b l) : listI (someN b l (nR b) : Nat) b.horses.length = natL (whoseI b (knownN l)) := by
  have h5 := hs.2.2
  unfold listI natL whoseI
  refine congrArg _ (List.filter_congr fun i hi => ?_)
  have hh := List.mem_range.1 hi
  rw [Ls.of_bit (by omega), Bool.eq_iff_iff, some_bit, ← known_row hs hl]
  exact ⟨fun h => h.2, fun h => ⟨hh, h⟩⟩
theorem fresh_none {b : DBook} (hs : smallB b) {z : List Int} (hz : rowP b z) (h0 : whoseI b (knownN z) = []) {t : Nat} (ht : t < nR b) : Mk.whoL (stB b (rotL z t)) = [] := by
  refine List.eq_nil_iff_forall_not_mem.2 fun m hm => ?_
  have := mem_whose.2 ((known_row hs hz).2 ⟨t, ht, hm⟩)
  rw [h0] at this
  cases this
theorem whoL_grows {b : DBook} (hs : smallB b) (l : List Int) : growsI (natL (Mk.whoL (stB b l))) b.horses.length := by
  have h5 := hs.2.2
  obtain ⟨s, -, hsb⟩ := Ls.bits_ex (Mk.possB (stB b l)) b.horses.length
  have e : natL (Mk.whoL (stB b l)) = listI (s : Nat) b.horses.length := by
    show natL ((List.range b.horses.length).filter (Mk.possB (stB b l))) = _
    unfold natL listI
    refine congrArg _ (List.filter_congr fun i hi => ?_)
    have := List.mem_range.1 hi
    rw [Ls.of_bit (by omega), hsb i this]
  rw [e]
  exact Ls.grows_list _ _
end Go.Proofs.YtlbolnlcncjijaaGreat.Tp
namespace Go.Proofs.YtlbolnlcncjijaaGreat.Tp
open Go.RowKit
def ac3 : AC := (AC.seq (AC.ops [(AOp.mk (some 2) (AK.box 2 (AX.t 0)) none 0 false true), (AOp.mk (some 4) (AK.mv (AX.c (PV.val (Value.bool false)))) none 1 false true)]) (AC.seq (AC.seq (AC.ops [(AOp.mk (some 17) (AK.ld (some 2) (AX.t 2)) none 0 false true), (AOp.mk (some 18) (AK.call 4 [(AX.t 17)]) none 1 false true), (AOp.mk (some 19) (AK.un UnOp.not (AX.t 18)) none 2 false true)]) (AC.cond (AX.t 19) (AC.seq (AC.ops [(AOp.mk (some 20) (AK.call 5 []) none 0 false true), (AOp.mk (some 4) (AK.mv (AX.t 20)) none 1 false true)]) AC.ret) AC.skip)) (AC.seq (AC.ops [(AOp.mk (some 21) (AK.bslice false 3 1 0 [(PV.val (Value.int IntKind.i64 0))] []) none 0 false true), (AOp.mk (some 5) (AK.mv (AX.t 21)) none 1 false true)]) (AC.seq (AC.seq (AC.ops [(AOp.mk (some 6) (AK.mv (AX.c (PV.val (Value.int IntKind.i64 0)))) none 0 false true)]) (AC.block 0 (AC.loop (AC.seq (AC.seq (AC.ops [(AOp.mk (some 22) (AK.mv (AX.t 6)) none 0 false true), (AOp.mk (some 23) (AK.fadr 0 (AX.t 2)) none 1 false true), (AOp.mk (some 24) (AK.ld none (AX.t 23)) none 2 false true), (AOp.mk (some 25) (AK.bin false BinOp.lss (AX.t 22) (AX.t 24)) none 3 false true)]) (AC.cond (AX.t 25) AC.skip (AC.exit 0))) (AC.seq (AC.block 1 (AC.ops [(AOp.mk (some 28) (AK.mv (AX.t 5)) none 0 false true), (AOp.mk (some 29) (AK.mv (AX.t 1)) none 1 false true), (AOp.mk (some 30) (AK.mv (AX.t 6)) none 2 false true), (AOp.mk (some 31) (AK.call 7 [(AX.t 29), (AX.t 30)]) none 3 false true), (AOp.mk (some 32) (AK.mv (AX.t 6)) none 4 false true), (AOp.mk (some 33) (AK.mv (AX.t 1)) none 5 false true), (AOp.mk (some 34) (AK.call 7 [(AX.t 33), (AX.c (PV.val (Value.int IntKind.i64 1)))]) none 6 false true), (AOp.mk (some 35) (AK.bin false BinOp.mul (AX.t 32) (AX.t 34)) none 7 false true), (AOp.mk (some 36) (AK.bin false BinOp.add (AX.t 31) (AX.t 35)) none 8 false true), (AOp.mk (some 37) (AK.call 6 [(AX.t 36), (AX.c (PV.val (Value.int IntKind.i64 4)))]) none 9 false true), (AOp.mk (some 38) (AK.bslice false 3 1 1 [(PV.val (Value.int IntKind.i64 0))] [(0, (1, (AX.t 37)))]) none 10 false true), (AOp.mk (some 39) (AK.app false 3 1 8 [(PV.val (Value.int IntKind.i64 0))] (AX.t 28) (AX.t 38)) none 11 false true), (AOp.mk (some 5) (AK.mv (AX.t 39)) none 12 false true)])) (AC.ops [(AOp.mk (some 26) (AK.mv (AX.t 6)) none 0 false true), (AOp.mk (some 27) (AK.bin false BinOp.add (AX.t 26) (AX.c (PV.val (Value.int IntKind.i64 1)))) none 1 false true), (AOp.mk (some 6) (AK.mv (AX.t 27)) none 2 false true)])))))) (AC.seq (AC.ops [(AOp.mk (some 41) (AK.ld (some 2) (AX.t 2)) none 0 false true), (AOp.mk (some 42) (AK.call 8 [(AX.t 41)]) none 1 false true), (AOp.mk (some 40) (AK.mv (AX.t 42)) none 2 false true), (AOp.mk (some 43) (AK.ext (AX.t 40) 0) none 3 false true), (AOp.mk (some 44) (AK.ext (AX.t 40) 1) none 4 false true), (AOp.mk (some 7) (AK.mv (AX.t 43)) none 5 false true), (AOp.mk (some 8) (AK.mv (AX.t 44)) none 6 false true)]) (AC.seq (AC.seq (AC.ops [(AOp.mk (some 45) (AK.mv (AX.t 8)) none 0 false true), (AOp.mk (some 46) (AK.bin false BinOp.neq (AX.t 45) (AX.c (PV.val (Value.int IntKind.i64 0)))) none 1 false true), (AOp.mk (some 47) (AK.mv (AX.t 46)) none 2 false true), (AOp.mk (some 48) (AK.mv (AX.t 8)) (some (47, true)) 3 false true), (AOp.mk (some 49) (AK.bin false BinOp.neq (AX.t 48) (AX.c (PV.val (Value.int IntKind.i64 4)))) (some (47, true)) 4 false true), (AOp.mk (some 50) (AK.pick (AX.t 47) (AX.t 49) (AX.c (PV.val (Value.bool false)))) none 5 false true), (AOp.mk (some 51) (AK.mv (AX.t 50)) none 6 false true), (AOp.mk (some 52) (AK.mv (AX.t 8)) (some (51, false)) 7 false true), (AOp.mk (some 53) (AK.bin false BinOp.eql (AX.t 52) (AX.c (PV.val (Value.int IntKind.i64 0)))) (some (51, false)) 8 false true), (AOp.mk (some 54) (AK.mv (AX.t 53)) (some (51, false)) 9 false true), (AOp.mk (some 55) (AK.mv (AX.t 7)) (some (54, true)) 10 false true), (AOp.mk (some 56) (AK.len (AX.t 55)) (some (54, true)) 11 false true), (AOp.mk (some 57) (AK.fadr 0 (AX.t 2)) (some (54, true)) 12 false true), (AOp.mk (some 58) (AK.ld none (AX.t 57)) (some (54, true)) 13 false true), (AOp.mk (some 59) (AK.bin false BinOp.neq (AX.t 56) (AX.t 58)) (some (54, true)) 14 false true), (AOp.mk (some 60) (AK.pick (AX.t 54) (AX.t 59) (AX.c (PV.val (Value.bool false)))) (some (51, false)) 15 false true), (AOp.mk (some 61) (AK.pick (AX.t 51) (AX.c (PV.val (Value.bool true))) (AX.t 60)) none 16 false true)]) (AC.cond (AX.t 61) (AC.seq (AC.ops [(AOp.mk (some 4) (AK.mv (AX.c (PV.val (Value.bool false)))) none 0 false true)]) AC.ret) AC.skip)) (AC.seq (AC.ops [(AOp.mk (some 63) (AK.ld (some 2) (AX.t 2)) none 0 false true), (AOp.mk (some 64) (AK.mv (AX.t 5)) none 1 false true), (AOp.mk (some 65) (AK.call 9 [(AX.t 63), (AX.t 64)]) none 2 false true), (AOp.mk (some 62) (AK.mv (AX.t 65)) none 3 false true), (AOp.mk (some 66) (AK.ext (AX.t 62) 0) none 4 false true), (AOp.mk (some 67) (AK.ext (AX.t 62) 1) none 5 false true), (AOp.mk (some 9) (AK.mv (AX.t 66)) none 6 false true), (AOp.mk (some 10) (AK.mv (AX.t 67)) none 7 false true)]) (AC.seq (AC.ops [(AOp.mk (some 11) (AK.mv (AX.c (PV.val (Value.int IntKind.i64 0)))) none 0 false true)]) (AC.seq (AC.seq (AC.ops [(AOp.mk (some 12) (AK.mv (AX.c (PV.val (Value.int IntKind.i64 0)))) none 0 false true)]) (AC.block 2 (AC.loop (AC.seq (AC.seq (AC.ops [(AOp.mk (some 68) (AK.mv (AX.t 12)) none 0 false true), (AOp.mk (some 69) (AK.fadr 0 (AX.t 2)) none 1 false true), (AOp.mk (some 70) (AK.ld none (AX.t 69)) none 2 false true), (AOp.mk (some 71) (AK.bin false BinOp.lss (AX.t 68) (AX.t 70)) none 3 false true)]) (AC.cond (AX.t 71) AC.skip (AC.exit 2))) (AC.seq (AC.block 3 (AC.seq (AC.ops [(AOp.mk (some 75) (AK.ld (some 2) (AX.t 2)) none 0 true false), (AOp.mk (some 76) (AK.mv (AX.t 5)) none 1 true false), (AOp.mk (some 77) (AK.mv (AX.t 12)) none 2 true false), (AOp.mk (some 78) (AK.call 12 [(AX.t 76), (AX.t 77)]) none 3 false false), (AOp.mk (some 79) (AK.call 11 [(AX.t 75), (AX.t 78)]) none 4 false true), (AOp.mk (some 80) (AK.call 10 [(AX.t 79)]) none 5 false true), (AOp.mk (some 74) (AK.mv (AX.t 80)) none 6 true true), (AOp.mk (some 81) (AK.ext (AX.t 74) 0) none 7 true false), (AOp.mk (some 82) (AK.ext (AX.t 74) 1) none 8 true false), (AOp.mk (some 13) (AK.mv (AX.t 81)) none 9 true false), (AOp.mk (some 14) (AK.mv (AX.t 82)) none 10 true true)]) (AC.seq (AC.seq (AC.ops [(AOp.mk (some 83) (AK.mv (AX.t 14)) none 0 false true), (AOp.mk (some 84) (AK.bin false BinOp.neq (AX.t 83) (AX.c (PV.val (Value.int IntKind.i64 0)))) none 1 false true), (AOp.mk (some 85) (AK.mv (AX.t 84)) none 2 false true), (AOp.mk (some 86) (AK.mv (AX.t 13)) (some (85, false)) 3 false true), (AOp.mk (some 87) (AK.fadr 1 (AX.t 2)) (some (85, false)) 4 false true), (AOp.mk (some 88) (AK.ld none (AX.t 87)) (some (85, false)) 5 false true), (AOp.mk (some 89) (AK.len (AX.t 88)) (some (85, false)) 6 false true), (AOp.mk (some 90) (AK.call 13 [(AX.t 86), (AX.t 89)]) (some (85, false)) 7 false true), (AOp.mk (some 91) (AK.un UnOp.not (AX.t 90)) (some (85, false)) 8 false true), (AOp.mk (some 92) (AK.pick (AX.t 85) (AX.c (PV.val (Value.bool true))) (AX.t 91)) none 9 false true)]) (AC.cond (AX.t 92) (AC.seq (AC.ops [(AOp.mk (some 4) (AK.mv (AX.c (PV.val (Value.bool false)))) none 0 false true)]) AC.ret) AC.skip)) (AC.seq (AC.ops [(AOp.mk (some 93) (AK.mv (AX.t 11)) none 0 false true), (AOp.mk (some 94) (AK.mv (AX.t 13)) none 1 false true), (AOp.mk (some 95) (AK.call 14 [(AX.t 94)]) none 2 false true), (AOp.mk (some 96) (AK.bin false BinOp.or (AX.t 93) (AX.t 95)) none 3 false true), (AOp.mk (some 11) (AK.mv (AX.t 96)) none 4 false true)]) (AC.seq (AC.seq (AC.ops [(AOp.mk (some 97) (AK.mv (AX.t 8)) none 0 false true), (AOp.mk (some 98) (AK.bin false BinOp.neq (AX.t 97) (AX.c (PV.val (Value.int IntKind.i64 0)))) none 1 false true)]) (AC.cond (AX.t 98) (AC.exit 3) AC.skip)) (AC.seq (AC.ops [(AOp.mk (some 100) (AK.ld (some 2) (AX.t 2)) none 0 true false), (AOp.mk (some 101) (AK.mv (AX.t 7)) none 1 true false), (AOp.mk (some 102) (AK.mv (AX.t 12)) none 2 true false), (AOp.mk (some 103) (AK.call 12 [(AX.t 101), (AX.t 102)]) none 3 false false), (AOp.mk (some 104) (AK.call 11 [(AX.t 100), (AX.t 103)]) none 4 false true), (AOp.mk (some 105) (AK.call 10 [(AX.t 104)]) none 5 false true), (AOp.mk (some 99) (AK.mv (AX.t 105)) none 6 true true), (AOp.mk (some 106) (AK.ext (AX.t 99) 0) none 7 true false), (AOp.mk (some 107) (AK.ext (AX.t 99) 1) none 8 true false), (AOp.mk (some 15) (AK.mv (AX.t 106)) none 9 true false), (AOp.mk (some 16) (AK.mv (AX.t 107)) none 10 true true)]) (AC.seq (AC.ops [(AOp.mk (some 108) (AK.mv (AX.t 16)) none 0 false true), (AOp.mk (some 109) (AK.bin false BinOp.neq (AX.t 108) (AX.c (PV.val (Value.int IntKind.i64 0)))) none 1 false true), (AOp.mk (some 110) (AK.mv (AX.t 109)) none 2 false true), (AOp.mk (some 111) (AK.mv (AX.t 15)) (some (110, false)) 3 false true), (AOp.mk (some 112) (AK.len (AX.t 111)) (some (110, false)) 4 false true), (AOp.mk (some 113) (AK.bin false BinOp.neq (AX.t 112) (AX.c (PV.val (Value.int IntKind.i64 0)))) (some (110, false)) 5 false true), (AOp.mk (some 114) (AK.pick (AX.t 110) (AX.c (PV.val (Value.bool true))) (AX.t 113)) none 6 false true)]) (AC.cond (AX.t 114) (AC.seq (AC.ops [(AOp.mk (some 4) (AK.mv (AX.c (PV.val (Value.bool false)))) none 0 false true)]) AC.ret) AC.skip)))))))) (AC.ops [(AOp.mk (some 72) (AK.mv (AX.t 12)) none 0 false true), (AOp.mk (some 73) (AK.bin false BinOp.add (AX.t 72) (AX.c (PV.val (Value.int IntKind.i64 1)))) none 1 false true), (AOp.mk (some 12) (AK.mv (AX.t 73)) none 2 false true)])))))) (AC.seq (AC.ops [(AOp.mk (some 115) (AK.mv (AX.t 10)) none 0 false true), (AOp.mk (some 116) (AK.bin false BinOp.eql (AX.t 115) (AX.c (PV.val (Value.int IntKind.i64 0)))) none 1 false true), (AOp.mk (some 117) (AK.mv (AX.t 116)) none 2 false true), (AOp.mk (some 118) (AK.mv (AX.t 9)) (some (117, true)) 3 false true), (AOp.mk (some 119) (AK.mv (AX.t 11)) (some (117, true)) 4 false true), (AOp.mk (some 120) (AK.fadr 1 (AX.t 2)) (some (117, true)) 5 false true), (AOp.mk (some 121) (AK.ld none (AX.t 120)) (some (117, true)) 6 false true), (AOp.mk (some 122) (AK.len (AX.t 121)) (some (117, true)) 7 false true), (AOp.mk (some 123) (AK.call 16 [(AX.t 119), (AX.t 122)]) (some (117, true)) 8 false true), (AOp.mk (some 124) (AK.call 15 [(AX.t 118), (AX.t 123)]) (some (117, true)) 9 false true), (AOp.mk (some 125) (AK.pick (AX.t 117) (AX.t 124) (AX.c (PV.val (Value.bool false)))) none 10 false true), (AOp.mk (some 126) (AK.mv (AX.t 125)) none 11 false true), (AOp.mk (some 127) (AK.call 5 []) (some (126, true)) 12 false true), (AOp.mk (some 128) (AK.pick (AX.t 126) (AX.t 127) (AX.c (PV.val (Value.bool false)))) none 13 false true), (AOp.mk (some 4) (AK.mv (AX.t 128)) none 14 false true)]) AC.ret))))))))))
theorem ac3_ok : cCode Tryz.prog (fun _ => false) Tryz.f3.ntmps (Tryz.f3.body.getD .skip) = some ac3 := by kernel_rfl
def sizeW (bits : List Int) (p : Nat) : Int := rndI (IntKind.i64.wrap (takeL bits p + IntKind.i64.wrap ((p : Int) * takeL bits 1))) 4
def rowW (bits : List Int) (j : Nat) : List Int := (List.range j).map (sizeW bits)
theorem rowW_len (bits : List Int) (j : Nat) : (rowW bits j).length = j := by simp [rowW]
theorem rowW_next (bits : List Int) (j : Nat) : (rowW bits (j + 1)).map (fun x => [pi x]) = (rowW bits j).map (fun x => [pi x]) ++ [[pi (sizeW bits j)]] := by
  unfold rowW
  rw [List.range_succ, List.map_append, List.map_append]
  rfl
theorem rowW_row (b : DBook) (bits : List Int) : rowP b (rowW bits (nR b)) := by
  refine ⟨rowW_len _ _, fun x hx => ?_⟩
  obtain ⟨p, -, rfl⟩ := List.mem_map.1 hx
  have := rndI_range (n := IntKind.i64.wrap (takeL bits p + IntKind.i64.wrap ((p : Int) * takeL bits 1))) (m := 4) (by decide)
  unfold sizeW
  omega
set_option maxRecDepth 100000 in
theorem ty_dbook {l : List PV} (h : Ty Tryz.prog 10 24 l) : ∃ b, l = bookC .sh b := by
  obtain ⟨a0, r0, rfl, h0, a1, r1, rfl, h1, rfl⟩ := tyStruct Tryz.underlying24 h
  obtain ⟨es, rfl, -, g1⟩ := tySlice Tryz.underlying22 h1
  obtain ⟨hs, rfl⟩ := list_map_ex (f := fun h : List Int => [pis h]) fun y hy => Mk.ty_ints (g1 y hy).2
  obtain ⟨n0, rfl⟩ := tyInt Mk.uInt h0
  exact ⟨⟨n0, hs⟩, rfl⟩
set_option maxRecDepth 20000 in
set_option maxHeartbeats 4000000 in
theorem Whose_law (k : SK) (b : DBook) (bits : List Int) : Sem1 3 [.agg (bookC k b), pis bits] (pb true) := by
  by_cases hs : smallB b
  rotate_left
  · refine semC_of_exec' mixed Tryz.func3 (by kernel_rfl) (by kernel_rfl) ac3_ok 2 rfl (by decide) [(.tmp 4)] (by kernel_rfl) ?_
    intro hr C hC hI
    unfold ac3
    simp only [go_sem, Nat.reduceBEq, Nat.reduceAdd]
    refine call_pure2 hC (small_sem k b) rfl (PVleL_refl _) ?_
    rintro r rfl
    simp only [go_sem, Nat.reduceBEq, decide_eq_false hs]
    refine call_pure2 hC (told_sem) rfl (PVleL_refl _) ?_
    rintro r rfl
    simp only [go_sem, Nat.reduceBEq]
    exact retQ_one rfl rfl
  have ho := hs.1
  obtain ⟨h1, h8, hn⟩ := okR ho
  have h6 := hs.2.1
  have h5 := hs.2.2
  have hrow := rowW_row b bits
  have hrl := hrow.1
  have dWh : Sem1 9 [.agg (bookC k b), pis (rowW bits (nR b))] (.tup [pis (natL (whoseI b (knownN (rowW bits (nR b))))), pi 0]) := (Whose_sem k b (rowW bits (nR b))).mono fun _ e => e.trans (by
    have e0 : errI b (decide (okRow b (rowW bits (nR b)))) = 0 := by
      unfold errI
      rw [if_pos ho, if_pos]
      exact decide_eq_true ⟨by omega, hrow.2⟩
    rw [if_pos e0])
  have dW : ∀ l, rowP b l → Sem1 10 [.agg (Mk.bookC k .sh (stB b l))] (.tup [pis (natL (Mk.whoL (stB b l))), pi 0]) := fun l hl => (Mk.Who_sem k .sh (stB b l)).mono fun _ e => e.trans (by rw [if_pos (st_err hs hl)]; rfl)
  refine semC_of_exec' mixed Tryz.func3 (by kernel_rfl) (by kernel_rfl) ac3_ok 2 rfl (by decide) [(.tmp 4)] (by kernel_rfl) ?_
  intro hr C hC hI
  unfold ac3
  simp only [go_sem, Nat.reduceBEq, Nat.reduceAdd]
  refine call_pure2 hC (small_sem k b) rfl (PVleL_refl _) ?_
  rintro r rfl
  simp only [go_sem, Nat.reduceBEq, decide_eq_true hs]
  refine loop_g (α := Nat × Option Nat) (fun a => a.1 ≤ nR b ∧ (a.2 = none → (rowW bits a.1).map (fun x => [pi x]) = [])) (fun a => nR b - a.1) [1, 2] (fun a => [(5, .p (slG 3 a.2 ((rowW bits a.1).map fun x => [pi x]))), (6, .p (pi a.1))]) (fun a => [.cells [.p (pi b.round), .p (.sl k 1 (rowsC b.horses))]]) (fun a => a.2.toList) (0, none) ⟨by omega, fun _ => rfl⟩ (by simp [Wk, wkT, wkL, look, AV.lo, AV.lo.loL, ABlk.toZ, upS_eq, keepS_nil, keepS_cons, slG]) ?_
  rintro ⟨i, o⟩ ⟨hi, h0⟩
  replace hi : i ≤ nR b := hi
  replace h0 : o = none → (rowW bits i).map (fun x => [pi x]) = [] := h0
  simp only [go_sem, Nat.reduceBEq, Nat.reduceAdd]
  refine ⟨fun d6 => ?_, fun d6 => ?_⟩
  · have hi2 : i < nR b := by omega
    have hnx := rowW_next bits i
    refine call_pure2 hC (Take_sem bits i) rfl (PVleL_refl _) ?_
    rintro r rfl
    simp only [go_sem, Nat.reduceBEq]
    refine call_pure2 hC (Take_sem bits 1) rfl (PVleL_refl _) ?_
    rintro r rfl
    simp only [go_sem, Nat.reduceBEq]
    refine call_pure2 hC (Round_sem (IntKind.i64.wrap (takeL bits i + IntKind.i64.wrap ((i : Int) * takeL bits 1))) 4) rfl (PVleL_refl _) ?_
    rintro r rfl
    simp only [go_sem, Nat.reduceBEq]
    refine app_slG h0 (by rw [List.length_map, rowW_len]; omega) (by simp) fun tk htk => ?_
    simp only [go_sem, Nat.reduceBEq, wrap_succ (k := i) (by omega)]
    refine ⟨⟨(i + 1, some tk), hi2, (fun h => by cases h)⟩, by simp only; omega, ?_⟩
    simp only [hnx]
    simp [Wk, wkT, wkL, look, AV.lo, AV.lo.loL, ABlk.toZ, sizeW]
  have hin : i = nR b := by omega
  subst hin
  have hv5 := slG_le (e := 3) h0
  obtain ⟨row, er⟩ : ∃ row, rowW bits (nR b) = row := ⟨_, rfl⟩
  simp only [er]
  rw [er] at hrow hrl dWh hv5
  obtain ⟨v5, ev⟩ : ∃ v5, slG 3 o (row.map fun x => [pi x]) = v5 := ⟨_, rfl⟩
  simp only [ev]
  rw [ev] at hv5
  have hnd : o.toList.Nodup := by cases o <;> simp
  rcases hF : freeL b with _ | ⟨z, zs⟩
  · have dN : Sem1 8 [.agg (bookC k b)] (.tup [pis [], pi 4]) := (New_sem k b).mono fun _ e => e.trans (by unfold newR; rw [if_pos ho, hF])
    refine call_pure2 hC (dN) rfl (PVleL_refl _) ?_
    rintro r rfl
    simp only [go_sem, Nat.reduceBEq, Nat.reduceAdd, decide_true, decide_false, not_true_eq_false, not_false_eq_true, Int.reduceEq]
    refine call_pure2 hC dWh rfl ⟨PVle.refl _, hv5, trivial⟩ ?_
    rintro _ rfl
    simp only [go_sem, Nat.reduceBEq]
    refine loop_k (nR b) (fun _ => True) [2, 5, 7, 8, 9, 10] (fun j => [(11, .p (pi (someN b row j : Nat))), (12, .p (pi j))]) trivial rfl ⟨rfl, by simp [hnd], by simp []⟩ (by simp [wkT, look, AV.lo, someN]) ?_
    rintro j ⟨hj, -⟩
    have hsj := some_lt hs row j
    have hn1 := some_next b row j
    obtain ⟨N, hN⟩ : ∃ N, someN b row j = N := ⟨_, rfl⟩
    simp only [hN]
    rw [hN] at hsj hn1
    simp only [go_sem, Nat.reduceBEq, Nat.reduceAdd]
    refine ⟨fun d5 => ?_, fun d5 => ?_⟩
    · have hj2 : j < nR b := by omega
      have hrt := hrow.rot j
      refine call_pure2 hC (turned_sem row j (by omega) (by omega)) rfl ⟨hv5, PVle.refl _, trivial⟩ ?_
      rintro _ rfl
      simp only [go_sem, Nat.reduceBEq]
      refine call_pure2 hC (stable_sem k b (rotL row j) hrt.five (by rw [rotL_len]; omega)) rfl (PVleL_refl _) ?_
      rintro _ rfl
      simp only [go_sem, Nat.reduceBEq]
      refine call_pure2 hC (dW (rotL row j) hrt) rfl (PVleL_refl _) ?_
      rintro _ rfl
      simp only [go_sem, Nat.reduceBEq, List.length_map, decide_false, not_true_eq_false]
      refine call_pure2 hC (Grows_sem (natL (Mk.whoL (stB b (rotL row j)))) (b.horses.length : Int)) rfl (PVleL_refl _) ?_
      rintro _ ⟨gg, rfl, hg⟩
      rw [hg.2 (whoL_grows hs _)]
      simp only [go_sem, Nat.reduceBEq]
      have hsl := setOf_lt (l := Mk.whoL (stB b (rotL row j))) fun m hm => who_5 hs hm
      have hwl : (Mk.whoL (stB b (rotL row j))).length ≤ 1000 := by
        have h0 := Mk.who_len (stB b (rotL row j))
        have h00 : (stB b (rotL row j)).makers.length = b.horses.length := rfl
        omega
      refine call_pure2 hC (Set_sem .sh (fun m hm => who_5 hs hm) hwl) rfl (PVleL_refl _) ?_
      rintro _ rfl
      simp only [go_sem, Nat.reduceBEq, bin_orG (x := N) (y := setOf (Mk.whoL (stB b (rotL row j)))) (by omega) (by omega), wrap_succ (k := j) (by omega), decide_true, not_false_eq_true, Int.reduceEq]
      refine ⟨⟨j + 1, hj2, trivial⟩, by simp only; omega, ?_⟩
      simp only [hn1]
      simp [Wk, wkT, wkL, look, AV.lo, AV.lo.loL, ABlk.toZ, hnd]
    · have hjn : j = nR b := by omega
      subst hjn
      simp only [go_sem, List.length_map, decide_true, false_implies, true_implies]
      refine call_pure2 hC (List_sem (N : Int) b.horses.length (by omega)) rfl (PVleL_refl _) ?_
      rintro _ rfl
      rw [← hN, some_list hs hrow]
      simp only [go_sem, Nat.reduceBEq]
      refine call_pure2 hC (Equal_sem (natL (whoseI b (knownN row))) (natL (whoseI b (knownN row)))) rfl (PVleL_refl _) ?_
      rintro _ rfl
      rw [decide_eq_true (rfl : natL (whoseI b (knownN row)) = natL (whoseI b (knownN row)))]
      simp only [go_sem, Nat.reduceBEq]
      refine call_pure2 hC (told_sem) rfl (PVleL_refl _) ?_
      rintro r rfl
      simp only [go_sem, Nat.reduceBEq]
      exact retQ_one rfl rfl
  · have dN : Sem1 8 [.agg (bookC k b)] (.tup [pis z, pi 0]) := (New_sem k b).mono fun _ e => e.trans (by unfold newR; rw [if_pos ho, hF])
    obtain ⟨hz1, hz2, -⟩ := free_first ho hF
    have hz : rowP b z := mem_sufs.1 hz1
    have hzl := hz.1
    have ezl : ((z.length : Int) = b.round) := by omega
    refine call_pure2 hC (dN) rfl (PVleL_refl _) ?_
    rintro r rfl
    simp only [go_sem, Nat.reduceBEq, Nat.reduceAdd, List.length_map, ezl, decide_true, decide_false, not_true_eq_false]
    refine call_pure2 hC dWh rfl ⟨PVle.refl _, hv5, trivial⟩ ?_
    rintro _ rfl
    simp only [go_sem, Nat.reduceBEq]
    refine loop_k (nR b) (fun _ => True) [2, 5, 7, 8, 9, 10] (fun j => [(11, .p (pi (someN b row j : Nat))), (12, .p (pi j))]) trivial rfl ⟨rfl, by simp [hnd], by simp []⟩ (by simp [wkT, look, AV.lo, someN]) ?_
    rintro j ⟨hj, -⟩
    have hsj := some_lt hs row j
    have hn1 := some_next b row j
    obtain ⟨N, hN⟩ : ∃ N, someN b row j = N := ⟨_, rfl⟩
    simp only [hN]
    rw [hN] at hsj hn1
    simp only [go_sem, Nat.reduceBEq, Nat.reduceAdd]
    refine ⟨fun d5 => ?_, fun d5 => ?_⟩
    · have hj2 : j < nR b := by omega
      have hrt := hrow.rot j
      refine call_pure2 hC (turned_sem row j (by omega) (by omega)) rfl ⟨hv5, PVle.refl _, trivial⟩ ?_
      rintro _ rfl
      simp only [go_sem, Nat.reduceBEq]
      refine call_pure2 hC (stable_sem k b (rotL row j) hrt.five (by rw [rotL_len]; omega)) rfl (PVleL_refl _) ?_
      rintro _ rfl
      simp only [go_sem, Nat.reduceBEq]
      refine call_pure2 hC (dW (rotL row j) hrt) rfl (PVleL_refl _) ?_
      rintro _ rfl
      simp only [go_sem, Nat.reduceBEq, List.length_map, decide_false, not_true_eq_false]
      refine call_pure2 hC (Grows_sem (natL (Mk.whoL (stB b (rotL row j)))) (b.horses.length : Int)) rfl (PVleL_refl _) ?_
      rintro _ ⟨gg, rfl, hg⟩
      rw [hg.2 (whoL_grows hs _)]
      simp only [go_sem, Nat.reduceBEq]
      have hsl := setOf_lt (l := Mk.whoL (stB b (rotL row j))) fun m hm => who_5 hs hm
      have hwl : (Mk.whoL (stB b (rotL row j))).length ≤ 1000 := by
        have h0 := Mk.who_len (stB b (rotL row j))
        have h00 : (stB b (rotL row j)).makers.length = b.horses.length := rfl
        omega
      refine call_pure2 hC (Set_sem .sh (fun m hm => who_5 hs hm) hwl) rfl (PVleL_refl _) ?_
      rintro _ rfl
      simp only [go_sem, Nat.reduceBEq, Nat.reduceAdd, bin_orG (x := N) (y := setOf (Mk.whoL (stB b (rotL row j)))) (by omega) (by omega), decide_false, not_true_eq_false, Bool.false_eq_true]
      have hrz := hz.rot j
      have hz0 := fresh_none hs hz hz2 hj2
      refine call_pure2 hC (turned_sem z j (by omega) (by have := hz.1; omega)) rfl (PVleL_refl _) ?_
      rintro _ rfl
      simp only [go_sem, Nat.reduceBEq]
      refine call_pure2 hC (stable_sem k b (rotL z j) hrz.five (by rw [rotL_len, hz.1]; omega)) rfl (PVleL_refl _) ?_
      rintro _ rfl
      simp only [go_sem, Nat.reduceBEq]
      refine call_pure2 hC (dW (rotL z j) hrz) rfl (PVleL_refl _) ?_
      rintro _ rfl
      rw [hz0]
      simp only [go_sem, Nat.reduceBEq, natL, List.length_nil, List.map_nil, wrap_succ (k := j) (by omega), Int.natCast_zero, not_true_eq_false, decide_false, decide_false, not_true_eq_false]
      refine ⟨⟨j + 1, hj2, trivial⟩, by simp only; omega, ?_⟩
      simp only [hn1]
      simp [Wk, wkT, wkL, look, AV.lo, AV.lo.loL, ABlk.toZ, hnd]
    · have hjn : j = nR b := by omega
      subst hjn
      simp only [go_sem, List.length_map, decide_true, false_implies, true_implies]
      refine call_pure2 hC (List_sem (N : Int) b.horses.length (by omega)) rfl (PVleL_refl _) ?_
      rintro _ rfl
      rw [← hN, some_list hs hrow]
      simp only [go_sem, Nat.reduceBEq]
      refine call_pure2 hC (Equal_sem (natL (whoseI b (knownN row))) (natL (whoseI b (knownN row)))) rfl (PVleL_refl _) ?_
      rintro _ rfl
      rw [decide_eq_true (rfl : natL (whoseI b (knownN row)) = natL (whoseI b (knownN row)))]
      simp only [go_sem, Nat.reduceBEq]
      refine call_pure2 hC (told_sem) rfl (PVleL_refl _) ?_
      rintro r rfl
      simp only [go_sem, Nat.reduceBEq]
      exact retQ_one rfl rfl
set_option maxRecDepth 100000 in
theorem Whose_row {l0 l1 : List PV} (T0 : Ty Tryz.prog 10 24 l0) (T1 : Ty Tryz.prog 10 25 l1) : SemC Tryz.prog 3 [argPV Tryz.prog 24 l0, argPV Tryz.prog 25 l1] (fun r => r = pb true) := by
  obtain ⟨b, rfl⟩ := ty_dbook T0
  obtain ⟨bits, rfl⟩ := Mk.ty_ints T1
  rw [argStruct Tryz.underlying24, argSlice Tryz.underlying25]
  exact Whose_law .sh b bits
end Go.Proofs.YtlbolnlcncjijaaGreat.Tp
namespace Go.Proofs.YtlbolnlcncjijaaGreat
open Go.Proofs.YtlbolnlcncjijaaGreat Go.ChangeShapes Go.WideShapes Go.ChangeAt Go.RowKit Go.Deep

set_option maxRecDepth 100000 in
theorem topWhose_lifted (os : Os) (started : os.Started) (H : Type) (enc : TypeId × Value → H) :
    ReturnsInHanded {} Tryz.checked os 3 .any (Rows.topWhoseSpec.pre6 enc Tryz.prog Tryz.f3 Rows.topWhoseRow.domain false) (Rows.topWhoseSpec.post enc Tryz.prog Tryz.f3 false true false false) := by
  refine returnsInHanded_of_change_sized (C := Tryz.checked) ownKnobs started (by kernel_rfl) Tryz.func3
    (ChangeSpec.witness6 (enc := enc) (C := Tryz.checked) false ⟨#[], #[.agg #[.int .i64 0, .slice none 0 0], .slice none 0 0], []⟩ 8 (by kernel_rfl) (by kernel_rfl) (by kernel_rfl) (by kernel_rfl)) ?_
  intro W base args ds gs before hval0 hW hcnd hsz0 _
  have hval : ∀ (j : Nat) t v, Tryz.f3.params[j]? = some t → args[j]? = some v → Value.okWide Tryz.prog W .any base t v := hval0
  have hsz : (DataW.weightsEach Tryz.prog (Tryz.f3.params.toList ++ Rows.topWhoseSpec.plain.varTypes Tryz.prog) (ds ++ gs)).all (· ≤ reachBytes) = true := hsz0
  have hW' := hW
  obtain ⟨p, q, hA0, hV, rfl, hfz, hnd⟩ := hW
  have hA : DataW.TrodAll enc Tryz.prog W 0 (fun _ => true) true Tryz.f3.params.toList args.toList ds p := hA0
  rw [Tryz.params3] at hA hval hsz
  obtain ⟨v0, vs0, d0, ds0, p0, q0, hargs, rfl, rfl, h0, r0⟩ := trodAll_cons hA
  obtain ⟨v1, vs1, d1, ds1, p1, q1, rfl, rfl, rfl, h1, r1⟩ := trodAll_cons r0
  obtain ⟨rfl, rfl, rfl⟩ := trodAll_nil r1
  obtain rfl : args = #[v0, v1] := by cases args; simp_all
  obtain ⟨rfl, rfl⟩ := trodVars_none hV
  have lt0 : ∀ x ∈ p0, x.block < W.heap.size := by obtain ⟨m, hm⟩ := h0; exact DataW.trod_lt m _ _ _ hm
  have lt1 : ∀ x ∈ p1, x.block < W.heap.size := by obtain ⟨m, hm⟩ := h1; exact DataW.trod_lt m _ _ _ hm
  have z0 : SizedP Tryz.prog 24 d0 := sizedP_each hsz (j := 0) rfl rfl
  obtain ⟨l0, T0, R0⟩ := rd_arg 10 (by kernel_rfl) (hval 0 24 v0 rfl rfl) h0 z0
  have z1 : SizedP Tryz.prog 25 d1 := sizedP_each hsz (j := 1) rfl rfl
  obtain ⟨l1, T1, R1⟩ := rd_arg 10 (by kernel_rfl) (hval 1 25 v1 rfl rfl) h1 z1
  clear hA0 hval0 hsz0
  refine (law_calls (Tp.Whose_row T0 T1) (argsP_cons R0 (argsP_cons R1 argsP_nil))).mono fun e W' ⟨he, bel⟩ => ?_
  subst he
  exact ⟨_, rfl, _, _, _, [], _, [], hW', trodAll_mk1 (shut_bool Tryz.underlying4 _), (trodAll_cons_mk (Below.trod laidOut (by kernel_rfl) (of_decide_eq_true (by kernel_rfl)) h0 bel lt0) (trodAll_cons_mk (Below.trod laidOut (by kernel_rfl) (of_decide_eq_true (by kernel_rfl)) h1 bel lt1) trodAll_mk0)), rfl, bel.frame _, fun h => by cases h⟩

theorem topWhose_joined : joinedFacts Tryz.prog 3 Tryz.f3 Rows.topWhoseSpec Rows.topWhoseRow = true := by
  simp only [joinedFacts, Bool.and_eq_true]
  repeat' apply And.intro
  all_goals first | with_reducible exact laidOut | with_reducible exact mapsR | with_reducible exact stopsH | with_reducible exact mayE | (rw [lift0]; kernel_rfl) | (rw [make0]; kernel_rfl) | kernel_rfl

theorem topWhose_holds : Rows.TopWhoseSaid :=
  OpenClaim.holds_of_wide 3 Tryz.f3 rfl rfl rfl rfl rfl rfl rfl ⟨rfl, rfl, rfl, rfl, rfl⟩ rfl rfl rfl rfl rfl (by kernel_rfl) Tryz.func3 topWhose_joined
    (of_decide_eq_true (by kernel_rfl)) (by unfold Func.isWrapper; first | (rw [if_pos (by decide +kernel)]; kernel_rfl) | (rw [if_neg (by decide +kernel)]; exact ⟨rfl, rfl⟩))
    (fun os started H enc _ => topWhose_lifted os started H enc)
end Go.Proofs.YtlbolnlcncjijaaGreat
