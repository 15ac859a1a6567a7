/- Mathematics of dapple: rows that no horse has. The specification of dapple: whose a row is; the new row. Law: DappleNew. The specification of dapple: the new row. -/
import Derived.Test.YtlghbmancjjdjaaKr05
import Derived.Test.YtlghbmancjjdjaaKr07
namespace Go.Proofs.Ytlghbmancjjdjaa
open Go.RowKit
/-- All rows of so many sizes, the first one first. -/
def sufs : Nat → List (List Int)
  | 0 => [[]]
  | r + 1 => (List.range 4).flatMap fun (s : Nat) => (sufs r).map fun t => (s : Int) :: t
def leftF (w : Nat → Nat → Nat) : Nat → List Int → Nat → Nat
  | _, [], m => m
  | p, s :: t, m => leftF w (p + 1) t (m &&& w p s.toNat)
theorem filter_flat {α β : Type} (p : β → Bool) (f : α → List β) : ∀ l : List α, (l.flatMap f).filter p = l.flatMap fun x => (f x).filter p
  | [] => rfl
  | x :: l => by rw [List.flatMap_cons, List.flatMap_cons, List.filter_append, filter_flat p f l]
theorem map_flat {α β γ : Type} (g : β → γ) (f : α → List β) : ∀ l : List α, (l.flatMap f).map g = l.flatMap fun x => (f x).map g
  | [] => rfl
  | x :: l => by rw [List.flatMap_cons, List.flatMap_cons, List.map_append, map_flat g f l]
theorem freeF_eq (w : Nat → Nat → Nat) : ∀ (r : Nat) (l : List Int) (m : Nat), freeF w r l m = ((sufs r).filter fun t => decide (leftF w l.length t m = 0)).map fun t => l ++ t
  | 0, l, m => by
    unfold freeF sufs
    by_cases h : m = 0
    · simp [leftF, h]
    · simp [leftF, h]
  | r + 1, l, m => by
    unfold freeF sufs
    rw [filter_flat, map_flat]
    congr 1
    funext s
    rw [freeF_eq w r, List.filter_map, List.map_map, List.length_append, List.length_singleton]
    have e : (fun t => decide (leftF w l.length t m = 0)) ∘ (fun t => (s : Int) :: t) = fun t => decide (leftF w (l.length + 1) t (m &&& w l.length s) = 0) := by
      funext t
      show decide (leftF w (l.length + 1) t (m &&& w l.length ((s : Int).toNat)) = 0) = _
      rw [Int.toNat_natCast]
    rw [e]
    congr 1
    funext t
    simp
theorem mem_sufs : ∀ {r : Nat} {t : List Int}, t ∈ sufs r ↔ t.length = r ∧ ∀ x ∈ t, 0 ≤ x ∧ x ≤ 3
  | 0, t => by
    unfold sufs
    rw [List.mem_singleton]
    constructor
    · rintro rfl; simp
    · rintro ⟨h, -⟩; exact List.eq_nil_of_length_eq_zero h
  | r + 1, t => by
    unfold sufs
    rw [List.mem_flatMap]
    constructor
    · rintro ⟨s, hs, ht⟩
      obtain ⟨u, hu, rfl⟩ := List.mem_map.1 ht
      obtain ⟨h1, h2⟩ := mem_sufs.1 hu
      have hs := List.mem_range.1 hs
      refine ⟨by simp [h1], fun x hx => ?_⟩
      rcases List.mem_cons.1 hx with rfl | hx
      · omega
      · exact h2 x hx
    · rintro ⟨h1, h2⟩
      cases t with
      | nil => simp at h1
      | cons x u =>
        have hx := h2 x (by simp)
        refine ⟨x.toNat, List.mem_range.2 (by omega), List.mem_map.2 ⟨u, mem_sufs.2 ⟨by simpa using h1, fun y hy => h2 y (by simp [hy])⟩, ?_⟩⟩
        rw [show ((x.toNat : Nat) : Int) = x by omega]
theorem sufs_pw : ∀ r : Nat, (sufs r).Pairwise fun a b => lexB a b = true
  | 0 => by unfold sufs; exact List.pairwise_singleton _ _
  | r + 1 => by
    unfold sufs
    rw [List.pairwise_flatMap]
    constructor
    · intro s _
      rw [List.pairwise_map]
      exact (sufs_pw r).imp fun {a b} h => by simp [lexB, h]
    · refine (List.pairwise_lt_range (n := 4)).imp fun {a b} hab x hx y hy => ?_
      obtain ⟨u, -, rfl⟩ := List.mem_map.1 hx
      obtain ⟨v, -, rfl⟩ := List.mem_map.1 hy
      simp only [lexB]
      rw [if_neg (by omega)]
      simp; omega
theorem left_bit (w : Nat → Nat → Nat) (q : Nat) : ∀ (t : List Int) (p m : Nat), (leftF w p t m).testBit q = true ↔ m.testBit q = true ∧ ∀ i, i < t.length → (w (p + i) (t.getD i 0).toNat).testBit q = true
  | [], p, m => by simp [leftF]
  | s :: t, p, m => by
    unfold leftF
    rw [left_bit w q t, Nat.testBit_and, Bool.and_eq_true]
    constructor
    · rintro ⟨⟨h1, h2⟩, h3⟩
      refine ⟨h1, fun i hi => ?_⟩
      cases i with
      | zero => simpa using h2
      | succ i =>
        have := h3 i (by simpa using hi)
        rw [show p + 1 + i = p + (i + 1) by omega] at this
        simpa using this
    · rintro ⟨h1, h2⟩
      refine ⟨⟨h1, by simpa using h2 0 (by simp)⟩, fun i hi => ?_⟩
      have := h2 (i + 1) (by simpa using hi)
      rw [show p + (i + 1) = p + 1 + i by omega] at this
      simpa using this
theorem own_bit {b : DBook} (p s q : Nat) : ∀ (l : List (Nat × Nat)) (m : Nat), (l.foldl (addO b p s) m).testBit q = true ↔ m.testBit q = true ∨ ∃ v ∈ l, ownK v = q ∧ hasS ((rowL b v.1 v.2).getD p 0) s = true
  | [], m => by simp
  | v :: l, m => by
    rw [List.foldl_cons, own_bit p s q l]
    have e : (addO b p s m v).testBit q = true ↔ m.testBit q = true ∨ (ownK v = q ∧ hasS ((rowL b v.1 v.2).getD p 0) s = true) := by
      unfold addO
      split
      · rename_i h
        rw [Nat.testBit_or, Bool.or_eq_true, Nat.testBit_two_pow, decide_eq_true_eq]
        exact or_congr Iff.rfl ⟨fun e => ⟨e, h⟩, fun e => e.1⟩
      · rename_i h
        exact ⟨.inl, fun e => e.elim id fun e => absurd e.2 h⟩
    rw [e]
    simp only [List.mem_cons, exists_eq_or_imp]
    exact or_assoc
theorem ownW_bit {b : DBook} (p s q : Nat) : (ownW b p s).testBit q = true ↔ ∃ v ∈ viewsL b, ownK v = q ∧ hasS ((rowL b v.1 v.2).getD p 0) s = true := by
  unfold ownW ownF
  rw [List.take_length, own_bit]
  simp
theorem mem_views2 {b : DBook} {v : Nat × Nat} (h : v ∈ viewsL b) : v.1 < b.horses.length ∧ v.2 < nR b := by
  obtain ⟨i, hi, rfl⟩ := List.mem_iff_getElem.1 h
  obtain ⟨hh, t, e, h1, h2⟩ := views_get hi
  rw [e]
  exact ⟨h1, h2⟩
theorem ownK_inj {b : DBook} (ho : okBook b) {v u : Nat × Nat} (hv : v ∈ viewsL b) (hu : u ∈ viewsL b) (h : ownK v = ownK u) : v = u := by
  have h8 := (okR ho).2.1
  have := mem_views2 hv
  have := mem_views2 hu
  unfold ownK at h
  exact Prod.ext (by omega) (by omega)
/-- Can a horse have a row, read from a turn on? -/
def hasR (b : DBook) (h t : Nat) (r : List Int) : Prop := ∀ p, p < nR b → hasS (rowI b h t p) (r.getD p 0).toNat = true
theorem left_zero {b : DBook} (ho : okBook b) {r : List Int} (hl : r.length = nR b) : leftF (ownW b) 0 r (2 ^ 64 - 1) = 0 ↔ ∀ h t, h < b.horses.length → t < nR b → ¬ hasR b h t r := by
  obtain ⟨h1, h8, hn⟩ := okR ho
  constructor
  · intro h0 h t hh ht hr
    have hv := mem_views hh ht
    have hb : (leftF (ownW b) 0 r (2 ^ 64 - 1)).testBit (ownK (h, t)) = true := by
      rw [left_bit]
      refine ⟨?_, fun i hi => ?_⟩
      · rw [Nat.testBit_two_pow_sub_one]; exact decide_eq_true (ownK_lt ho hv)
      · rw [ownW_bit]
        refine ⟨(h, t), hv, rfl, ?_⟩
        rw [Nat.zero_add, rowL_get ho (by omega)]
        exact hr i (by omega)
    rw [h0, Nat.zero_testBit] at hb
    cases hb
  · intro H
    apply Nat.eq_of_testBit_eq
    intro q
    rw [Nat.zero_testBit, Bool.eq_false_iff]
    intro hb
    obtain ⟨hq, hall⟩ := (left_bit _ _ _ _ _).1 hb
    obtain ⟨v, hv, e, -⟩ := (ownW_bit _ _ _).1 (hall 0 (by omega))
    obtain ⟨hh, ht⟩ := mem_views2 hv
    refine H v.1 v.2 hh ht fun p hp => ?_
    obtain ⟨u, hu, e2, hs⟩ := (ownW_bit _ _ _).1 (hall p (by omega))
    have : u = v := ownK_inj ho hu hv (e2.trans e.symm)
    subst this
    rw [Nat.zero_add, rowL_get ho hp] at hs
    exact hs
theorem known_get {r : List Int} {q : Nat} (hq : q < r.length) (h8 : r.length ≤ 8) : (knownN r).getD q 0 = 2 ^ (r.getD q 0).toNat := by
  unfold knownN arrN
  rw [List.getD_eq_getElem?_getD, List.getElem?_map, List.getElem?_range (by omega)]
  show (if q < r.length then (2 : Int) ^ (r.getD q 0).toNat else 0) = _
  rw [if_pos hq]
theorem whose_iff {b : DBook} (ho : okBook b) {r : List Int} (hl : r.length = nR b) {h : Nat} : whoseP b (knownN r) h = true ↔ ∃ t, t < nR b ∧ hasR b h t r := by
  obtain ⟨h1, h8, hn⟩ := okR ho
  unfold whoseP
  rw [Bool.not_eq_true', List.isEmpty_eq_false_iff]
  have key : ∀ t, t < nR b → (fitB b meetB h (knownN r) t = true ↔ hasR b h t r) := by
    intro t _
    unfold fitB hasR
    rw [List.all_eq_true]
    constructor
    · intro H p hp
      have := H p (List.mem_range.2 hp)
      rw [known_get (by omega) (by omega)] at this
      exact this
    · intro H p hp
      have hp := List.mem_range.1 hp
      rw [known_get (by omega) (by omega)]
      exact H p hp
  unfold turnsP
  constructor
  · intro hne
    obtain ⟨t, ht⟩ := List.exists_mem_of_ne_nil _ hne
    rw [List.mem_filter, List.mem_range] at ht
    exact ⟨t, ht.1, (key t ht.1).1 ht.2⟩
  · rintro ⟨t, ht, hr⟩
    exact List.ne_nil_of_mem (List.mem_filter.2 ⟨List.mem_range.2 ht, (key t ht).2 hr⟩)
theorem mem_whose {b : DBook} {g : List Int} {h : Nat} : h ∈ whoseI b g ↔ h < b.horses.length ∧ whoseP b g h = true := by
  unfold whoseI
  rw [List.mem_filter, List.mem_range]
/-- Nobody's row. -/
theorem whose_nil {b : DBook} (ho : okBook b) {r : List Int} (hl : r.length = nR b) : whoseI b (knownN r) = [] ↔ leftF (ownW b) 0 r (2 ^ 64 - 1) = 0 := by
  rw [left_zero ho hl, List.eq_nil_iff_forall_not_mem]
  constructor
  · intro H h t hh ht hr
    exact H h (mem_whose.2 ⟨hh, (whose_iff ho hl).2 ⟨t, ht, hr⟩⟩)
  · intro H h hm
    obtain ⟨hh, hw⟩ := mem_whose.1 hm
    obtain ⟨t, ht, hr⟩ := (whose_iff ho hl).1 hw
    exact H h t hh ht hr
theorem free_eq {b : DBook} (ho : okBook b) : freeL b = (sufs (nR b)).filter fun t => decide (whoseI b (knownN t) = []) := by
  unfold freeL
  rw [freeF_eq]
  simp only [List.length_nil, List.nil_append, List.map_id']
  refine List.filter_congr fun t ht => ?_
  rw [decide_eq_decide]
  exact (whose_nil ho (mem_sufs.1 ht).1).symm
theorem free_none {b : DBook} (ho : okBook b) (h : freeL b = []) {t : List Int} (ht : t ∈ sufs (nR b)) : whoseI b (knownN t) ≠ [] := by
  rw [free_eq ho, List.filter_eq_nil_iff] at h
  have := h t ht
  simpa using this
theorem free_first {b : DBook} (ho : okBook b) {z : List Int} {zs : List (List Int)} (h : freeL b = z :: zs) : z ∈ sufs (nR b) ∧ whoseI b (knownN z) = [] ∧ ∀ t ∈ sufs (nR b), lexB t z = true → whoseI b (knownN t) ≠ [] := by
  rw [free_eq ho, List.filter_eq_cons_iff] at h
  obtain ⟨l1, l2, e, h1, h2, -⟩ := h
  have hp := sufs_pw (nR b)
  rw [e] at hp ⊢
  refine ⟨by simp, by simpa using h2, fun t ht hlt => ?_⟩
  rcases List.mem_append.1 ht with ht | ht
  · have := h1 t ht; simpa using this
  · exfalso
    rcases List.mem_cons.1 ht with rfl | ht
    · rw [lexB_irr] at hlt; cases hlt
    · rw [List.pairwise_append] at hp
      have := (List.pairwise_cons.1 hp.2.1).1 t ht
      have := lexB_trans this hlt
      rw [lexB_irr] at this; cases this
end Go.Proofs.Ytlghbmancjjdjaa
namespace Go.Proofs.Ytlghbmancjjdjaa
open Go.RowKit
def ac114 : AC := (AC.seq (AC.ops [(AOp.mk (some 2) (AK.mv (AX.c (PV.sl SK.full 0 []))) none 0 false true)]) (AC.seq (AC.ops [(AOp.mk (some 5) (AK.bslice false 3 1 0 [(PV.val (Value.int IntKind.i64 0))] []) none 0 false true), (AOp.mk (some 3) (AK.mv (AX.t 5)) none 1 false true)]) (AC.seq (AC.seq (AC.ops [(AOp.mk (some 4) (AK.mv (AX.c (PV.val (Value.int IntKind.i64 0)))) none 0 false true)]) (AC.block 0 (AC.loop (AC.seq (AC.seq (AC.ops [(AOp.mk (some 6) (AK.mv (AX.t 4)) none 0 false true), (AOp.mk (some 7) (AK.mv (AX.t 0)) none 1 false true), (AOp.mk (some 8) (AK.len (AX.t 7)) none 2 false true), (AOp.mk (some 9) (AK.bin false BinOp.lss (AX.t 6) (AX.t 8)) none 3 false true)]) (AC.cond (AX.t 9) AC.skip (AC.exit 0))) (AC.seq (AC.block 1 (AC.ops [(AOp.mk (some 12) (AK.mv (AX.t 3)) none 0 false true), (AOp.mk (some 13) (AK.mv (AX.t 0)) none 1 false true), (AOp.mk (some 14) (AK.mv (AX.t 4)) none 2 false true), (AOp.mk (some 15) (AK.iadrS 1 (AX.t 13) (AX.t 14)) none 3 false true), (AOp.mk (some 16) (AK.ld none (AX.t 15)) none 4 false true), (AOp.mk (some 17) (AK.bin false BinOp.shl (AX.c (PV.val (Value.int IntKind.i64 1))) (AX.t 16)) none 5 false true), (AOp.mk (some 18) (AK.bslice false 3 1 1 [(PV.val (Value.int IntKind.i64 0))] [(0, (1, (AX.t 17)))]) none 6 false true), (AOp.mk (some 19) (AK.app false 3 1 8 [(PV.val (Value.int IntKind.i64 0))] (AX.t 12) (AX.t 18)) none 7 false true), (AOp.mk (some 3) (AK.mv (AX.t 19)) none 8 false true)])) (AC.ops [(AOp.mk (some 10) (AK.mv (AX.t 4)) none 0 false true), (AOp.mk (some 11) (AK.bin false BinOp.add (AX.t 10) (AX.c (PV.val (Value.int IntKind.i64 1)))) none 1 false true), (AOp.mk (some 4) (AK.mv (AX.t 11)) none 2 false true)])))))) (AC.seq (AC.ops [(AOp.mk (some 20) (AK.mv (AX.t 3)) none 0 false true), (AOp.mk (some 2) (AK.mv (AX.t 20)) none 1 false true)]) AC.ret))))
theorem ac114_ok : cCode Try.prog (fun _ => false) Try.f114.ntmps (Try.f114.body.getD .skip) = some ac114 := by kernel_rfl
def ac78 : AC := (AC.seq (AC.ops [(AOp.mk (some 2) (AK.box 2 (AX.t 0)) none 0 false true), (AOp.mk (some 4) (AK.mv (AX.c (PV.sl SK.full 0 []))) none 1 false true)]) (AC.seq (AC.ops [(AOp.mk (some 7) (AK.bslice false 3 1 0 [(PV.val (Value.int IntKind.i64 0))] []) none 0 false true), (AOp.mk (some 5) (AK.mv (AX.t 7)) none 1 false true)]) (AC.seq (AC.seq (AC.ops [(AOp.mk (some 6) (AK.mv (AX.c (PV.val (Value.int IntKind.i64 0)))) none 0 false true)]) (AC.block 0 (AC.loop (AC.seq (AC.seq (AC.ops [(AOp.mk (some 8) (AK.mv (AX.t 6)) none 0 false true), (AOp.mk (some 9) (AK.fadr 1 (AX.t 2)) none 1 false true), (AOp.mk (some 10) (AK.ld none (AX.t 9)) none 2 false true), (AOp.mk (some 11) (AK.len (AX.t 10)) none 3 false true), (AOp.mk (some 12) (AK.bin false BinOp.lss (AX.t 8) (AX.t 11)) none 4 false true)]) (AC.cond (AX.t 12) AC.skip (AC.exit 0))) (AC.seq (AC.block 1 (AC.seq (AC.ops [(AOp.mk (some 15) (AK.fadr 1 (AX.t 2)) none 0 true false), (AOp.mk (some 16) (AK.ld none (AX.t 15)) none 1 true false), (AOp.mk (some 17) (AK.mv (AX.t 6)) none 2 true false), (AOp.mk (some 18) (AK.iadrS 1 (AX.t 16) (AX.t 17)) none 3 true false), (AOp.mk (some 19) (AK.ld none (AX.t 18)) none 4 true false), (AOp.mk (some 20) (AK.mv (AX.t 1)) none 5 true false), (AOp.mk (some 21) (AK.call 114 [(AX.t 20)]) none 6 false false), (AOp.mk (some 22) (AK.call 71 [(AX.t 19), (AX.t 21)]) none 7 false true), (AOp.mk (some 23) (AK.len (AX.t 22)) none 8 true true), (AOp.mk (some 24) (AK.bin false BinOp.gtr (AX.t 23) (AX.c (PV.val (Value.int IntKind.i64 0)))) none 9 true true)]) (AC.cond (AX.t 24) (AC.ops [(AOp.mk (some 25) (AK.mv (AX.t 5)) none 0 false true), (AOp.mk (some 26) (AK.mv (AX.t 6)) none 1 false true), (AOp.mk (some 27) (AK.bslice false 3 1 1 [(PV.val (Value.int IntKind.i64 0))] [(0, (1, (AX.t 26)))]) none 2 false true), (AOp.mk (some 28) (AK.app false 3 1 8 [(PV.val (Value.int IntKind.i64 0))] (AX.t 25) (AX.t 27)) none 3 false true), (AOp.mk (some 5) (AK.mv (AX.t 28)) none 4 false true)]) AC.skip))) (AC.ops [(AOp.mk (some 13) (AK.mv (AX.t 6)) none 0 false true), (AOp.mk (some 14) (AK.bin false BinOp.add (AX.t 13) (AX.c (PV.val (Value.int IntKind.i64 1)))) none 1 false true), (AOp.mk (some 6) (AK.mv (AX.t 14)) none 2 false true)])))))) (AC.seq (AC.ops [(AOp.mk (some 29) (AK.mv (AX.t 5)) none 0 false true), (AOp.mk (some 4) (AK.mv (AX.t 29)) none 1 false true)]) AC.ret))))
theorem ac78_ok : cCode Try.prog (fun _ => false) Try.f78.ntmps (Try.f78.body.getD .skip) = some ac78 := by kernel_rfl
def ac27 : AC := (AC.seq (AC.ops [(AOp.mk (some 2) (AK.box 2 (AX.t 0)) none 0 false true), (AOp.mk (some 4) (AK.mv (AX.c (PV.sl SK.full 0 []))) none 1 false true), (AOp.mk (some 5) (AK.mv (AX.c (PV.val (Value.int IntKind.i64 0)))) none 2 false true)]) (AC.seq (AC.seq (AC.ops [(AOp.mk (some 9) (AK.ld (some 2) (AX.t 2)) none 0 false true), (AOp.mk (some 10) (AK.call 22 [(AX.t 9)]) none 1 false true), (AOp.mk (some 6) (AK.mv (AX.t 10)) none 2 false true)]) (AC.seq (AC.ops [(AOp.mk (some 11) (AK.mv (AX.t 6)) none 0 false true), (AOp.mk (some 12) (AK.bin false BinOp.neq (AX.t 11) (AX.c (PV.val (Value.int IntKind.i64 0)))) none 1 false true)]) (AC.cond (AX.t 12) (AC.seq (AC.ops [(AOp.mk (some 13) (AK.mv (AX.t 6)) none 0 false true), (AOp.mk (some 4) (AK.mv (AX.c (PV.sl SK.full 0 []))) none 1 false true), (AOp.mk (some 5) (AK.mv (AX.t 13)) none 2 false true)]) AC.ret) AC.skip))) (AC.seq (AC.ops [(AOp.mk (some 14) (AK.mv (AX.t 1)) none 0 false true), (AOp.mk (some 15) (AK.len (AX.t 14)) none 1 false true), (AOp.mk (some 16) (AK.fadr 0 (AX.t 2)) none 2 false true), (AOp.mk (some 17) (AK.ld none (AX.t 16)) none 3 false true), (AOp.mk (some 18) (AK.bin false BinOp.eql (AX.t 15) (AX.t 17)) none 4 false true), (AOp.mk (some 7) (AK.mv (AX.t 18)) none 5 false true)]) (AC.seq (AC.seq (AC.ops [(AOp.mk (some 8) (AK.mv (AX.c (PV.val (Value.int IntKind.i64 0)))) none 0 false true)]) (AC.block 0 (AC.loop (AC.seq (AC.seq (AC.ops [(AOp.mk (some 19) (AK.mv (AX.t 7)) none 0 false true), (AOp.mk (some 20) (AK.mv (AX.t 19)) none 1 false true), (AOp.mk (some 21) (AK.mv (AX.t 8)) (some (20, true)) 2 false true), (AOp.mk (some 22) (AK.mv (AX.t 1)) (some (20, true)) 3 false true), (AOp.mk (some 23) (AK.len (AX.t 22)) (some (20, true)) 4 false true), (AOp.mk (some 24) (AK.bin false BinOp.lss (AX.t 21) (AX.t 23)) (some (20, true)) 5 false true), (AOp.mk (some 25) (AK.pick (AX.t 20) (AX.t 24) (AX.c (PV.val (Value.bool false)))) none 6 false true)]) (AC.cond (AX.t 25) AC.skip (AC.exit 0))) (AC.seq (AC.block 1 (AC.ops [(AOp.mk (some 28) (AK.mv (AX.t 1)) none 0 false true), (AOp.mk (some 29) (AK.mv (AX.t 8)) none 1 false true), (AOp.mk (some 30) (AK.iadrS 1 (AX.t 28) (AX.t 29)) none 2 false true), (AOp.mk (some 31) (AK.ld none (AX.t 30)) none 3 false true), (AOp.mk (some 32) (AK.call 45 [(AX.t 31), (AX.c (PV.val (Value.int IntKind.i64 0))), (AX.c (PV.val (Value.int IntKind.i64 3)))]) none 4 false true), (AOp.mk (some 7) (AK.mv (AX.t 32)) none 5 false true)])) (AC.ops [(AOp.mk (some 26) (AK.mv (AX.t 8)) none 0 false true), (AOp.mk (some 27) (AK.bin false BinOp.add (AX.t 26) (AX.c (PV.val (Value.int IntKind.i64 1)))) none 1 false true), (AOp.mk (some 8) (AK.mv (AX.t 27)) none 2 false true)])))))) (AC.seq (AC.seq (AC.ops [(AOp.mk (some 33) (AK.mv (AX.t 7)) none 0 false true), (AOp.mk (some 34) (AK.un UnOp.not (AX.t 33)) none 1 false true)]) (AC.cond (AX.t 34) (AC.seq (AC.ops [(AOp.mk (some 4) (AK.mv (AX.c (PV.sl SK.full 0 []))) none 0 false true), (AOp.mk (some 5) (AK.mv (AX.c (PV.val (Value.int IntKind.i64 71)))) none 1 false true)]) AC.ret) AC.skip)) (AC.seq (AC.ops [(AOp.mk (some 35) (AK.ld (some 2) (AX.t 2)) none 0 false true), (AOp.mk (some 36) (AK.mv (AX.t 1)) none 1 false true), (AOp.mk (some 37) (AK.call 78 [(AX.t 35), (AX.t 36)]) none 2 false true), (AOp.mk (some 4) (AK.mv (AX.t 37)) none 3 false true), (AOp.mk (some 5) (AK.mv (AX.c (PV.val (Value.int IntKind.i64 0)))) none 4 false true)]) AC.ret))))))
theorem ac27_ok : cCode Try.prog (fun _ => false) Try.f27.ntmps (Try.f27.body.getD .skip) = some ac27 := by kernel_rfl
def ac81 : AC := (AC.seq (AC.ops [(AOp.mk (some 2) (AK.box 2 (AX.t 0)) none 0 false true), (AOp.mk (some 4) (AK.mv (AX.c (PV.sl SK.full 0 []))) none 1 false true), (AOp.mk (some 5) (AK.mv (AX.c (PV.val (Value.bool false)))) none 2 false true)]) (AC.seq (AC.seq (AC.ops [(AOp.mk (some 9) (AK.mv (AX.t 1)) none 0 false true), (AOp.mk (some 10) (AK.len (AX.t 9)) none 1 false true), (AOp.mk (some 11) (AK.fadr 0 (AX.t 2)) none 2 false true), (AOp.mk (some 12) (AK.ld none (AX.t 11)) none 3 false true), (AOp.mk (some 13) (AK.bin false BinOp.eql (AX.t 10) (AX.t 12)) none 4 false true)]) (AC.cond (AX.t 13) (AC.seq (AC.ops [(AOp.mk (some 14) (AK.mv (AX.t 1)) none 0 false true), (AOp.mk (some 15) (AK.ld (some 2) (AX.t 2)) none 1 false true), (AOp.mk (some 16) (AK.mv (AX.t 1)) none 2 false true), (AOp.mk (some 17) (AK.call 78 [(AX.t 15), (AX.t 16)]) none 3 false true), (AOp.mk (some 18) (AK.len (AX.t 17)) none 4 false true), (AOp.mk (some 19) (AK.bin false BinOp.eql (AX.t 18) (AX.c (PV.val (Value.int IntKind.i64 0)))) none 5 false true), (AOp.mk (some 4) (AK.mv (AX.t 14)) none 6 false true), (AOp.mk (some 5) (AK.mv (AX.t 19)) none 7 false true)]) AC.ret) AC.skip)) (AC.seq (AC.seq (AC.ops [(AOp.mk (some 6) (AK.mv (AX.c (PV.val (Value.int IntKind.i64 0)))) none 0 false true)]) (AC.block 0 (AC.loop (AC.seq (AC.seq (AC.ops [(AOp.mk (some 20) (AK.mv (AX.t 6)) none 0 false true), (AOp.mk (some 21) (AK.bin false BinOp.lss (AX.t 20) (AX.c (PV.val (Value.int IntKind.i64 4)))) none 1 false true)]) (AC.cond (AX.t 21) AC.skip (AC.exit 0))) (AC.seq (AC.block 1 (AC.seq (AC.ops [(AOp.mk (some 25) (AK.ld (some 2) (AX.t 2)) none 0 true false), (AOp.mk (some 26) (AK.mv (AX.t 1)) none 1 true false), (AOp.mk (some 27) (AK.mv (AX.t 6)) none 2 true false), (AOp.mk (some 28) (AK.call 119 [(AX.t 26), (AX.t 27)]) none 3 false false), (AOp.mk (some 29) (AK.call 81 [(AX.t 25), (AX.t 28)]) none 4 false true), (AOp.mk (some 24) (AK.mv (AX.t 29)) none 5 true true), (AOp.mk (some 30) (AK.ext (AX.t 24) 0) none 6 true false), (AOp.mk (some 31) (AK.ext (AX.t 24) 1) none 7 true false), (AOp.mk (some 7) (AK.mv (AX.t 30)) none 8 true false), (AOp.mk (some 8) (AK.mv (AX.t 31)) none 9 true true)]) (AC.seq (AC.ops [(AOp.mk (some 32) (AK.mv (AX.t 8)) none 0 false true)]) (AC.cond (AX.t 32) (AC.seq (AC.ops [(AOp.mk (some 33) (AK.mv (AX.t 7)) none 0 false true), (AOp.mk (some 4) (AK.mv (AX.t 33)) none 1 false true), (AOp.mk (some 5) (AK.mv (AX.c (PV.val (Value.bool true)))) none 2 false true)]) AC.ret) AC.skip)))) (AC.ops [(AOp.mk (some 22) (AK.mv (AX.t 6)) none 0 false true), (AOp.mk (some 23) (AK.bin false BinOp.add (AX.t 22) (AX.c (PV.val (Value.int IntKind.i64 1)))) none 1 false true), (AOp.mk (some 6) (AK.mv (AX.t 23)) none 2 false true)])))))) (AC.seq (AC.ops [(AOp.mk (some 4) (AK.mv (AX.c (PV.sl SK.full 0 []))) none 0 false true), (AOp.mk (some 5) (AK.mv (AX.c (PV.val (Value.bool false)))) none 1 false true)]) AC.ret))))
theorem ac81_ok : cCode Try.prog (fun _ => false) Try.f81.ntmps (Try.f81.body.getD .skip) = some ac81 := by kernel_rfl
def ac29 : AC := (AC.seq (AC.ops [(AOp.mk (some 1) (AK.box 2 (AX.t 0)) none 0 false true), (AOp.mk (some 2) (AK.mv (AX.c (PV.sl SK.full 0 []))) none 1 false true), (AOp.mk (some 3) (AK.mv (AX.c (PV.val (Value.int IntKind.i64 0)))) none 2 false true)]) (AC.seq (AC.seq (AC.ops [(AOp.mk (some 7) (AK.ld (some 2) (AX.t 1)) none 0 false true), (AOp.mk (some 8) (AK.call 22 [(AX.t 7)]) none 1 false true), (AOp.mk (some 4) (AK.mv (AX.t 8)) none 2 false true)]) (AC.seq (AC.ops [(AOp.mk (some 9) (AK.mv (AX.t 4)) none 0 false true), (AOp.mk (some 10) (AK.bin false BinOp.neq (AX.t 9) (AX.c (PV.val (Value.int IntKind.i64 0)))) none 1 false true)]) (AC.cond (AX.t 10) (AC.seq (AC.ops [(AOp.mk (some 11) (AK.mv (AX.t 4)) none 0 false true), (AOp.mk (some 2) (AK.mv (AX.c (PV.sl SK.full 0 []))) none 1 false true), (AOp.mk (some 3) (AK.mv (AX.t 11)) none 2 false true)]) AC.ret) AC.skip))) (AC.seq (AC.ops [(AOp.mk (some 13) (AK.ld (some 2) (AX.t 1)) none 0 false true), (AOp.mk (some 14) (AK.bslice false 3 1 0 [(PV.val (Value.int IntKind.i64 0))] []) none 1 false true), (AOp.mk (some 15) (AK.call 81 [(AX.t 13), (AX.t 14)]) none 2 false true), (AOp.mk (some 12) (AK.mv (AX.t 15)) none 3 false true), (AOp.mk (some 16) (AK.ext (AX.t 12) 0) none 4 false true), (AOp.mk (some 17) (AK.ext (AX.t 12) 1) none 5 false true), (AOp.mk (some 5) (AK.mv (AX.t 16)) none 6 false true), (AOp.mk (some 6) (AK.mv (AX.t 17)) none 7 false true)]) (AC.seq (AC.seq (AC.ops [(AOp.mk (some 18) (AK.mv (AX.t 6)) none 0 false true), (AOp.mk (some 19) (AK.un UnOp.not (AX.t 18)) none 1 false true)]) (AC.cond (AX.t 19) (AC.seq (AC.ops [(AOp.mk (some 2) (AK.mv (AX.c (PV.sl SK.full 0 []))) none 0 false true), (AOp.mk (some 3) (AK.mv (AX.c (PV.val (Value.int IntKind.i64 4)))) none 1 false true)]) AC.ret) AC.skip)) (AC.seq (AC.ops [(AOp.mk (some 20) (AK.mv (AX.t 5)) none 0 false true), (AOp.mk (some 2) (AK.mv (AX.t 20)) none 1 false true), (AOp.mk (some 3) (AK.mv (AX.c (PV.val (Value.int IntKind.i64 0)))) none 2 false true)]) AC.ret)))))
theorem ac29_ok : cCode Try.prog (fun _ => false) Try.f29.ntmps (Try.f29.body.getD .skip) = some ac29 := by kernel_rfl
def setsR (r : List Int) (j : Nat) : List Int := (r.take j).map fun x => 2 ^ x.toNat
theorem setsR_next {r : List Int} {j : Nat} (h : j < r.length) : ((setsR r (j + 1)).map fun x => [pi x]) = ((setsR r j).map fun x => [pi x]) ++ [[pi (2 ^ r[j].toNat)]] := by
  unfold setsR
  rw [List.take_succ_eq_append_getElem h, List.map_append, List.map_append]
  rfl
theorem setsR_len {r : List Int} {j : Nat} (h : j ≤ r.length) : (setsR r j).length = j := by
  unfold setsR; simp [h]
theorem rsets_sem {r : List Int} (h8 : r.length ≤ 8) (hr3 : ∀ x ∈ r, 0 ≤ x ∧ x ≤ 3) : Sem1 114 [pis r] (pis (setsR r r.length)) := by
  refine semC_of_exec' mixed Try.func114 (by kernel_rfl) (by kernel_rfl) ac114_ok 1 rfl (by decide) [(.tmp 2)] (by kernel_rfl) ?_
  intro hr C hC hI
  unfold ac114
  simp only [go_sem, Nat.reduceBEq]
  refine loop_g (α := Nat × Option Nat) (fun a => a.1 ≤ r.length ∧ (a.2 = none → a.1 = 0)) (fun a => r.length - a.1) [0] (fun a => [(3, .p (slG 3 a.2 ((setsR r a.1).map fun x => [pi x]))), (4, .p (pi a.1))]) (fun _ => []) (fun a => a.2.toList) (0, none) ⟨by omega, fun _ => rfl⟩ (by simp [Wk, wkT, wkL, look, AV.lo, upS_eq, keepS_nil, keepS_cons, slG]) ?_
  rintro ⟨j, o⟩ ⟨hj, hok⟩
  replace hj : j ≤ r.length := hj
  replace hok : o = none → j = 0 := hok
  have h0 : o = none → ((setsR r j).map fun x => [pi x]) = [] := fun e => by rw [hok e]; rfl
  simp only [go_sem, Nat.reduceBEq, List.length_map]
  refine ⟨fun h5 => ?_, fun h5 => ?_⟩
  · have hj2 : j < r.length := by omega
    have hnx := setsR_next hj2
    have hx := hr3 _ (List.getElem_mem hj2)
    simp only [go_sem, Nat.reduceBEq, iadr_pis hj2, bin_shl (show ¬ r[j] < 0 by omega), pow2_small hx]
    refine app_slG h0 (by rw [List.length_map, setsR_len hj]; omega) (by simp) fun tk htk => ?_
    simp only [go_sem, Nat.reduceBEq, wrap_succ (k := j) (by omega)]
    refine ⟨⟨(j + 1, some tk), hj2, (fun h => by cases h)⟩, by simp only; omega, ?_⟩
    simp only [hnx]
    refine ⟨by simp [wkT, look, AV.lo], trivial, by simp, by simp, rfl, rfl, by simp⟩
  · have hjn : j = r.length := by omega
    subst hjn
    exact retQ_slG h0 rfl rfl
theorem can_known {b : DBook} (ho : okBook b) {h : Nat} (hh : h < b.horses.length) {r : List Int} (hl : r.length = nR b) (t : Nat) : canL b.horses[h] (setsR r r.length) t b.horses[h].length = fitB b meetB h (knownN r) t := by
  obtain ⟨h1, h8, hn⟩ := okR ho
  unfold canL fitB
  rw [hlen ho hh, Bool.eq_iff_iff, List.all_eq_true, List.all_eq_true]
  refine forall_congr' fun q => forall_congr' fun hq => ?_
  have hq := List.mem_range.1 hq
  have e : (setsR r r.length).getD q 0 = (knownN r).getD q 0 := by
    rw [known_get (by omega) (by omega)]
    unfold setsR
    rw [List.take_length]
    simp [List.getD_eq_getElem?_getD, List.getElem?_eq_getElem (show q < r.length by omega)]
  rw [e, rowI_hs, hs_eq hh]
theorem whose_len {b : DBook} (ho : okBook b) {h : Nat} (hh : h < b.horses.length) {r : List Int} (hl : r.length = nR b) : decide (0 < ((turnsR b.horses[h] (setsR r r.length) b.horses[h].length).length : Int)) = whoseP b (knownN r) h := by
  unfold turnsR whoseP turnsP natL
  rw [List.length_map, hlen ho hh]
  have e : (List.range (nR b)).filter (fun t => canL b.horses[h] (setsR r r.length) t (nR b)) = (List.range (nR b)).filter (fitB b meetB h (knownN r)) := by
    refine List.filter_congr fun t _ => ?_
    have := can_known ho hh hl t
    rwa [hlen ho hh] at this
  rw [e]
  cases (List.range (nR b)).filter (fitB b meetB h (knownN r)) with
  | nil => rfl
  | cons x l => rw [List.isEmpty_cons]; exact decide_eq_true (by simp)
def whoR (b : DBook) (r : List Int) (j : Nat) : List Int := natL ((List.range j).filter (whoseP b (knownN r)))
theorem whoR_next (b : DBook) (r : List Int) (j : Nat) : ((whoR b r (j + 1)).map fun x => [pi x]) = ((whoR b r j).map fun x => [pi x]) ++ if whoseP b (knownN r) j then [[pi j]] else [] := by
  unfold whoR
  rw [filt_next, List.map_append]
  split <;> rfl
theorem rwhose_sem (k : SK) {b : DBook} (ho : okBook b) {r : List Int} (hl : r.length = nR b) (hr3 : ∀ x ∈ r, 0 ≤ x ∧ x ≤ 3) : Sem1 78 [.agg (bookC k b), pis r] (pis (natL (whoseI b (knownN r)))) := by
  obtain ⟨h1, h8, hn⟩ := okR ho
  have h6 := ho.2.1
  refine semC_of_exec' mixed Try.func78 (by kernel_rfl) (by kernel_rfl) ac78_ok 2 rfl (by decide) [(.tmp 4)] (by kernel_rfl) ?_
  intro hr C hC hI
  unfold ac78
  simp only [go_sem, Nat.reduceBEq, Nat.reduceAdd]
  refine loop_g (α := Nat × Option Nat) (fun a => a.1 ≤ b.horses.length ∧ (a.2 = none → whoR b r a.1 = [])) (fun a => b.horses.length - a.1) [1, 2] (fun a => [(5, .p (slG 3 a.2 ((whoR b r a.1).map fun x => [pi x]))), (6, .p (pi a.1))]) (fun _ => [.cells ((bookC k b).map .p)]) (fun a => a.2.toList) (0, none) ⟨by omega, fun _ => rfl⟩ (by simp [Wk, wkT, wkL, look, AV.lo, AV.lo.loL, upS_eq, keepS_nil, keepS_cons, slG]) ?_
  rintro ⟨j, o⟩ ⟨hj, hok⟩
  replace hj : j ≤ b.horses.length := hj
  replace hok : o = none → whoR b r j = [] := hok
  have hnx := whoR_next b r j
  have hln : (whoR b r j).length ≤ j := filt_len _ j
  have h0 : o = none → ((whoR b r j).map fun x => [pi x]) = [] := fun e => by rw [hok e]; rfl
  simp only [go_sem, Nat.reduceBEq, List.length_map]
  refine ⟨fun h5 => ?_, fun h5 => ?_⟩
  · have hj2 : j < b.horses.length := by omega
    have hl1 := hlen ho hj2
    have eh := iadr_map (f := fun h => [pis h]) (kd := k) (sz := 1) hj2
    have hw := whose_len ho hj2 hl
    simp only [go_sem, Nat.reduceBEq, eh]
    refine call_pure2 hC (rsets_sem (by omega) hr3) rfl (PVleL_refl _) ?_
    rintro r rfl
    simp only [go_sem, Nat.reduceBEq]
    refine call_pure2 hC (rturns_sem (x := b.horses[j]) (y := setsR r r.length) (by omega) (by rw [setsR_len (Nat.le_refl _)]; omega)) rfl (PVleL_refl _) ?_
    rintro r rfl
    simp only [go_sem, Nat.reduceBEq, List.length_map, hw]
    cases hp : whoseP b (knownN r) j
    · rw [hp, if_neg (by decide), List.append_nil] at hnx
      simp only [go_sem, Nat.reduceBEq, wrap_succ (k := j) (by omega)]
      refine ⟨⟨(j + 1, o), hj2, fun h => ?_⟩, by simp only; omega, ?_⟩
      · have := h0 h
        rw [← hnx] at this
        exact List.map_eq_nil_iff.1 this
      · simp only [hnx]
        cases o <;> exact by simp [Wk, wkT, wkL, look, AV.lo, AV.lo.loL, ABlk.toZ]
    · rw [hp, if_pos rfl] at hnx
      simp only [go_sem, Nat.reduceBEq]
      refine app_slG h0 (by rw [List.length_map]; omega) (by simp) fun tk htk => ?_
      simp only [go_sem, Nat.reduceBEq, wrap_succ (k := j) (by omega)]
      refine ⟨⟨(j + 1, some tk), hj2, (fun h => by cases h)⟩, by simp only; omega, ?_⟩
      simp only [hnx]
      refine ⟨by simp [wkT, look, AV.lo], by simp [wkL, AV.lo, AV.lo.loL], by simp, by simp, rfl, rfl, by simp⟩
  · have hjn : j = b.horses.length := by omega
    subst hjn
    exact retQ_slG h0 rfl rfl
theorem rWhose_sem (k : SK) (b : DBook) (r : List Int) : Sem1 27 [.agg (bookC k b), pis r] (if errI b (decide (okRow b r)) = 0 then .tup [pis (natL (whoseI b (knownN r))), pi 0] else .tup [pis [], pi (errI b (decide (okRow b r)))]) := by
  refine semC_of_exec' mixed Try.func27 (by kernel_rfl) (by kernel_rfl) ac27_ok 2 rfl (by decide) [(.tmp 4), (.tmp 5)] (by kernel_rfl) ?_
  intro hr C hC hI
  unfold ac27
  simp only [go_sem, Nat.reduceBEq, Nat.reduceAdd]
  have hrl := real_len (i := 1) hr rfl
  rw [List.length_map] at hrl
  refine call_pure2 hC (rCheck_sem k b) rfl (PVleL_refl _) ?_
  rintro r rfl
  simp only [go_sem, Nat.reduceBEq]
  by_cases ho : okBook b
  rotate_left
  · have he : errI b (decide (okRow b r)) = 70 := by unfold errI; rw [if_neg ho]
    rw [he, if_neg ho]
    refine ⟨fun _ => retQ_two_le rfl rfl (PVle.nil _ _ _) (PVle.refl _) rfl, fun h => absurd h (by decide)⟩
  obtain ⟨h1, h8, hn⟩ := okR ho
  rw [if_pos ho]
  refine ⟨fun h => absurd rfl h, fun _ => ?_⟩
  simp only [go_sem, List.length_map]
  have hbad : ¬ okRow b r → errI b (decide (okRow b r)) = 71 := fun h => by unfold errI; rw [if_pos ho, decide_eq_false h]; rfl
  refine loop_g (α := Nat × Bool) (fun a => a.1 ≤ r.length ∧ (a.2 = true → (r.length : Int) = b.round ∧ ∀ x ∈ r.take a.1, 0 ≤ x ∧ x ≤ 3) ∧ (a.2 = false → ¬ okRow b r)) (fun a => r.length - a.1) [1, 2] (fun a => [(7, .p (pb a.2)), (8, .p (pi a.1))]) (fun _ => [.cells ((bookC k b).map .p)]) (fun _ => []) (0, decide ((r.length : Int) = b.round)) ⟨by omega, fun h => ⟨of_decide_eq_true h, by simp⟩, fun h ho => of_decide_eq_false h ho.1⟩ (by simp [Wk, wkT, wkL, look, AV.lo, AV.lo.loL, upS_eq, keepS_nil, keepS_cons]) ?_
  rintro ⟨q, t2⟩ ⟨hq, ht2, hf2⟩
  replace hq : q ≤ r.length := hq
  cases t2
  · have hno : ¬ okRow b r := hf2 rfl
    rw [hbad hno]
    simp only [go_sem, Nat.reduceBEq]
    exact retQ_two_le rfl rfl (PVle.nil _ _ _) (PVle.refl _) rfl
  · obtain ⟨hlen, hx⟩ := ht2 rfl
    replace hx : ∀ x ∈ r.take q, 0 ≤ x ∧ x ≤ 3 := hx
    simp only [go_sem, Nat.reduceBEq, Nat.reduceAdd, List.length_map]
    refine ⟨fun h7 => ?_, fun h7 => ?_⟩
    · have hq3 : q < r.length := by omega
      simp only [go_sem, Nat.reduceBEq, iadr_pis hq3]
      refine call_pure2 hC (In_sem ..) rfl (PVleL_refl _) ?_
      rintro r rfl
      simp only [go_sem, Nat.reduceBEq, wrap_succ (k := q) (by omega)]
      refine ⟨⟨(q + 1, decide (0 ≤ r[q] ∧ r[q] ≤ 3)), hq3, fun h => ⟨hlen, fun x hxm => ?_⟩, fun h ho => of_decide_eq_false h (ho.2 _ (List.getElem_mem hq3))⟩, by simp only; omega, by simp [Wk, wkT, wkL, look, AV.lo, AV.lo.loL, ABlk.toZ]⟩
      rw [List.take_succ_eq_append_getElem hq3, List.mem_append, List.mem_singleton] at hxm
      rcases hxm with hxm | rfl
      · exact hx x hxm
      · exact of_decide_eq_true h
    · have hqn : q = r.length := by omega
      rw [hqn, List.take_length] at hx
      have hok : okRow b r := ⟨hlen, hx⟩
      have he : errI b (decide (okRow b r)) = 0 := by unfold errI; rw [if_pos ho, decide_eq_true hok]; rfl
      rw [he, if_pos rfl]
      refine call_pure2 hC (rwhose_sem k ho (by omega) hx) rfl (PVleL_refl _) ?_
      rintro r rfl
      simp only [go_sem, Nat.reduceBEq]
      exact retQ_two rfl rfl rfl
end Go.Proofs.Ytlghbmancjjdjaa
namespace Go.Proofs.Ytlghbmancjjdjaa
open Go.RowKit
def ac11 : AC := (AC.seq (AC.ops [(AOp.mk (some 2) (AK.box 2 (AX.t 0)) none 0 false true), (AOp.mk (some 4) (AK.mv (AX.c (PV.val (Value.bool false)))) none 1 false true)]) (AC.seq (AC.ops [(AOp.mk (some 13) (AK.ld (some 2) (AX.t 2)) none 0 false true), (AOp.mk (some 14) (AK.call 28 [(AX.t 13)]) none 1 false true), (AOp.mk (some 12) (AK.mv (AX.t 14)) none 2 false true), (AOp.mk (some 15) (AK.ext (AX.t 12) 0) none 3 false true), (AOp.mk (some 16) (AK.ext (AX.t 12) 1) none 4 false true), (AOp.mk (some 5) (AK.mv (AX.t 15)) none 5 false true), (AOp.mk (some 6) (AK.mv (AX.t 16)) none 6 false true)]) (AC.seq (AC.seq (AC.ops [(AOp.mk (some 17) (AK.ld (some 2) (AX.t 2)) none 0 false true), (AOp.mk (some 18) (AK.call 38 [(AX.t 17)]) none 1 false true), (AOp.mk (some 19) (AK.un UnOp.not (AX.t 18)) none 2 false true)]) (AC.cond (AX.t 19) (AC.seq (AC.ops [(AOp.mk (some 20) (AK.mv (AX.t 6)) none 0 false true), (AOp.mk (some 21) (AK.bin false BinOp.eql (AX.t 20) (AX.c (PV.val (Value.int IntKind.i64 70)))) none 1 false true), (AOp.mk (some 22) (AK.mv (AX.t 21)) none 2 false true), (AOp.mk (some 23) (AK.mv (AX.t 5)) (some (22, true)) 3 false true), (AOp.mk (some 24) (AK.len (AX.t 23)) (some (22, true)) 4 false true), (AOp.mk (some 25) (AK.bin false BinOp.eql (AX.t 24) (AX.c (PV.val (Value.int IntKind.i64 0)))) (some (22, true)) 5 false true), (AOp.mk (some 26) (AK.pick (AX.t 22) (AX.t 25) (AX.c (PV.val (Value.bool false)))) none 6 false true), (AOp.mk (some 27) (AK.mv (AX.t 26)) none 7 false true), (AOp.mk (some 28) (AK.call 25 []) (some (27, true)) 8 false true), (AOp.mk (some 29) (AK.pick (AX.t 27) (AX.t 28) (AX.c (PV.val (Value.bool false)))) none 9 false true), (AOp.mk (some 4) (AK.mv (AX.t 29)) none 10 false true)]) AC.ret) AC.skip)) (AC.seq (AC.ops [(AOp.mk (some 30) (AK.fadr 0 (AX.t 2)) none 0 false true), (AOp.mk (some 31) (AK.ld none (AX.t 30)) none 1 false true), (AOp.mk (some 32) (AK.mv (AX.t 1)) none 2 false true), (AOp.mk (some 33) (AK.call 49 [(AX.t 31), (AX.t 32)]) none 3 false true), (AOp.mk (some 7) (AK.mv (AX.t 33)) none 4 false true)]) (AC.seq (AC.ops [(AOp.mk (some 35) (AK.ld (some 2) (AX.t 2)) none 0 false true), (AOp.mk (some 36) (AK.mv (AX.t 7)) none 1 false true), (AOp.mk (some 37) (AK.call 26 [(AX.t 35), (AX.t 36)]) none 2 false true), (AOp.mk (some 34) (AK.mv (AX.t 37)) none 3 false true), (AOp.mk (some 38) (AK.ext (AX.t 34) 0) none 4 false true), (AOp.mk (some 39) (AK.ext (AX.t 34) 1) none 5 false true), (AOp.mk (some 8) (AK.mv (AX.t 38)) none 6 false true), (AOp.mk (some 9) (AK.mv (AX.t 39)) none 7 false true)]) (AC.seq (AC.seq (AC.ops [(AOp.mk (some 40) (AK.mv (AX.t 9)) none 0 false true), (AOp.mk (some 41) (AK.bin false BinOp.neq (AX.t 40) (AX.c (PV.val (Value.int IntKind.i64 0)))) none 1 false true)]) (AC.cond (AX.t 41) (AC.seq (AC.ops [(AOp.mk (some 4) (AK.mv (AX.c (PV.val (Value.bool false)))) none 0 false true)]) AC.ret) AC.skip)) (AC.seq (AC.seq (AC.ops [(AOp.mk (some 42) (AK.mv (AX.t 6)) none 0 false true), (AOp.mk (some 43) (AK.bin false BinOp.neq (AX.t 42) (AX.c (PV.val (Value.int IntKind.i64 0)))) none 1 false true)]) (AC.cond (AX.t 43) (AC.seq (AC.ops [(AOp.mk (some 44) (AK.mv (AX.t 6)) none 0 false true), (AOp.mk (some 45) (AK.bin false BinOp.eql (AX.t 44) (AX.c (PV.val (Value.int IntKind.i64 4)))) none 1 false true), (AOp.mk (some 46) (AK.mv (AX.t 45)) none 2 false true), (AOp.mk (some 47) (AK.mv (AX.t 5)) (some (46, true)) 3 false true), (AOp.mk (some 48) (AK.len (AX.t 47)) (some (46, true)) 4 false true), (AOp.mk (some 49) (AK.bin false BinOp.eql (AX.t 48) (AX.c (PV.val (Value.int IntKind.i64 0)))) (some (46, true)) 5 false true), (AOp.mk (some 50) (AK.pick (AX.t 46) (AX.t 49) (AX.c (PV.val (Value.bool false)))) none 6 false true), (AOp.mk (some 51) (AK.mv (AX.t 50)) none 7 false true), (AOp.mk (some 52) (AK.mv (AX.t 8)) (some (51, true)) 8 false true), (AOp.mk (some 53) (AK.len (AX.t 52)) (some (51, true)) 9 false true), (AOp.mk (some 54) (AK.bin false BinOp.gtr (AX.t 53) (AX.c (PV.val (Value.int IntKind.i64 0)))) (some (51, true)) 10 false true), (AOp.mk (some 55) (AK.pick (AX.t 51) (AX.t 54) (AX.c (PV.val (Value.bool false)))) none 11 false true), (AOp.mk (some 56) (AK.mv (AX.t 55)) none 12 false true), (AOp.mk (some 57) (AK.call 25 []) (some (56, true)) 13 false true), (AOp.mk (some 58) (AK.pick (AX.t 56) (AX.t 57) (AX.c (PV.val (Value.bool false)))) none 14 false true), (AOp.mk (some 4) (AK.mv (AX.t 58)) none 15 false true)]) AC.ret) AC.skip)) (AC.seq (AC.ops [(AOp.mk (some 60) (AK.ld (some 2) (AX.t 2)) none 0 false true), (AOp.mk (some 61) (AK.mv (AX.t 5)) none 1 false true), (AOp.mk (some 62) (AK.call 26 [(AX.t 60), (AX.t 61)]) none 2 false true), (AOp.mk (some 59) (AK.mv (AX.t 62)) none 3 false true), (AOp.mk (some 63) (AK.ext (AX.t 59) 0) none 4 false true), (AOp.mk (some 64) (AK.ext (AX.t 59) 1) none 5 false true), (AOp.mk (some 10) (AK.mv (AX.t 63)) none 6 false true), (AOp.mk (some 11) (AK.mv (AX.t 64)) none 7 false true)]) (AC.seq (AC.ops [(AOp.mk (some 65) (AK.mv (AX.t 11)) none 0 false true), (AOp.mk (some 66) (AK.bin false BinOp.eql (AX.t 65) (AX.c (PV.val (Value.int IntKind.i64 0)))) none 1 false true), (AOp.mk (some 67) (AK.mv (AX.t 66)) none 2 false true), (AOp.mk (some 68) (AK.mv (AX.t 10)) (some (67, true)) 3 false true), (AOp.mk (some 69) (AK.len (AX.t 68)) (some (67, true)) 4 false true), (AOp.mk (some 70) (AK.bin false BinOp.eql (AX.t 69) (AX.c (PV.val (Value.int IntKind.i64 0)))) (some (67, true)) 5 false true), (AOp.mk (some 71) (AK.pick (AX.t 67) (AX.t 70) (AX.c (PV.val (Value.bool false)))) none 6 false true), (AOp.mk (some 72) (AK.mv (AX.t 71)) none 7 false true), (AOp.mk (some 73) (AK.mv (AX.t 7)) (some (72, true)) 8 false true), (AOp.mk (some 74) (AK.mv (AX.t 5)) (some (72, true)) 9 false true), (AOp.mk (some 75) (AK.call 51 [(AX.t 73), (AX.t 74)]) (some (72, true)) 10 false true), (AOp.mk (some 76) (AK.un UnOp.not (AX.t 75)) (some (72, true)) 11 false true), (AOp.mk (some 77) (AK.mv (AX.t 76)) (some (72, true)) 12 false true), (AOp.mk (some 78) (AK.mv (AX.t 8)) (some (77, false)) 13 false true), (AOp.mk (some 79) (AK.len (AX.t 78)) (some (77, false)) 14 false true), (AOp.mk (some 80) (AK.bin false BinOp.gtr (AX.t 79) (AX.c (PV.val (Value.int IntKind.i64 0)))) (some (77, false)) 15 false true), (AOp.mk (some 81) (AK.pick (AX.t 77) (AX.c (PV.val (Value.bool true))) (AX.t 80)) (some (72, true)) 16 false true), (AOp.mk (some 82) (AK.pick (AX.t 72) (AX.t 81) (AX.c (PV.val (Value.bool false)))) none 17 false true), (AOp.mk (some 83) (AK.mv (AX.t 82)) none 18 false true), (AOp.mk (some 84) (AK.call 25 []) (some (83, true)) 19 false true), (AOp.mk (some 85) (AK.pick (AX.t 83) (AX.t 84) (AX.c (PV.val (Value.bool false)))) none 20 false true), (AOp.mk (some 4) (AK.mv (AX.t 85)) none 21 false true)]) AC.ret)))))))))
theorem ac11_ok : cCode Try.prog (fun _ => false) Try.f11.ntmps (Try.f11.body.getD .skip) = some ac11 := by kernel_rfl
theorem New_bad (k : SK) {b : DBook} (ho : ¬ okBook b) : Sem1 28 [.agg (bookC k b)] (.tup [pis [], pi 70]) :=
  (New_sem k b).mono fun _ e => e.trans (by unfold newR; rw [if_neg ho])
theorem New_none (k : SK) {b : DBook} (ho : okBook b) (hf : freeL b = []) : Sem1 28 [.agg (bookC k b)] (.tup [pis [], pi 4]) :=
  (New_sem k b).mono fun _ e => e.trans (by unfold newR; rw [if_pos ho, hf])
theorem New_some (k : SK) {b : DBook} (ho : okBook b) {z : List Int} {zs : List (List Int)} (hf : freeL b = z :: zs) : Sem1 28 [.agg (bookC k b)] (.tup [pis z, pi 0]) :=
  (New_sem k b).mono fun _ e => e.trans (by unfold newR; rw [if_pos ho, hf])
theorem Whose_ok (k : SK) {b : DBook} (ho : okBook b) {r : List Int} (hr : r ∈ sufs (nR b)) : Sem1 26 [.agg (bookC k b), pis r] (.tup [pis (natL (whoseI b (knownN r))), pi 0]) := by
  obtain ⟨h1, h2⟩ := mem_sufs.1 hr
  have he : errI b (decide (okRow b r)) = 0 := by
    unfold errI
    rw [if_pos ho, decide_eq_true (show okRow b r from ⟨by have := (okR ho).2.2; omega, h2⟩)]
    rfl
  exact (Whose_sem k b r).mono fun _ e => e.trans (by rw [if_pos he])
theorem sizesJ_mem (r : Nat) (bits : List Int) : sizesJ r bits ∈ sufs r := mem_sufs.2 ⟨sizesJ_len r bits, sizesJ_ok r bits⟩
theorem natL_len {l : List Nat} : (natL l).length = l.length := by unfold natL; rw [List.length_map]
set_option maxRecDepth 100000 in
theorem New_law (k : SK) (b : DBook) (bits : List Int) : Sem1 11 [.agg (bookC k b), pis bits] (pb true) := by
  by_cases ho : okBook b
  rotate_left
  · refine semC_of_exec' mixed Try.func11 (by kernel_rfl) (by kernel_rfl) ac11_ok 2 rfl (by decide) [(.tmp 4)] (by kernel_rfl) ?_
    intro hr C hC hI
    unfold ac11
    simp only [go_sem, Nat.reduceBEq, Nat.reduceAdd]
    refine call_pure2 hC (New_bad k ho) rfl (PVleL_refl _) ?_
    rintro r rfl
    simp only [go_sem, Nat.reduceBEq, Nat.reduceAdd]
    refine call_pure2 hC (sound_sem k b) rfl (PVleL_refl _) ?_
    rintro r rfl
    simp only [go_sem, Nat.reduceBEq, decide_true, List.length_nil, Int.natCast_zero]
    refine ⟨fun _ => ?_, fun h => absurd h ho⟩
    refine call_pure2 hC (pressed_sem) rfl (PVleL_refl _) ?_
    rintro r rfl
    simp only [go_sem, Nat.reduceBEq]
    exact retQ_one rfl rfl
  obtain ⟨h1, h8, hn⟩ := okR ho
  have hw := Whose_ok k ho (sizesJ_mem (nR b) bits)
  have hsz : Sem1 49 [pi b.round, pis bits] (pis (sizesJ (nR b) bits)) := by
    rw [hn]
    exact sizes2_sem (nR b) (by omega) bits
  cases hf : freeL b with
  | nil =>
    have hne := free_none ho hf (sizesJ_mem (nR b) bits)
    have hlen : (0 : Int) < (natL (whoseI b (knownN (sizesJ (nR b) bits)))).length := by
      rw [natL_len]
      have := List.length_pos_iff.2 hne
      omega
    refine semC_of_exec' mixed Try.func11 (by kernel_rfl) (by kernel_rfl) ac11_ok 2 rfl (by decide) [(.tmp 4)] (by kernel_rfl) ?_
    intro hr C hC hI
    unfold ac11
    simp only [go_sem, Nat.reduceBEq, Nat.reduceAdd]
    refine call_pure2 hC (New_none k ho hf) rfl (PVleL_refl _) ?_
    rintro r rfl
    simp only [go_sem, Nat.reduceBEq, Nat.reduceAdd]
    refine call_pure2 hC (sound_sem k b) rfl (PVleL_refl _) ?_
    rintro r rfl
    simp only [go_sem, Nat.reduceBEq]
    refine ⟨fun h => absurd ho h, fun _ => ?_⟩
    refine call_pure2 hC (hsz) rfl (PVleL_refl _) ?_
    rintro r rfl
    simp only [go_sem, Nat.reduceBEq, Nat.reduceAdd]
    refine call_pure2 hC (hw) rfl (PVleL_refl _) ?_
    rintro r rfl
    simp only [go_sem, Nat.reduceBEq, decide_true, decide_false, not_true_eq_false, not_false_eq_true, Int.reduceEq, List.length_map, List.length_nil, Int.natCast_zero, hlen]
    refine call_pure2 hC (pressed_sem) rfl (PVleL_refl _) ?_
    rintro r rfl
    simp only [go_sem, Nat.reduceBEq]
    exact retQ_one rfl rfl
  | cons z zs =>
    obtain ⟨hz, hz0, hlt⟩ := free_first ho hf
    have hwz := Whose_ok k ho hz
    rw [hz0, show natL [] = [] from rfl] at hwz
    obtain ⟨hz1, hz2⟩ := mem_sufs.1 hz
    refine semC_of_exec' mixed Try.func11 (by kernel_rfl) (by kernel_rfl) ac11_ok 2 rfl (by decide) [(.tmp 4)] (by kernel_rfl) ?_
    intro hr C hC hI
    unfold ac11
    simp only [go_sem, Nat.reduceBEq, Nat.reduceAdd]
    refine call_pure2 hC (New_some k ho hf) rfl (PVleL_refl _) ?_
    rintro r rfl
    simp only [go_sem, Nat.reduceBEq, Nat.reduceAdd]
    refine call_pure2 hC (sound_sem k b) rfl (PVleL_refl _) ?_
    rintro r rfl
    simp only [go_sem, Nat.reduceBEq]
    refine ⟨fun h => absurd ho h, fun _ => ?_⟩
    refine call_pure2 hC (hsz) rfl (PVleL_refl _) ?_
    rintro r rfl
    simp only [go_sem, Nat.reduceBEq, Nat.reduceAdd]
    refine call_pure2 hC (hw) rfl (PVleL_refl _) ?_
    rintro r rfl
    simp only [go_sem, Nat.reduceBEq, Nat.reduceAdd, decide_false, not_true_eq_false]
    refine call_pure2 hC (hwz) rfl (PVleL_refl _) ?_
    rintro r rfl
    simp only [go_sem, Nat.reduceBEq, decide_true, List.length_nil, Int.natCast_zero]
    refine call_pure2 hC (Less_sem (sizesJ (nR b) bits) z (by rw [sizesJ_len, hz1])) rfl (PVleL_refl _) ?_
    rintro r rfl
    simp only [go_sem, Nat.reduceBEq]
    cases hl : lexB (sizesJ (nR b) bits) z
    · simp only [go_sem, Nat.reduceBEq]
      refine call_pure2 hC (pressed_sem) rfl (PVleL_refl _) ?_
      rintro r rfl
      simp only [go_sem, Nat.reduceBEq]
      exact retQ_one rfl rfl
    · have hne := hlt _ (sizesJ_mem (nR b) bits) hl
      have hlen : (0 : Int) < (natL (whoseI b (knownN (sizesJ (nR b) bits)))).length := by
        rw [natL_len]
        have := List.length_pos_iff.2 hne
        omega
      simp only [go_sem, Nat.reduceBEq, decide_true, List.length_map, hlen]
      refine call_pure2 hC (pressed_sem) rfl (PVleL_refl _) ?_
      rintro r rfl
      simp only [go_sem, Nat.reduceBEq]
      exact retQ_one rfl rfl
set_option maxRecDepth 100000 in
theorem New_row {l0 l1 : List PV} (T0 : Ty Try.prog 10 24 l0) (T1 : Ty Try.prog 10 26 l1) : SemC Try.prog 11 [argPV Try.prog 24 l0, argPV Try.prog 26 l1] (fun r => r = pb true) := by
  obtain ⟨b, rfl⟩ := ty_book T0
  obtain ⟨l, rfl⟩ := ty_ints T1
  rw [argStruct Try.underlying24, argSlice Try.underlying26]
  exact New_law .sh b l
end Go.Proofs.Ytlghbmancjjdjaa
namespace Go.Proofs.Ytlghbmancjjdjaa
open Go.RowKit
def newB (b : DBook) (l t : List Int) : Bool := decide (whoseI b (knownN (l ++ t)) = [])
def newE (b : DBook) (r : Nat) (l : List Int) : Option (List Int) := (sufs r).find? (newB b l)
theorem newB_cons (b : DBook) (l : List Int) (s : Int) (t : List Int) : newB b l (s :: t) = newB b (l ++ [s]) t := by
  unfold newB; simp
theorem newE_step (b : DBook) (r : Nat) (l : List Int) : newE b (r + 1) l = (List.range 4).findSome? fun (s : Nat) => (newE b r (l ++ [(s : Int)])).map fun t => (s : Int) :: t := by
  show ((List.range 4).flatMap fun (s : Nat) => (sufs r).map fun t => (s : Int) :: t).find? (newB b l) = _
  rw [List.find?_flatMap]
  congr 1
  funext s
  rw [List.find?_map]
  show ((sufs r).find? (newB b l ∘ fun t => (s : Int) :: t)).map _ = ((sufs r).find? (newB b (l ++ [(s : Int)]))).map _
  rw [show (newB b l ∘ fun t => (s : Int) :: t) = newB b (l ++ [(s : Int)]) from funext fun t => newB_cons b l s t]
theorem newE_some {b : DBook} {r : Nat} {l t : List Int} {s : Nat} (hs : s < 4) (h : ∀ x : Nat, x < s → newE b r (l ++ [(x : Int)]) = none) (hl : newE b r (l ++ [(s : Int)]) = some t) : newE b (r + 1) l = some ((s : Int) :: t) := by
  rw [newE_step, List.findSome?_eq_some_iff]
  refine ⟨List.range s, s, (List.range' (s + 1) (3 - s)), ?_, by rw [hl]; rfl, fun x hx => by rw [h x (List.mem_range.1 hx)]; rfl⟩
  rw [List.range_eq_range', List.range_eq_range', ← List.range'_succ]
  have := List.range'_append (s := 0) (m := s) (n := 3 - s + 1) (step := 1)
  rw [Nat.one_mul, Nat.zero_add, show s + (3 - s + 1) = 4 by omega] at this
  exact this.symm
theorem newE_none {b : DBook} {r : Nat} {l : List Int} (h : ∀ x : Nat, x < 4 → newE b r (l ++ [(x : Int)]) = none) : newE b (r + 1) l = none := by
  rw [newE_step, List.findSome?_eq_none_iff]
  intro x hx
  rw [h x (List.mem_range.1 hx)]
  rfl
def FoundQ (b : DBook) (r : Nat) (l : List Int) (v : PV) : Prop := (∃ t, newE b r l = some t ∧ v = .tup [pis (l ++ t), pb true]) ∨ (newE b r l = none ∧ ∃ l', v = .tup [pis l', pb false])
theorem found_ok (k : SK) {b : DBook} (ho : okBook b) : ∀ (r : Nat) (l : List Int), l.length + r = nR b → (∀ x ∈ l, 0 ≤ x ∧ x ≤ 3) → SemC Try.prog 81 [.agg (bookC k b), pis l] (FoundQ b r l)
  | 0, l, hl, hr3 => by
    obtain ⟨h1, h8, hn⟩ := okR ho
    refine semC_of_exec' mixed Try.func81 (by kernel_rfl) (by kernel_rfl) ac81_ok 2 rfl (by decide) [(.tmp 4), (.tmp 5)] (by kernel_rfl) ?_
    intro hr C hC hI
    unfold ac81
    simp only [go_sem, Nat.reduceBEq, Nat.reduceAdd, List.length_map]
    have hlen : (l.length : Int) = b.round := by omega
    refine ⟨fun _ => ?_, fun h => absurd hlen h⟩
    refine call_pure2 hC (rwhose_sem k ho (show l.length = nR b by omega) hr3) rfl (PVleL_refl _) ?_
    rintro r rfl
    simp only [go_sem, Nat.reduceBEq, List.length_map]
    refine retQ_two rfl rfl ?_
    by_cases hw : whoseI b (knownN l) = []
    · refine .inl ⟨[], ?_, ?_⟩
      · unfold newE sufs newB
        simp [hw]
      · rw [hw]; simp [natL]
    · refine .inr ⟨?_, l, ?_⟩
      · unfold newE sufs newB
        simp [hw]
      · have : ¬ ((natL (whoseI b (knownN l))).length : Int) = 0 := by
          rw [natL_len]
          have := List.length_pos_iff.2 hw
          omega
        rw [decide_eq_false this]
  | r + 1, l, hl, hr3 => by
    obtain ⟨h1, h8, hn⟩ := okR ho
    have hrec := found_ok k ho r
    have hlen : ¬ (l.length : Int) = b.round := by omega
    refine semC_of_exec' mixed Try.func81 (by kernel_rfl) (by kernel_rfl) ac81_ok 2 rfl (by decide) [(.tmp 4), (.tmp 5)] (by kernel_rfl) ?_
    intro hr C hC hI
    unfold ac81
    simp only [go_sem, Nat.reduceBEq, Nat.reduceAdd, List.length_map]
    refine ⟨fun h => absurd h hlen, fun _ => ?_⟩
    refine loop_k 4 (fun s => ∀ x : Nat, x < s → newE b r (l ++ [(x : Int)]) = none) [1, 2] (fun s => [(6, .p (pi s))]) (fun x h => absurd h (by omega)) rfl ⟨rfl, by simp, by simp⟩ (by simp [wkT, look, AV.lo]) ?_
    rintro s ⟨hs, hok⟩
    simp only [go_sem, Nat.reduceBEq, Nat.reduceAdd]
    refine ⟨fun h5 => ?_, fun h5 => ?_⟩
    · have hs2 : s < 4 := by omega
      refine call_pure2 hC (Add_sem l s (by omega)) rfl (PVleL_refl _) ?_
      rintro r rfl
      simp only [go_sem, Nat.reduceBEq]
      refine call_pure2 hC (hrec (l ++ [(s : Int)]) (by rw [List.length_append, List.length_singleton]; omega) (fun x hx => by
        rcases List.mem_append.1 hx with hx | hx
        · exact hr3 x hx
        · rw [List.mem_singleton] at hx; omega)) rfl (PVleL_refl _) ?_
      rintro v (⟨t, ht, rfl⟩ | ⟨ht, l', rfl⟩)
      · simp only [go_sem, Nat.reduceBEq]
        refine retQ_two rfl rfl (.inl ⟨_, newE_some hs2 hok ht, ?_⟩)
        simp
      · simp only [go_sem, Nat.reduceBEq, wrap_succ (k := s) (by omega)]
        refine ⟨⟨s + 1, hs2, fun x hx => ?_⟩, by simp only; omega, by simp [Wk, wkT, wkL, look, AV.lo, AV.lo.loL, ABlk.toZ]⟩
        by_cases e : x = s
        · rw [e]; exact ht
        · exact hok x (by omega)
    · have hs4 : s = 4 := by omega
      subst hs4
      exact retQ_two_le rfl rfl (PVle.nil _ _ _) (PVle.refl _) (.inr ⟨newE_none hok, [], rfl⟩)
theorem newE_top {b : DBook} (ho : okBook b) : newE b (nR b) [] = (freeL b).head? := by
  rw [free_eq ho, List.head?_filter]
  unfold newE newB
  simp only [List.nil_append]
theorem rNew_sem (k : SK) (b : DBook) : Sem1 29 [.agg (bookC k b)] (newR b) := by
  obtain ⟨R, hR⟩ : ∃ R, newR b = R := ⟨_, rfl⟩
  rw [hR]
  unfold newR at hR
  refine semC_of_exec' mixed Try.func29 (by kernel_rfl) (by kernel_rfl) ac29_ok 1 rfl (by decide) [(.tmp 2), (.tmp 3)] (by kernel_rfl) ?_
  intro hr C hC hI
  unfold ac29
  simp only [go_sem, Nat.reduceBEq, Nat.reduceAdd]
  refine call_pure2 hC (rCheck_sem k b) rfl (PVleL_refl _) ?_
  rintro r rfl
  simp only [go_sem, Nat.reduceBEq, Nat.reduceAdd]
  by_cases ho : okBook b
  rotate_left
  · rw [if_neg ho] at hR
    rw [if_neg ho]
    exact ⟨fun _ => retQ_two_le rfl rfl (PVle.nil _ _ _) (PVle.refl _) hR, fun h => absurd h (by decide)⟩
  rw [if_pos ho] at hR
  rw [if_pos ho]
  refine ⟨fun h => absurd rfl h, fun _ => ?_⟩
  refine call_pure2 hC (found_ok k ho (nR b) [] (by simp) (by simp)) rfl ⟨PVle.refl _, PVle.sh _ _ _, trivial⟩ ?_
  have ht := newE_top ho
  rintro v (⟨t, h1, rfl⟩ | ⟨h1, l', rfl⟩)
  · rw [h1] at ht
    cases hf : freeL b with
    | nil => rw [hf] at ht; cases ht
    | cons z zs =>
      rw [hf] at ht hR
      cases ht
      simp only [go_sem, Nat.reduceBEq]
      exact retQ_two rfl rfl hR
  · rw [h1] at ht
    cases hf : freeL b with
    | cons z zs => rw [hf] at ht; cases ht
    | nil =>
      rw [hf] at hR
      simp only [go_sem, Nat.reduceBEq]
      exact retQ_two_le rfl rfl (PVle.nil _ _ _) (PVle.refl _) hR
end Go.Proofs.Ytlghbmancjjdjaa
